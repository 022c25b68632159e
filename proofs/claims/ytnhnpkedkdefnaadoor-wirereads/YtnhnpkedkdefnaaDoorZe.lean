/- The law WireWrites walked: it returns true, and changes nothing that was there. -/
import Derived.Test.YtnhnpkedkdefnaaDoorZd
import Derived.Test.YtnhnpkedkdefnaaDoorZf
namespace Go.Proofs.YtnhnpkedkdefnaaDoor
open Go.ChangeShapes Go.WideShapes Go.ChangeAt Go.RowKit
set_option linter.unusedVariables false
set_option linter.unusedSimpArgs false
abbrev ptrO (s : Nat) : Obj := .cells #[.pointer (some ⟨s, 0, none⟩), .pointer (some ⟨s + 1, 0, none⟩)] 26
def D0 (s : Nat) : Nat → Wd := fun k => ⟨s + k, none, 0, 0, [], false, none, 0, 0, [], false⟩
def lab0 (s : Nat) : Nat → Nat := fun p => if p = s then 3 else if p = s + 1 then 4 else if p = s + 2 then 0 else if p = s + 3 then 1 else 2
theorem blk_keep {w : World} {k : Nat} {x : Obj} (h : w.heap[k]? = some x) (o : Obj) : (w.alloc o).heap[k]? = some x := (Below.heap_alloc w o k (Array.getElem?_eq_some_iff.1 h).1).trans h
theorem blk_new {w : World} {k : Nat} (o : Obj) (h : k = w.heap.size) : (w.alloc o).heap[k]? = some o := by rw [h]; exact heap_alloc_new w o
theorem st_begin {w w1 : World} (B1 : Below w.heap.size w w1) : St w (((((w1.alloc wz).alloc wz).alloc (ptrO w1.heap.size)).alloc (.cells #[.slice none 0 0, .slice none 0 0] 28)).alloc (.cells #[.bool false, .bool false] 29)) (w1.heap.size + 1 + 1 + 1) (w1.heap.size + 1 + 1 + 1 + 1) [(w1.heap.size + 1 + 1, ptrO w1.heap.size)] (D0 w1.heap.size) (lab0 w1.heap.size) := by
  have hs := B1.size
  refine ⟨((((B1.alloc hs _).alloc (by simp; omega) _).alloc (by simp; omega) _).alloc (by simp; omega) _).alloc (by simp; omega) _, ?_, ?_, fun k hk => ?_, fun k hk => Own.nil _ _, ?_, fun k hk => by show _ ≤ w1.heap.size + k; omega, by omega, by omega, ?_, ?_, fun k hk => ?_, fun k hk p hp => by simp [D0, blkOf] at hp, fun k hk p hp => by simp [D0, blkOf] at hp⟩
  · exact blk_keep (blk_new _ (by simp)) _
  · exact blk_new _ (by simp)
  · have hk2 : k = 0 ∨ k = 1 := by omega
    rcases hk2 with rfl | rfl
    · exact ⟨blk_keep (blk_keep (blk_keep (blk_keep (blk_new _ rfl) _) _) _) _, Own.nil _ _, by simp [D0, blkOf]⟩
    · exact ⟨blk_keep (blk_keep (blk_keep (blk_new _ (by simp [D0])) _) _) _, Own.nil _ _, by simp [D0, blkOf]⟩
  · intro q o ho
    simp only [List.mem_cons, List.not_mem_nil, or_false, Prod.mk.injEq] at ho
    obtain ⟨rfl, rfl⟩ := ho
    exact ⟨blk_keep (blk_keep (blk_new _ (by simp)) _) _, by rw [lab0, if_neg (by omega), if_neg (by omega), if_pos (by omega)]⟩
  · rw [lab0, if_neg (by omega), if_neg (by omega), if_neg (by omega), if_pos (by omega)]
  · rw [lab0, if_neg (by omega), if_neg (by omega), if_neg (by omega), if_neg (by omega)]
  · have hk2 : k = 0 ∨ k = 1 := by omega
    rcases hk2 with rfl | rfl
    · show lab0 _ (w1.heap.size + 0) = _
      rw [lab0, if_pos (by omega)]
    · show lab0 _ (w1.heap.size + 1) = _
      rw [lab0, if_neg (by omega), if_pos (by omega)]
theorem ptr_cell {w : World} {b s k : Nat} (h : w.heap[b]? = some (ptrO s)) (hk : k < 2) : w.cell? ⟨b, k, none⟩ = some (.pointer (some ⟨s + k, 0, none⟩)) := by
  have hk2 : k = 0 ∨ k = 1 := by omega
  rcases hk2 with rfl | rfl <;> simp [World.cell?, h]
theorem Inv.zero (s : Nat) : Inv s 0 (D0 s) := ⟨fun _ _ => rfl, fun _ _ => rfl, fun _ _ => rfl, fun _ _ => Nat.le_refl _⟩
/- what a step of the loop needs to know of writer k -/
structure Now (w wr : World) (b4 b5 : Nat) (E : List (Nat × Obj)) (D : Nat → Wd) (lab : Nat → Nat) (k : Nat) (d : Wd) : Prop where
  st : St w wr b4 b5 E D lab
  eq : D k = d
theorem Now.wri {w wr : World} {b4 b5 k : Nat} {E : List (Nat × Obj)} {D : Nat → Wd} {lab : Nat → Nat} {d : Wd} (h : Now w wr b4 b5 E D lab k d) (hk : k < 2) : Wri wr d.g w.heap.size d.a d.n d.c d.X d.s := by rw [← h.eq]; exact h.st.wri k hk
theorem Now.w {w wr wr' : World} {b4 b5 k : Nat} {E : List (Nat × Obj)} {D : Nat → Wd} {lab : Nat → Nat} {d : Wd} (h : Now w wr b4 b5 E D lab k d) (hk : k < 2) {a' : Option Addr} {n' c' : Nat} {X' : List Nat} {s' : Bool} (hw : Wri wr' d.g w.heap.size a' n' c' X' s') (f : Wfr wr wr' d.g d.a) (new : New wr d.a a') :
    Now w wr' b4 b5 E (upd D k { d with a := a', n := n', c := c', X := X', s := s' }) (rel wr.heap.size (5 + k) lab) k { d with a := a', n := n', c := c', X := X', s := s' } := by
  have e := h.eq
  subst e
  exact ⟨h.st.wstep hk hw f new, upd_same _ _ _⟩
theorem Now.t {w wr : World} {b4 b5 k : Nat} {E : List (Nat × Obj)} {D : Nat → Wd} {lab : Nat → Nat} {d : Wd} (h : Now w wr b4 b5 E D lab k d) (hk : k < 2) : Now w (wr.setCell ⟨b5, k, none⟩ (.bool true)) b4 b5 E (upd D k { d with t := true }) lab k { d with t := true } := by
  have e := h.eq
  subst e
  exact ⟨h.st.tstep hk, upd_same _ _ _⟩
theorem Now.below {w wr wr' : World} {b4 b5 k : Nat} {E : List (Nat × Obj)} {D : Nat → Wd} {lab : Nat → Nat} {d : Wd} (h : Now w wr b4 b5 E D lab k d) (hb : Below wr.heap.size wr wr') : Now w wr' b4 b5 E D lab k d := ⟨h.st.below hb, h.eq⟩
theorem Now.p {w W w7 : World} {b4 b5 k q : Nat} {E : List (Nat × Obj)} {D : Nat → Wd} {lab : Nat → Nat} {d : Wd} {Y : List Nat} {a7 : Option Addr} {n7 c7 : Nat} {x : Opt} {ab : Option Addr} {nb cb : Nat} (h : Now w W b4 b5 E D lab k d) (hk : k < 2) (hq : (q, oO x ab nb cb) ∈ E) (B7 : Below W.heap.size W w7) (O7 : Own w7 W.heap.size a7 n7 c7 Y) (hb : d.pn + n7 ≤ 140737488352256) :
    ∃ a8 c8 w8, (Builtin.append_ #[27, 27] 27 #[.slice d.pa d.pn d.pc, .slice a7 n7 c7]).run Tryd.prog w7 = .ok (.slice a8 (d.pn + n7) c8) w8 ∧ (w7.cell? ⟨b4, k, none⟩ = some (.slice d.pa d.pn d.pc) ∧ Loc w7 q x ab nb cb) ∧ (w8.cell? ⟨b4, k, none⟩ = some (.slice d.pa d.pn d.pc) ∧ Loc w8 q x ab nb cb ∧ w8.frozen? ⟨b4, k, none⟩ = false) ∧
      Now w (w8.setCell ⟨b4, k, none⟩ (.slice a8 (d.pn + n7) c8)) b4 b5 E (upd D k { d with pa := a8, pn := d.pn + n7, pc := c8, P := d.P ++ Y }) (rel W.heap.size (7 + k) lab) k { d with pa := a8, pn := d.pn + n7, pc := c8, P := d.P ++ Y } ∧ Ch W (w8.setCell ⟨b4, k, none⟩ (.slice a8 (d.pn + n7) c8)) (fun j => lab j = 7 + k ∨ lab j = 1) := by
  have e := h.eq
  subst e
  obtain ⟨a8, c8, w8, h1, h2, h3, h4, h5⟩ := put_step h.st hk hq ⟨rfl, rfl, rfl, rfl⟩ B7 O7 hb
  exact ⟨a8, c8, w8, h1, h2, h3, ⟨h4, upd_same _ _ _⟩, h5⟩
/- at the end of a round -/
theorem end_round {w wr : World} {b4 b5 k s bd bd' : Nat} {E : List (Nat × Obj)} {y : Nat × Obj} {D D' : Nat → Wd} {lab : Nat → Nat} {d : Wd} (h : St w wr b4 b5 (y :: E) D' lab) (he : D' = upd D k d) (hi : Inv s bd D) (hb : bd ≤ bd') (h1 : d.g = s + k) (h2 : d.P = d.X) (h3 : d.t = d.s) (h4 : d.n ≤ bd') : ∃ D lab, St w wr b4 b5 E D lab ∧ Inv s bd' D := by
  subst he
  exact ⟨_, _, h.less (fun z hz => List.mem_cons_of_mem _ hz), hi.upd hb h1 h2 h3 h4⟩
theorem Ch.oth {g : Nat} {w w' : World} (h : Oth g w w') : Ch w w' (fun q => q = g) := ⟨h.os, h.tape, h.output, Nat.le_of_eq h.size.symm, fun k _ hn => h.block k hn⟩
theorem St.one {w wr wr' : World} {b4 b5 : Nat} {E : List (Nat × Obj)} {D : Nat → Wd} {lab : Nat → Nat} {gb v : Nat} (hv : 9 ≤ v) (h : St w wr b4 b5 E D lab) (hg : lab gb = v) (hge : w.heap.size ≤ gb) (ch : Ch wr wr' (fun q => q = gb)) : St w wr' b4 b5 E D lab := by
  have l4 := h.l4
  have l5 := h.l5
  exact { h with
    bel := ch.belowB h.bel h.bel.size (fun q _ e => by rw [e]; exact hge)
    h4 := (ch.block b4 h.lt4 (fun e => by rw [e] at l4; omega)).trans h.h4
    h5 := (ch.block b5 h.lt5 (fun e => by rw [e] at l5; omega)).trans h.h5
    wri := fun j hj => (h.wri j hj).ch ch (fun e => by have := h.lg j hj; rw [e] at this; omega) (fun q hq e => by have := h.la j hj q hq; rw [e] at this; omega)
    put := fun j hj => (h.put j hj).ch ch (fun q hq e => by have := h.lp j hj q hq; rw [e] at this; omega)
    fx := fun q o ho => ⟨(ch.block q (Array.getElem?_eq_some_iff.1 (h.fx q o ho).1).1 (fun e => by have := (h.fx q o ho).2; rw [e] at this; omega)).trans (h.fx q o ho).1, (h.fx q o ho).2⟩ }
/- what region 38 reads -/
def wS4 (b4 k : Nat) (vb vp : Value) (t : ByteArray) (_ : Array Bool) (W : World) : Prop := (convert 27 9 vb).run Tryd.prog W = .ok (.string t) W ∧ W.cell? ⟨b4, k, none⟩ = some vp ∧ (convert 27 9 vp).run Tryd.prog W = .ok (.string t) W
abbrev threeO : Obj := .cells #[.int .u8 1, .int .u8 2, .int .u8 3] 5
set_option maxRecDepth 20000 in
set_option maxHeartbeats 2000000 in
theorem writes_n {w : World} {a : Option Addr} {n c : Nat} {L : List Opt} {E : Nat → Addr} (hO : Hid (Ops w a n L)) (hz : Hid (a = none → c = 0)) (hnc : n ≤ c) (hT : Hid (tot L ≤ 1048576)) (hE : Hid (Sent w 1 E)) :
    Calls Tryd.prog 3 #[.slice a n c] w fun e w' => e = .returned (.bool true) ∧ Hid (Below w.heap.size w w') := by
  have hn : n ≤ 1048576 := by rw [hO.out.len]; exact Nat.le_trans (len_tot L) hT.out
  obtain ⟨qs, hqL, hqok, hqX⟩ := ops_of hO.out
  have hnq : Hid (n = qs.length) := by have h1 := hO.out.len; rw [← hqL] at h1; simpa [Hid] using h1
  go_enter Tryd.func3, Tryd.ntmps3
  go_upto_region 3 with (first
    | (go_at_call 9; refine (alive_n w).mono ?_; rintro e w1 ⟨rfl, B1⟩))
  have ST0 := st_begin B1.out
  go_upto_region 6 with (first
    | (go_at_call 10; refine (newWriter_n _).mono ?_; rintro e w2 ⟨rfl, h2⟩; rw [h2.out]; clear h2))
  go_upto_region 8 with (fail)
  obtain ⟨W5, HW5⟩ : ∃ W5, Hid ((((((w1.alloc wz).alloc wz).alloc (ptrO w1.heap.size)).alloc (.cells #[.slice none 0 0, .slice none 0 0] 28)).alloc (.cells #[.bool false, .bool false] 29)) = W5) := ⟨_, rfl⟩
  have HW5' := HW5.out
  unfold wz ptrO at HW5'
  rw [HW5.out] at ST0
  rw [HW5']
  clear HW5' HW5
  obtain ⟨s, Hs⟩ : ∃ s, Hid (w1.heap.size = s) := ⟨_, rfl⟩
  rw [Hs.out] at ST0 ⊢
  obtain ⟨b3, H3⟩ : ∃ b3, Hid (s + 1 + 1 = b3) := ⟨_, rfl⟩
  rw [H3.out] at ST0 ⊢
  obtain ⟨b4, H4⟩ : ∃ b4, Hid (b3 + 1 = b4) := ⟨_, rfl⟩
  rw [H4.out] at ST0 ⊢
  obtain ⟨b5, H5⟩ : ∃ b5, Hid (b4 + 1 = b5) := ⟨_, rfl⟩
  rw [H5.out] at ST0 ⊢
  have S5 : Hid (St w W5 b4 b5 [(b3, ptrO s)] (D0 s) (lab0 s)) := ST0
  clear ST0 Hs H3 H4 H5 B1
  -- the script, copied
  have b6 : Below W5.heap.size W5 (W5.alloc (.cells #[] 31)) := (Below.refl _ _).alloc (Nat.le_refl _) _
  have bw6 : Below w.heap.size w (W5.alloc (.cells #[] 31)) := S5.out.bel.trans (b6.mono S5.out.bel.size)
  obtain ⟨g7, cap7, W7, r7, own7, gr7⟩ := app_ops (a := a) (c := c) (oow_new W5) hnq.out (hqX.imp id (fun ⟨b, o, h1, h2⟩ => ⟨b, o, h1, fun j u hu => (bw6.cell (p := ⟨b, o + j, none⟩) (cell_lt (h2 j u hu))).trans (h2 j u hu)⟩)) hz.out (by omega) (by simp)
  rw [Nat.zero_add] at r7 own7
  rw [List.nil_append] at own7
  have b7 : Below W5.heap.size W5 W7 := b6.grown gr7 b6.size (fun j e => by simp at e; omega)
  have b8 : Below W5.heap.size W5 (W7.alloc fourO) := b7.alloc b7.size _
  obtain ⟨g8, cap8, W8, r8, own8, gr8⟩ := app_ops (a := some ⟨W7.heap.size, 0, none⟩) (c := 4) (n := 4) (qs := four4) (World.ownsRow.alloc own7 fourO) rfl (.inr ⟨_, 0, rfl, four_cells W7⟩) (by simp) (by omega) b8.size
  have ge7 := own7.cells.1
  have b9 : Below W5.heap.size W5 W8 := b8.grown gr8 b8.size (fun j e => by simp at e; omega)
  have AP1 : Hid ((Builtin.append_ #[22, 22] 22 #[.slice (some ⟨W5.heap.size, 0, none⟩) 0 0, .slice a n c]).run Tryd.prog (W5.alloc (.cells #[] 31)) = .ok (.slice (some ⟨g7, 0, none⟩) n cap7) W7) := r7
  have AP2 : Hid ((Builtin.append_ #[22, 22] 22 #[.slice (some ⟨g7, 0, none⟩) n cap7, .slice (some ⟨W7.heap.size, 0, none⟩) 4 4]).run Tryd.prog (W7.alloc fourO) = .ok (.slice (some ⟨g8, 0, none⟩) (n + 4) cap8) W8) := r8
  obtain ⟨Q, HQ⟩ : ∃ Q, Hid (qs ++ four4 = Q) := ⟨_, rfl⟩
  obtain ⟨m, Hm⟩ : ∃ m, Hid (n + 4 = m) := ⟨_, rfl⟩
  have QL : Hid (Q.length = m) := by rw [← HQ.out, ← Hm.out, hnq.out]; simp [Hid, four4]
  have QT : Hid (tot (Q.map (·.x)) ≤ 1048580) := by
    have h1 := hT.out
    rw [← HQ.out, List.map_append, tot_app, hqL]
    show _ ≤ _
    have : tot (four4.map (·.x)) = 4 := by decide
    omega
  have QK : Hid (∀ q ∈ Q, q.ok w) := by
    rw [← HQ.out]
    intro q hq
    rcases List.mem_append.1 hq with h | h
    · exact hqok q h
    · exact four_ok w q h
  have QC : Hid (∀ j u, (qcells Q)[j]? = some u → W8.cell? ⟨g8, 0 + j, none⟩ = some u) := by rw [← HQ.out]; exact own8.cells.2.2
  have hm : m ≤ 1048580 := by rw [← Hm.out]; omega
  obtain ⟨O8, HO8⟩ : ∃ O8, W8.heap[g8]? = some O8 := ⟨_, Array.getElem?_eq_getElem own8.cells.2.1⟩
  have QC2 : Hid (W8.heap[g8]? = some O8) := HO8
  have S8 : Hid (St w W8 b4 b5 ((g8, O8) :: [(b3, ptrO s)]) (D0 s) (rel W5.heap.size 0 (lab0 s))) := S5.out.fix b9 own8.cells.1 HO8
  rw [Hm.out] at AP2
  clear r7 own7 gr7 b7 b8 r8 own8 gr8 ge7 b9 HO8 S5 b6 bw6 hqX hqok hqL HQ
  go_upto_region 9 with (first
    | (at_builtin; refine wpList_app22 (by rfl) (.tmp 28) (.tmp 29) (by rfl) (by rfl) (by rfl) (by rfl) AP1 ?_)
    | (at_builtin; refine wpList_app22 (by rfl) (.tmp 30) (.tmp 35) (by rfl) (by rfl) (by rfl) (by rfl) AP2 ?_))
  go_wp2
  obtain ⟨E0, HE0⟩ : ∃ E0, Hid (((g8, O8) :: [(b3, ptrO s)] : List (Nat × Obj)) = E0) := ⟨_, rfl⟩
  rw [HE0.out] at S8
  have M8 : Hid ((g8, O8) ∈ E0 ∧ (b3, ptrO s) ∈ E0) := by rw [← HE0.out]; exact ⟨by simp, by simp⟩
  clear HE0
  have I8 : Hid (Inv s (9 * tot ((Q.map (·.x)).take 0)) (D0 s)) := Inv.zero s
  go_loopw [38] (fun ti wr => ∃ (i : Nat) (D : Nat → Wd) (lab : Nat → Nat), i ≤ m ∧ ti = .int .i64 i ∧ Hid (St w wr b4 b5 E0 D lab ∧ Inv s (9 * tot ((Q.map (·.x)).take i)) D)) (fun ti _ => m - (intOf ti).toNat)
  case atStart => exact ⟨0, D0 s, _, by omega, rfl, S8.out, I8.out⟩
  case round =>
    clear S8 I8
    obtain ⟨i, D, lab, him, rfl, HR⟩ := hrel
    by_cases hlt : i < m
    · have hiQ : i < Q.length := by rw [QL.out]; exact hlt
      have he : wr.heap[g8]? = W8.heap[g8]? := by rw [(HR.out.1.fx g8 O8 M8.out.1).1, QC2.out]
      obtain ⟨d0, d1, d2, d3⟩ := row_op QC.out he hiQ
      have K := QK.out _ (getD_mem hiQ)
      have TK := tot_nextq hiQ
      have TL := Nat.le_trans (tot_take (Q.map (·.x)) (i + 1)) QT.out
      obtain ⟨⟨x, ab, nb, cb⟩, Hoq⟩ : ∃ oq, Hid (Q.getD i default = oq) := ⟨_, rfl⟩
      rw [Hoq.out] at d0 d1 d2 d3 K TK
      have OK : Hid (Oq.ok ⟨x, ab, nb, cb⟩ w) := K
      simp only at d0 d1 d2 d3
      obtain ⟨bd, HBD⟩ : ∃ bd, Hid (9 * tot ((Q.map (·.x)).take i) = bd) := ⟨_, rfl⟩
      obtain ⟨bd', HBD'⟩ : ∃ bd', Hid (9 * tot ((Q.map (·.x)).take (i + 1)) = bd') := ⟨_, rfl⟩
      have NB : Hid (nb = x.bs.length) := OK.out.sl.len
      have BDL : Hid (bd' = bd + 9 * nb + 9 ∧ bd' ≤ 9437220) := by
        have h1 := NB.out
        simp only at TK
        rw [← HBD.out, ← HBD'.out, TK]
        exact ⟨by omega, by omega⟩
      rw [HBD.out] at HR
      obtain ⟨dd, HL⟩ : ∃ dd, Hid (m = i + 1 + dd) := ⟨m - i - 1, by show _ = _; omega⟩
      have FINI : Hid (∀ wN D2 lab2, St w wN b4 b5 E0 D2 lab2 → Inv s bd' D2 → ∃ (D : Nat → Wd) (lab : Nat → Nat), St w wN b4 b5 E0 D lab ∧ Inv s (9 * tot ((Q.map (·.x)).take (i + 1))) D) := fun wN D2 lab2 h1 h2 => ⟨D2, lab2, h1, by rw [HBD'.out]; exact h2⟩
      clear K TK TL he hiQ HBD HBD' Hoq
      go_upto_region 11 with (fail)
      obtain ⟨w5, W5'⟩ : ∃ w5, Hid (wr.alloc (oO x ab nb cb) = w5) := ⟨_, rfl⟩
      obtain ⟨q, Hq⟩ : ∃ q, Hid (wr.heap.size = q) := ⟨_, rfl⟩
      obtain ⟨lab1, HL1⟩ : ∃ l, Hid (rel wr.heap.size 0 lab = l) := ⟨_, rfl⟩
      have S5 : Hid (St w w5 b4 b5 ((q, oO x ab nb cb) :: E0) D lab1) := by rw [← W5'.out, ← Hq.out, ← HL1.out]; exact HR.out.1.alloc _
      have I5 : Hid (Inv s bd D) := HR.out.2
      have HW5 := W5'.out
      unfold oO at HW5
      rw [HW5, Hq.out]
      clear HW5 W5' Hq HL1 d0 d1 d2 d3 HR
      obtain ⟨k, hk, em⟩ := and_one x.which
      have L5 : Hid (Loc w5 q x ab nb cb) := S5.out.loc (List.mem_cons_self ..)
      have e1 := L5.out.c1
      have e0 := L5.out.c0
      have hki : (k : Int) < 2 := by omega
      obtain ⟨⟨G, A, N1, C1, X, sp, PA, PN, PC, P, tt⟩, Hd⟩ : ∃ d, Hid (D k = d) := ⟨_, rfl⟩
      have N5 : Hid (Now w w5 b4 b5 ((q, oO x ab nb cb) :: E0) D lab1 k ⟨G, A, N1, C1, X, sp, PA, PN, PC, P, tt⟩) := ⟨S5.out, Hd.out⟩
      have iG := I5.out.g k hk
      have iP := I5.out.P k hk
      have iT := I5.out.t k hk
      have iN := I5.out.n k hk
      rw [Hd.out] at iG iP iT iN
      simp only at iG iP iT iN
      subst iP
      subst iT
      have HG : Hid (G = s + k) := iG
      have c3 : w5.cell? ⟨b3, k, none⟩ = some (.pointer (some ⟨G, 0, none⟩)) := by rw [HG.out]; exact ptr_cell (S5.out.fx b3 _ (List.mem_cons_of_mem _ M8.out.2)).1 hk
      have R5 : Hid (Wri w5 G w.heap.size A N1 C1 P tt) := N5.out.wri hk
      have PNB : Hid (PN ≤ 9437220 ∧ N1 ≤ bd ∧ PN = N1) := by
        have h1 := S5.out.put k hk
        rw [Hd.out] at h1
        have h2 := h1.len
        have h3 := R5.out.own.len
        have h4 := BDL.out
        exact ⟨by simp only at h2; omega, iN, by simp only at h2; omega⟩
      clear iG iN Hd
      go_upto_region 14 with (fail)
      clear e1 c3 em
      obtain ⟨kd, Hk⟩ : ∃ kd, Hid (x.kind = kd) := ⟨_, rfl⟩
      rw [Hk.out] at e0 ⊢
      clear e0
      have Z5 : Hid (w.heap.size ≤ w5.heap.size) := S5.out.bel.size
      by_cases h1 : kd = 1
      · subst h1
        have e2 := L5.out.c2
        have NW := OK.out.w2
        obtain ⟨z, Hz⟩ : ∃ z, Hid (x.num = z) := ⟨_, rfl⟩
        simp only at NW
        rw [Hz.out] at e2 NW
        by_cases hneg : z < 0
        · go_upto_region 16 with (first
            | (go_at_call 11; refine (num_bad R5 NW hneg).mono ?_; rintro e w6 ⟨rfl, H6⟩))
          have N6 := N5.out.w hk H6.out.1 H6.out.2 (fun q hq => .inl hq)
          have e2' : w6.cell? ⟨q, 2, none⟩ = some (.int .i64 z) := by rw [← Hz.out]; exact (N6.st.loc (List.mem_cons_self ..)).c2
          have c5 := N6.st.c5 hk
          rw [N6.eq] at c5
          have f5 := N6.st.f5 k
          have N7 := N6.t hk
          have FIN : Hid (∃ (D : Nat → Wd) (lab : Nat → Nat), St w (w6.setCell ⟨b5, k, none⟩ (.bool true)) b4 b5 E0 D lab ∧ Inv s (9 * tot ((Q.map (·.x)).take (i + 1))) D) := by
            obtain ⟨D2, l2, h8, h9⟩ := end_round (bd' := bd') (d := { g := G, a := A, n := N1, c := C1, X := P, s := true, pa := PA, pn := PN, pc := PC, P := P, t := true }) N7.st (upd_upd _ _ _ _) I5.out (by have := BDL.out; omega) HG.out rfl rfl (by have := BDL.out; have h4 := PNB.out; show N1 ≤ _; omega)
            exact FINI.out _ _ _ h8 h9
          clear N6 N7 H6 e2
          simp only at c5
          go_wp2
          go_roundw
          case rel => have hl := HL.out; obtain ⟨D2, l2, h8⟩ := FIN.out; exact ⟨i + 1, D2, l2, by omega, by go_num, h8⟩
          case measure => have hl := HL.out; simp [intOf]; omega
        · obtain ⟨t, rfl⟩ : ∃ t : Nat, z = (t : Int) := ⟨z.toNat, by omega⟩
          have ht : t < 9223372036854775808 := by have := bounds_i64 NW; omega
          have K5 : Hid (N1 + 9 ≤ 140737488352256) := by have h3 := BDL.out; have h4 := PNB.out; show _ ≤ _; omega
          go_upto_region 16 with (first
            | (go_at_call 11; refine (num_n R5 ht Z5 K5).mono ?_; rintro e w6 ⟨a2, n2, c2, rfl, H6⟩))
          obtain ⟨D6, HD6⟩ : ∃ D6, Hid (upd D k (⟨G, a2, n2, c2, P ++ enc t, tt, PA, PN, PC, P, tt⟩ : Wd) = D6) := ⟨_, rfl⟩
          obtain ⟨lab6, HL6⟩ : ∃ l, Hid (rel w5.heap.size (5 + k) lab1 = l) := ⟨_, rfl⟩
          have N6 : Hid (Now w w6 b4 b5 ((q, oO x ab nb cb) :: E0) D6 lab6 k ⟨G, a2, n2, c2, P ++ enc t, tt, PA, PN, PC, P, tt⟩) := by rw [← HD6.out, ← HL6.out]; exact N5.out.w hk H6.out.1 H6.out.2.1 H6.out.2.2
          have N2B : Hid (n2 ≤ bd') := by
            have h1 := H6.out.1.own.len
            have h2 := R5.out.own.len
            have h3 := BDL.out
            have h4 := PNB.out
            have h5 := enc_nine ht
            have h6 := NB.out
            (try simp only [List.length_append] at h1)
            show _ ≤ _
            omega
          clear H6
          have e2' : w6.cell? ⟨q, 2, none⟩ = some (.int .i64 (t : Int)) := by rw [← Hz.out]; exact (N6.out.st.loc (List.mem_cons_self ..)).c2
          go_upto_region 18 with (fail)
          clear e2 e2'
          obtain ⟨W, HW⟩ : ∃ W, Hid (w6.drew = W) := ⟨_, rfl⟩
          have NW : Hid (Now w W b4 b5 ((q, oO x ab nb cb) :: E0) D6 lab6 k ⟨G, a2, n2, c2, P ++ enc t, tt, PA, PN, PC, P, tt⟩) := by rw [← HW.out]; exact N6.out.below (below_drewN (Below.refl _ _) 1)
          have C6 : W.cell? ⟨b4, k, none⟩ = some (.slice PA PN PC) ∧ W.cell? ⟨q, 2, none⟩ = some (.int .i64 (t : Int)) := ⟨by have h1 := NW.out.st.c4 hk; rw [NW.out.eq] at h1; exact h1, (by rw [← Hz.out]; exact (NW.out.st.loc (List.mem_cons_self ..)).c2)⟩
          refine wp_region_till (S := tl 9 (fun W => W.cell? ⟨b4, k, none⟩ = some (.slice PA PN PC) ∧ W.cell? ⟨q, 2, none⟩ = some (.int .i64 (t : Int)))) (by kernel_rfl) ?_ (fun hS => ?_)
          · rw [HW.out]; exact .inr C6
          rw [HW.out] at hS ⊢
          clear HW
          refine till_take (i := 0) (v := .int .i64 (k : Int)) rfl (by kernel_rfl) (by kernel_rfl) (by kernel_rfl) (fun _ _ _ h => h) (fun L w => tl_set (by decide)) (Or.inl ⟨by rfl, fun w => by go_simp⟩) hS (fun hSb => ?_)
          simp only [List.getElem_toArray, List.getElem_cons_zero, List.getElem_cons_succ, Act.put, List.setIfInBounds_toArray, List.set_cons_zero, List.set_cons_succ]
          clear hS
          refine till_take (i := 1) (v := .int .i64 (k : Int)) rfl (by kernel_rfl) (by kernel_rfl) (by kernel_rfl) (fun _ _ _ h => h) (fun L w => tl_set (by decide)) (Or.inl ⟨by rfl, fun w => by go_simp⟩) hSb (fun hS => ?_)
          simp only [List.getElem_toArray, List.getElem_cons_zero, List.getElem_cons_succ, Act.put, List.setIfInBounds_toArray, List.set_cons_zero, List.set_cons_succ]
          clear hSb
          refine till_take (i := 2) (v := .pointer (some ⟨b4, k, none⟩)) rfl (by kernel_rfl) (by kernel_rfl) (by kernel_rfl) (fun _ _ _ h => h) (fun L w => tl_set (by decide)) (Or.inl ⟨by rfl, fun w => by go_simp⟩) hS (fun hSb => ?_)
          simp only [List.getElem_toArray, List.getElem_cons_zero, List.getElem_cons_succ, Act.put, List.setIfInBounds_toArray, List.set_cons_zero, List.set_cons_succ]
          clear hS
          refine till_read (i := 3) (c := 9) (v := .slice PA PN PC) rfl rfl (by kernel_rfl) (by kernel_rfl) (by kernel_rfl) (by kernel_rfl) (by kernel_rfl) (fun _ _ _ h => h) (fun L w => tl_set (by decide)) (fun L w h1 h2 => tl_get h1 h2) (Or.inl ⟨by rfl, fun w hSw => by (try dsimp only at hSw); go_simp⟩) hSb (fun hS => ?_)
          simp only [List.getElem_toArray, List.getElem_cons_zero, List.getElem_cons_succ, Act.put, List.setIfInBounds_toArray, List.set_cons_zero, List.set_cons_succ]
          clear hSb
          refine till_take (i := 4) (v := .pointer (some ⟨q, 2, none⟩)) rfl (by kernel_rfl) (by kernel_rfl) (by kernel_rfl) (fun _ _ _ h => h) (fun L w => tl_set (by decide)) (Or.inl ⟨by rfl, fun w => by go_simp⟩) hS (fun hSb => ?_)
          simp only [List.getElem_toArray, List.getElem_cons_zero, List.getElem_cons_succ, Act.put, List.setIfInBounds_toArray, List.set_cons_zero, List.set_cons_succ]
          clear hS
          refine till_read (i := 5) (c := 9) (v := .int .i64 (t : Int)) rfl rfl (by kernel_rfl) (by kernel_rfl) (by kernel_rfl) (by kernel_rfl) (by kernel_rfl) (fun _ _ _ h => h) (fun L w => tl_set (by decide)) (fun L w h1 h2 => tl_get h1 h2) (Or.inl ⟨by rfl, fun w hSw => by (try dsimp only at hSw); go_simp⟩) hSb (fun hS => ?_)
          simp only [List.getElem_toArray, List.getElem_cons_zero, List.getElem_cons_succ, Act.put, List.setIfInBounds_toArray, List.set_cons_zero, List.set_cons_succ]
          clear hSb
          refine till_one (i := 6) (by kernel_rfl) rfl (fun K hK => ?_)
          simp only [List.getElem_toArray, List.getElem_cons_zero, List.getElem_cons_succ]
          rw [if_pos (by rfl)]
          go_simp
          go_wp2_with (go_at_call 12; refine (refnum_n ht).mono ?_; rintro e w7 ⟨a7, n7, c7, rfl, H7⟩)
          obtain ⟨a8, c8, w8, hrun8, h71, h81, NW8, CH8⟩ := NW.out.p hk (List.mem_cons_self ..) H7.out.2 H7.out.1 (by have h1 := H7.out.1.len; have h2 := PNB.out; have h3 := enc_nine ht; (try simp only [List.length_append] at h1); show PN + n7 ≤ _; omega)
          have AP : Hid ((Builtin.append_ #[27, 27] 27 #[.slice PA PN PC, .slice a7 n7 c7]).run Tryd.prog w7 = .ok (.slice a8 (PN + n7) c8) w8) := hrun8
          have C7 : w7.cell? ⟨b4, k, none⟩ = some (.slice PA PN PC) ∧ w7.cell? ⟨q, 2, none⟩ = some (.int .i64 (t : Int)) := ⟨h71.1, by rw [← Hz.out]; exact h71.2.c2⟩
          have C8 : w8.cell? ⟨b4, k, none⟩ = some (.slice PA PN PC) ∧ w8.cell? ⟨q, 2, none⟩ = some (.int .i64 (t : Int)) := ⟨h81.1, by rw [← Hz.out]; exact h81.2.1.c2⟩
          have F8 := h81.2.2
          have CC8 := h81.1
          clear hrun8 h71 h81
          refine hK.out _ _ (.inr C7) (fun hSb => ?_)
          clear hK K
          try simp only [List.getElem_toArray, List.getElem_cons_zero, List.getElem_cons_succ, Act.put, List.setIfInBounds_toArray, List.set_cons_zero, List.set_cons_succ]
          clear hS
          refine till_one (i := 7) (by kernel_rfl) rfl (fun K hK => ?_)
          simp only [List.getElem_toArray, List.getElem_cons_zero, List.getElem_cons_succ]
          rw [if_pos (by rfl)]
          refine Lib.wp_append_run _ (.tmp 64) (.tmp 67) 27 27 (by rfl) _ _ (by rfl) (by rfl) _ _ AP.out ?_
          refine hK.out _ _ (.inr C8) (fun hS => ?_)
          clear hK K
          try simp only [List.getElem_toArray, List.getElem_cons_zero, List.getElem_cons_succ, Act.put, List.setIfInBounds_toArray, List.set_cons_zero, List.set_cons_succ]
          clear hSb
          refine till_take (i := 8) (v := .pointer (some ⟨b4, k, none⟩)) rfl (by kernel_rfl) (by kernel_rfl) (by kernel_rfl) (fun _ _ _ h => h) (fun L w => tl_set (by decide)) (Or.inl ⟨by rfl, fun w => by go_simp⟩) hS (fun hSb => ?_)
          simp only [List.getElem_toArray, List.getElem_cons_zero, List.getElem_cons_succ, Act.put, List.setIfInBounds_toArray, List.set_cons_zero, List.set_cons_succ]
          clear hS
          refine till_one (i := 9) (by kernel_rfl) rfl (fun K hK => ?_)
          simp only [List.getElem_toArray, List.getElem_cons_zero, List.getElem_cons_succ]
          rw [if_pos (by rfl)]
          go_simp
          refine hK.out _ _ (.inl (by kernel_rfl)) (fun hS => ?_)
          clear hK K
          try simp only [List.getElem_toArray, List.getElem_cons_zero, List.getElem_cons_succ, Act.put, List.setIfInBounds_toArray, List.set_cons_zero, List.set_cons_succ]
          clear hSb
          refine till_done (by kernel_rfl) ?_ _
          clear hS
          have FIN : Hid (∃ (D : Nat → Wd) (lab : Nat → Nat), St w (w8.setCell ⟨b4, k, none⟩ (.slice a8 (PN + n7) c8)) b4 b5 E0 D lab ∧ Inv s (9 * tot ((Q.map (·.x)).take (i + 1))) D) := by
            obtain ⟨D2, l2, h8, h9⟩ := end_round (bd' := bd') (d := (⟨G, a2, n2, c2, P ++ enc t, tt, a8, PN + n7, c8, P ++ enc t, tt⟩ : Wd)) NW8.st (by rw [← HD6.out]; exact upd_upd _ _ _ _) I5.out (by have := BDL.out; omega) HG.out rfl rfl N2B.out
            exact FINI.out _ _ _ h8 h9
          clear NW8 CH8 C7 C8 AP H7 NW
          go_wp2
          go_roundw
          case rel => have hl := HL.out; obtain ⟨D2, l2, h8⟩ := FIN.out; exact ⟨i + 1, D2, l2, by omega, by go_num, h8⟩
          case measure => have hl := HL.out; simp [intOf]; omega
      · have i1 : ¬ (kd = 1) := h1
        have e3 := L5.out.c3
        have S0 : Hid (Sln w ab nb x.bs) := OK.out.sl
        have S5x : Hid (Sln w5 ab nb x.bs) := S0.out.below S5.out.bel
        have ZB : Hid (ab = none → cb = 0) := OK.out.z
        have LT : Hid (∀ y ∈ x.bs, y < 256) := S0.out.lt
        have hnb : nb < 9223372036854775808 := by have := BDL.out; omega
        have hn9 : nb + 9 ≤ 140737488352256 := by have := BDL.out; omega
        clear h1
        by_cases h2 : kd = 2
        · subst h2
          have EO : Hid (x.bs.length = nb) := NB.out.symm
          have K6 : Hid (N1 + nb + 18 ≤ 140737488352256) := by have h3 := BDL.out; have h4 := PNB.out; show _ ≤ _; omega
          have CV := conv_n (k := cb) S5x
          go_upto_region 21 with (first
            | (go_at_call 13; refine (text_n R5 LT NB Z5 K6).mono ?_; rintro e w6 ⟨a2, n2, c2, rfl, H6⟩))
          clear CV e3
          obtain ⟨D6, HD6⟩ : ∃ D6, Hid (upd D k (⟨G, a2, n2, c2, P ++ (enc nb ++ x.bs), tt, PA, PN, PC, P, tt⟩ : Wd) = D6) := ⟨_, rfl⟩
          obtain ⟨lab6, HL6⟩ : ∃ l, Hid (rel w5.heap.size (5 + k) lab1 = l) := ⟨_, rfl⟩
          have N6 : Hid (Now w w6 b4 b5 ((q, oO x ab nb cb) :: E0) D6 lab6 k ⟨G, a2, n2, c2, P ++ (enc nb ++ x.bs), tt, PA, PN, PC, P, tt⟩) := by rw [← HD6.out, ← HL6.out]; exact N5.out.w hk H6.out.1 H6.out.2.1 H6.out.2.2
          have N2B : Hid (n2 ≤ bd') := by
            have h1 := H6.out.1.own.len
            have h2 := R5.out.own.len
            have h3 := BDL.out
            have h4 := PNB.out
            have h5 := enc_nine hnb
            have h6 := NB.out
            (try simp only [List.length_append] at h1)
            show _ ≤ _
            omega
          clear H6
          obtain ⟨W, HW⟩ : ∃ W, Hid (w6.drew = W) := ⟨_, rfl⟩
          have NW : Hid (Now w W b4 b5 ((q, oO x ab nb cb) :: E0) D6 lab6 k ⟨G, a2, n2, c2, P ++ (enc nb ++ x.bs), tt, PA, PN, PC, P, tt⟩) := by rw [← HW.out]; exact N6.out.below (below_drewN (Below.refl _ _) 1)
          have C6 : W.cell? ⟨b4, k, none⟩ = some (.slice PA PN PC) ∧ W.cell? ⟨q, 3, none⟩ = some (.slice ab nb cb) := ⟨by have h1 := NW.out.st.c4 hk; rw [NW.out.eq] at h1; exact h1, (NW.out.st.loc (List.mem_cons_self ..)).c3⟩
          refine wp_region_till (S := tl 9 (fun W => W.cell? ⟨b4, k, none⟩ = some (.slice PA PN PC) ∧ W.cell? ⟨q, 3, none⟩ = some (.slice ab nb cb))) (by kernel_rfl) ?_ (fun hS => ?_)
          · rw [HW.out]; exact .inr C6
          rw [HW.out] at hS ⊢
          clear HW
          refine till_take (i := 0) (v := .int .i64 (k : Int)) rfl (by kernel_rfl) (by kernel_rfl) (by kernel_rfl) (fun _ _ _ h => h) (fun L w => tl_set (by decide)) (Or.inl ⟨by rfl, fun w => by go_simp⟩) hS (fun hSb => ?_)
          simp only [List.getElem_toArray, List.getElem_cons_zero, List.getElem_cons_succ, Act.put, List.setIfInBounds_toArray, List.set_cons_zero, List.set_cons_succ]
          clear hS
          refine till_take (i := 1) (v := .int .i64 (k : Int)) rfl (by kernel_rfl) (by kernel_rfl) (by kernel_rfl) (fun _ _ _ h => h) (fun L w => tl_set (by decide)) (Or.inl ⟨by rfl, fun w => by go_simp⟩) hSb (fun hS => ?_)
          simp only [List.getElem_toArray, List.getElem_cons_zero, List.getElem_cons_succ, Act.put, List.setIfInBounds_toArray, List.set_cons_zero, List.set_cons_succ]
          clear hSb
          refine till_take (i := 2) (v := .pointer (some ⟨b4, k, none⟩)) rfl (by kernel_rfl) (by kernel_rfl) (by kernel_rfl) (fun _ _ _ h => h) (fun L w => tl_set (by decide)) (Or.inl ⟨by rfl, fun w => by go_simp⟩) hS (fun hSb => ?_)
          simp only [List.getElem_toArray, List.getElem_cons_zero, List.getElem_cons_succ, Act.put, List.setIfInBounds_toArray, List.set_cons_zero, List.set_cons_succ]
          clear hS
          refine till_read (i := 3) (c := 9) (v := .slice PA PN PC) rfl rfl (by kernel_rfl) (by kernel_rfl) (by kernel_rfl) (by kernel_rfl) (by kernel_rfl) (fun _ _ _ h => h) (fun L w => tl_set (by decide)) (fun L w h1 h2 => tl_get h1 h2) (Or.inl ⟨by rfl, fun w hSw => by (try dsimp only at hSw); go_simp⟩) hSb (fun hS => ?_)
          simp only [List.getElem_toArray, List.getElem_cons_zero, List.getElem_cons_succ, Act.put, List.setIfInBounds_toArray, List.set_cons_zero, List.set_cons_succ]
          clear hSb
          refine till_take (i := 4) (v := .pointer (some ⟨q, 3, none⟩)) rfl (by kernel_rfl) (by kernel_rfl) (by kernel_rfl) (fun _ _ _ h => h) (fun L w => tl_set (by decide)) (Or.inl ⟨by rfl, fun w => by go_simp⟩) hS (fun hSb => ?_)
          simp only [List.getElem_toArray, List.getElem_cons_zero, List.getElem_cons_succ, Act.put, List.setIfInBounds_toArray, List.set_cons_zero, List.set_cons_succ]
          clear hS
          refine till_read (i := 5) (c := 9) (v := .slice ab nb cb) rfl rfl (by kernel_rfl) (by kernel_rfl) (by kernel_rfl) (by kernel_rfl) (by kernel_rfl) (fun _ _ _ h => h) (fun L w => tl_set (by decide)) (fun L w h1 h2 => tl_get h1 h2) (Or.inl ⟨by rfl, fun w hSw => by (try dsimp only at hSw); go_simp⟩) hSb (fun hS => ?_)
          simp only [List.getElem_toArray, List.getElem_cons_zero, List.getElem_cons_succ, Act.put, List.setIfInBounds_toArray, List.set_cons_zero, List.set_cons_succ]
          clear hSb
          refine till_one (i := 6) (by kernel_rfl) rfl (fun K hK => ?_)
          simp only [List.getElem_toArray, List.getElem_cons_zero, List.getElem_cons_succ]
          rw [if_pos (by rfl)]
          go_simp
          go_wp2_with (go_at_call 14; refine (refbytes_n (show Hid (Sln W ab nb x.bs) from S0.out.below NW.out.st.bel) ZB hn9).mono ?_; rintro e w7 ⟨a7, n7, c7, rfl, H7⟩)
          obtain ⟨a8, c8, w8, hrun8, h71, h81, NW8, CH8⟩ := NW.out.p hk (List.mem_cons_self ..) H7.out.2 H7.out.1 (by have h1 := H7.out.1.len; have h2 := PNB.out; have h3 := (⟨enc_nine hnb, NB.out, BDL.out⟩ : (_ ∧ _ ∧ _)); (try simp only [List.length_append] at h1); show PN + n7 ≤ _; omega)
          have AP : Hid ((Builtin.append_ #[27, 27] 27 #[.slice PA PN PC, .slice a7 n7 c7]).run Tryd.prog w7 = .ok (.slice a8 (PN + n7) c8) w8) := hrun8
          have C7 : w7.cell? ⟨b4, k, none⟩ = some (.slice PA PN PC) ∧ w7.cell? ⟨q, 3, none⟩ = some (.slice ab nb cb) := ⟨h71.1, h71.2.c3⟩
          have C8 : w8.cell? ⟨b4, k, none⟩ = some (.slice PA PN PC) ∧ w8.cell? ⟨q, 3, none⟩ = some (.slice ab nb cb) := ⟨h81.1, h81.2.1.c3⟩
          have F8 := h81.2.2
          have CC8 := h81.1
          clear hrun8 h71 h81
          refine hK.out _ _ (.inr C7) (fun hSb => ?_)
          clear hK K
          try simp only [List.getElem_toArray, List.getElem_cons_zero, List.getElem_cons_succ, Act.put, List.setIfInBounds_toArray, List.set_cons_zero, List.set_cons_succ]
          clear hS
          refine till_one (i := 7) (by kernel_rfl) rfl (fun K hK => ?_)
          simp only [List.getElem_toArray, List.getElem_cons_zero, List.getElem_cons_succ]
          rw [if_pos (by rfl)]
          refine Lib.wp_append_run _ (.tmp 80) (.tmp 83) 27 27 (by rfl) _ _ (by rfl) (by rfl) _ _ AP.out ?_
          refine hK.out _ _ (.inr C8) (fun hS => ?_)
          clear hK K
          try simp only [List.getElem_toArray, List.getElem_cons_zero, List.getElem_cons_succ, Act.put, List.setIfInBounds_toArray, List.set_cons_zero, List.set_cons_succ]
          clear hSb
          refine till_take (i := 8) (v := .pointer (some ⟨b4, k, none⟩)) rfl (by kernel_rfl) (by kernel_rfl) (by kernel_rfl) (fun _ _ _ h => h) (fun L w => tl_set (by decide)) (Or.inl ⟨by rfl, fun w => by go_simp⟩) hS (fun hSb => ?_)
          simp only [List.getElem_toArray, List.getElem_cons_zero, List.getElem_cons_succ, Act.put, List.setIfInBounds_toArray, List.set_cons_zero, List.set_cons_succ]
          clear hS
          refine till_one (i := 9) (by kernel_rfl) rfl (fun K hK => ?_)
          simp only [List.getElem_toArray, List.getElem_cons_zero, List.getElem_cons_succ]
          rw [if_pos (by rfl)]
          go_simp
          refine hK.out _ _ (.inl (by kernel_rfl)) (fun hS => ?_)
          clear hK K
          try simp only [List.getElem_toArray, List.getElem_cons_zero, List.getElem_cons_succ, Act.put, List.setIfInBounds_toArray, List.set_cons_zero, List.set_cons_succ]
          clear hSb
          refine till_done (by kernel_rfl) ?_ _
          clear hS
          have FIN : Hid (∃ (D : Nat → Wd) (lab : Nat → Nat), St w (w8.setCell ⟨b4, k, none⟩ (.slice a8 (PN + n7) c8)) b4 b5 E0 D lab ∧ Inv s (9 * tot ((Q.map (·.x)).take (i + 1))) D) := by
            obtain ⟨D2, l2, h8, h9⟩ := end_round (bd' := bd') (d := (⟨G, a2, n2, c2, P ++ (enc nb ++ x.bs), tt, a8, PN + n7, c8, P ++ (enc nb ++ x.bs), tt⟩ : Wd)) NW8.st (by rw [← HD6.out]; exact upd_upd _ _ _ _) I5.out (by have := BDL.out; omega) HG.out rfl rfl N2B.out
            exact FINI.out _ _ _ h8 h9
          clear NW8 CH8 C7 C8 AP H7 NW
          go_wp2
          go_roundw
          case rel => have hl := HL.out; obtain ⟨D2, l2, h8⟩ := FIN.out; exact ⟨i + 1, D2, l2, by omega, by go_num, h8⟩
          case measure => have hl := HL.out; simp [intOf]; omega
        · have i2 : ¬ (kd = 2) := h2
          clear h2
          by_cases h3 : kd = 3
          · subst h3
            have K6 : Hid (N1 + nb + 18 ≤ 140737488352256) := by have h3 := BDL.out; have h4 := PNB.out; show _ ≤ _; omega
            go_upto_region 24 with (first
              | (go_at_call 15; refine (bytes_n S5x ZB).mono ?_; rintro e wb ⟨gb, Nb, rfl, Hb⟩))
            obtain ⟨labb, HLb⟩ : ∃ l, Hid (rel w5.heap.size 11 lab1 = l) := ⟨_, rfl⟩
            have NB5 : Hid (Now w wb b4 b5 ((q, oO x ab nb cb) :: E0) D labb k ⟨G, A, N1, C1, P, tt, PA, PN, PC, P, tt⟩) := by rw [← HLb.out]; exact ⟨N5.out.st.mark 11 Hb.out.2.2.2, N5.out.eq⟩
            have lgb : Hid (labb gb = 11 ∧ gb < wb.heap.size ∧ w.heap.size ≤ gb) := ⟨by rw [← HLb.out]; exact rel_new (by rw [Hb.out.2.1]; exact Nat.le_refl _), Hb.out.2.2.1.lt, by rw [Hb.out.2.1]; exact Z5.out⟩
            have HNb : Hid (Nb = nb + 6) := Hb.out.1
            have BKb : Hid (Blk wb gb (x.bs ++ marks)) := Hb.out.2.2.1
            have SGb : Hid (Sln wb (some ⟨gb, 0, none⟩) nb x.bs) := blk_begin BKb.out NB.out S0.out.lt S0.out.sli.2.1
            have RB : Hid (Wri wb G w.heap.size A N1 C1 P tt) := NB5.out.wri hk
            have APb : Hid (∀ b off, x.bs ≠ [] → some (⟨gb, 0, none⟩ : Addr) = some ⟨b, off, none⟩ → b ≠ G ∧ some b ≠ blkOf A) := by
              intro b off _ h1
              simp only [Option.some.injEq, Addr.mk.injEq, and_true] at h1
              obtain ⟨rfl, _⟩ := h1
              have h2 := lgb.out.1
              have h3 := NB5.out.st.lg k hk
              have h4 := NB5.out.st.la k hk
              rw [NB5.out.eq] at h3 h4
              exact ⟨fun e => by rw [e] at h2; simp only at h3; omega, fun e => by have := h4 gb e.symm; omega⟩
            have Zb : Hid (w.heap.size ≤ wb.heap.size) := NB5.out.st.bel.size
            clear Hb e3 HLb
            go_upto_region 25 with (first
              | (go_at_call 16; refine (wbytes_n RB SGb (show Hid (_ → _) from by simp [Hid]) APb Zb K6).mono ?_; rintro e w6 ⟨a2, n2, c2, rfl, H6⟩))
            have BK6 : Hid (Blk w6 gb (x.bs ++ marks)) := by
              by_cases h0 : x.bs = []
              · have h2 := lgb.out.1
                have h3 := NB5.out.st.lg k hk
                have h4 := NB5.out.st.la k hk
                rw [NB5.out.eq] at h3 h4
                exact (H6.out.2.1.block gb lgb.out.2.1 (fun e => by rw [e] at h2; simp only at h3; omega) (fun e => by have := h4 gb e.symm; omega)).trans BKb.out
              · exact (H6.out.2.1.block gb lgb.out.2.1 (APb.out gb 0 h0 rfl).1 (APb.out gb 0 h0 rfl).2).trans BKb.out
            obtain ⟨D6, HD6⟩ : ∃ D6, Hid (upd D k (⟨G, a2, n2, c2, P ++ (enc nb ++ x.bs), tt, PA, PN, PC, P, tt⟩ : Wd) = D6) := ⟨_, rfl⟩
            obtain ⟨lab6, HL6⟩ : ∃ l, Hid (rel wb.heap.size (5 + k) labb = l) := ⟨_, rfl⟩
            have N6 : Hid (Now w w6 b4 b5 ((q, oO x ab nb cb) :: E0) D6 lab6 k ⟨G, a2, n2, c2, P ++ (enc nb ++ x.bs), tt, PA, PN, PC, P, tt⟩) := by rw [← HD6.out, ← HL6.out]; exact NB5.out.w hk H6.out.1 H6.out.2.1 H6.out.2.2
            have N2B : Hid (n2 ≤ bd') := by
              have h1 := H6.out.1.own.len
              have h2 := RB.out.own.len
              have h3 := BDL.out
              have h4 := PNB.out
              have h5 := enc_nine hnb
              have h6 := NB.out
              (try simp only [List.length_append] at h1)
              show _ ≤ _
              omega
            have lg6 : Hid (lab6 gb = 11) := by rw [← HL6.out, rel_old lgb.out.2.1]; exact lgb.out.1
            clear H6
            obtain ⟨W, HW⟩ : ∃ W, Hid (w6.drew = W) := ⟨_, rfl⟩
            have NW : Hid (Now w W b4 b5 ((q, oO x ab nb cb) :: E0) D6 lab6 k ⟨G, a2, n2, c2, P ++ (enc nb ++ x.bs), tt, PA, PN, PC, P, tt⟩) := by rw [← HW.out]; exact N6.out.below (below_drewN (Below.refl _ _) 1)
            have C6 : W.cell? ⟨b4, k, none⟩ = some (.slice PA PN PC) ∧ W.cell? ⟨q, 3, none⟩ = some (.slice ab nb cb) := ⟨by have h1 := NW.out.st.c4 hk; rw [NW.out.eq] at h1; exact h1, (NW.out.st.loc (List.mem_cons_self ..)).c3⟩
            refine wp_region_till (S := tl 9 (fun W => W.cell? ⟨b4, k, none⟩ = some (.slice PA PN PC) ∧ W.cell? ⟨q, 3, none⟩ = some (.slice ab nb cb))) (by kernel_rfl) ?_ (fun hS => ?_)
            · rw [HW.out]; exact .inr C6
            rw [HW.out] at hS ⊢
            have BKW : Hid (Blk W gb (x.bs ++ marks)) := by rw [← HW.out]; exact BK6.out
            clear HW
            refine till_take (i := 0) (v := .int .i64 (k : Int)) rfl (by kernel_rfl) (by kernel_rfl) (by kernel_rfl) (fun _ _ _ h => h) (fun L w => tl_set (by decide)) (Or.inl ⟨by rfl, fun w => by go_simp⟩) hS (fun hSb => ?_)
            simp only [List.getElem_toArray, List.getElem_cons_zero, List.getElem_cons_succ, Act.put, List.setIfInBounds_toArray, List.set_cons_zero, List.set_cons_succ]
            clear hS
            refine till_take (i := 1) (v := .int .i64 (k : Int)) rfl (by kernel_rfl) (by kernel_rfl) (by kernel_rfl) (fun _ _ _ h => h) (fun L w => tl_set (by decide)) (Or.inl ⟨by rfl, fun w => by go_simp⟩) hSb (fun hS => ?_)
            simp only [List.getElem_toArray, List.getElem_cons_zero, List.getElem_cons_succ, Act.put, List.setIfInBounds_toArray, List.set_cons_zero, List.set_cons_succ]
            clear hSb
            refine till_take (i := 2) (v := .pointer (some ⟨b4, k, none⟩)) rfl (by kernel_rfl) (by kernel_rfl) (by kernel_rfl) (fun _ _ _ h => h) (fun L w => tl_set (by decide)) (Or.inl ⟨by rfl, fun w => by go_simp⟩) hS (fun hSb => ?_)
            simp only [List.getElem_toArray, List.getElem_cons_zero, List.getElem_cons_succ, Act.put, List.setIfInBounds_toArray, List.set_cons_zero, List.set_cons_succ]
            clear hS
            refine till_read (i := 3) (c := 9) (v := .slice PA PN PC) rfl rfl (by kernel_rfl) (by kernel_rfl) (by kernel_rfl) (by kernel_rfl) (by kernel_rfl) (fun _ _ _ h => h) (fun L w => tl_set (by decide)) (fun L w h1 h2 => tl_get h1 h2) (Or.inl ⟨by rfl, fun w hSw => by (try dsimp only at hSw); go_simp⟩) hSb (fun hS => ?_)
            simp only [List.getElem_toArray, List.getElem_cons_zero, List.getElem_cons_succ, Act.put, List.setIfInBounds_toArray, List.set_cons_zero, List.set_cons_succ]
            clear hSb
            refine till_take (i := 4) (v := .pointer (some ⟨q, 3, none⟩)) rfl (by kernel_rfl) (by kernel_rfl) (by kernel_rfl) (fun _ _ _ h => h) (fun L w => tl_set (by decide)) (Or.inl ⟨by rfl, fun w => by go_simp⟩) hS (fun hSb => ?_)
            simp only [List.getElem_toArray, List.getElem_cons_zero, List.getElem_cons_succ, Act.put, List.setIfInBounds_toArray, List.set_cons_zero, List.set_cons_succ]
            clear hS
            refine till_read (i := 5) (c := 9) (v := .slice ab nb cb) rfl rfl (by kernel_rfl) (by kernel_rfl) (by kernel_rfl) (by kernel_rfl) (by kernel_rfl) (fun _ _ _ h => h) (fun L w => tl_set (by decide)) (fun L w h1 h2 => tl_get h1 h2) (Or.inl ⟨by rfl, fun w hSw => by (try dsimp only at hSw); go_simp⟩) hSb (fun hS => ?_)
            simp only [List.getElem_toArray, List.getElem_cons_zero, List.getElem_cons_succ, Act.put, List.setIfInBounds_toArray, List.set_cons_zero, List.set_cons_succ]
            clear hSb
            refine till_one (i := 6) (by kernel_rfl) rfl (fun K hK => ?_)
            simp only [List.getElem_toArray, List.getElem_cons_zero, List.getElem_cons_succ]
            rw [if_pos (by rfl)]
            go_simp
            go_wp2_with (go_at_call 14; refine (refbytes_n (show Hid (Sln W ab nb x.bs) from S0.out.below NW.out.st.bel) ZB hn9).mono ?_; rintro e w7 ⟨a7, n7, c7, rfl, H7⟩)
            obtain ⟨a8, c8, w8, hrun8, h71, h81, NW8, CH8⟩ := NW.out.p hk (List.mem_cons_self ..) H7.out.2 H7.out.1 (by have h1 := H7.out.1.len; have h2 := PNB.out; have h3 := (⟨enc_nine hnb, NB.out, BDL.out⟩ : (_ ∧ _ ∧ _)); (try simp only [List.length_append] at h1); show PN + n7 ≤ _; omega)
            have AP : Hid ((Builtin.append_ #[27, 27] 27 #[.slice PA PN PC, .slice a7 n7 c7]).run Tryd.prog w7 = .ok (.slice a8 (PN + n7) c8) w8) := hrun8
            have C7 : w7.cell? ⟨b4, k, none⟩ = some (.slice PA PN PC) ∧ w7.cell? ⟨q, 3, none⟩ = some (.slice ab nb cb) := ⟨h71.1, h71.2.c3⟩
            have C8 : w8.cell? ⟨b4, k, none⟩ = some (.slice PA PN PC) ∧ w8.cell? ⟨q, 3, none⟩ = some (.slice ab nb cb) := ⟨h81.1, h81.2.1.c3⟩
            have F8 := h81.2.2
            have CC8 := h81.1
            clear hrun8 h71 h81
            refine hK.out _ _ (.inr C7) (fun hSb => ?_)
            clear hK K
            try simp only [List.getElem_toArray, List.getElem_cons_zero, List.getElem_cons_succ, Act.put, List.setIfInBounds_toArray, List.set_cons_zero, List.set_cons_succ]
            clear hS
            refine till_one (i := 7) (by kernel_rfl) rfl (fun K hK => ?_)
            simp only [List.getElem_toArray, List.getElem_cons_zero, List.getElem_cons_succ]
            rw [if_pos (by rfl)]
            refine Lib.wp_append_run _ (.tmp 97) (.tmp 100) 27 27 (by rfl) _ _ (by rfl) (by rfl) _ _ AP.out ?_
            refine hK.out _ _ (.inr C8) (fun hS => ?_)
            clear hK K
            try simp only [List.getElem_toArray, List.getElem_cons_zero, List.getElem_cons_succ, Act.put, List.setIfInBounds_toArray, List.set_cons_zero, List.set_cons_succ]
            clear hSb
            refine till_take (i := 8) (v := .pointer (some ⟨b4, k, none⟩)) rfl (by kernel_rfl) (by kernel_rfl) (by kernel_rfl) (fun _ _ _ h => h) (fun L w => tl_set (by decide)) (Or.inl ⟨by rfl, fun w => by go_simp⟩) hS (fun hSb => ?_)
            simp only [List.getElem_toArray, List.getElem_cons_zero, List.getElem_cons_succ, Act.put, List.setIfInBounds_toArray, List.set_cons_zero, List.set_cons_succ]
            clear hS
            refine till_one (i := 9) (by kernel_rfl) rfl (fun K hK => ?_)
            simp only [List.getElem_toArray, List.getElem_cons_zero, List.getElem_cons_succ]
            rw [if_pos (by rfl)]
            go_simp
            refine hK.out _ _ (.inl (by kernel_rfl)) (fun hS => ?_)
            clear hK K
            try simp only [List.getElem_toArray, List.getElem_cons_zero, List.getElem_cons_succ, Act.put, List.setIfInBounds_toArray, List.set_cons_zero, List.set_cons_succ]
            clear hSb
            refine till_done (by kernel_rfl) ?_ _
            clear hS
            obtain ⟨w9, HW9⟩ : ∃ w9, Hid (w8.setCell ⟨b4, k, none⟩ (.slice a8 (PN + n7) c8) = w9) := ⟨_, rfl⟩
            rw [HW9.out] at NW8 CH8 ⊢
            have N9 : Hid (Now w w9 b4 b5 ((q, oO x ab nb cb) :: E0) _ _ k _) := NW8
            have BK9 : Hid (Blk w9 gb (x.bs ++ marks)) := (CH8.block gb BKW.out.lt (by have := lg6.out; omega)).trans BKW.out
            have lg9 : Hid (rel W.heap.size (7 + k) lab6 gb = 11) := by rw [rel_old BKW.out.lt]; exact lg6.out
            have S9x : Hid (Sln w9 ab nb x.bs) := S0.out.below N9.out.st.bel
            have e9 : w9.cell? ⟨q, 3, none⟩ = some (.slice ab nb cb) := (N9.out.st.loc (List.mem_cons_self ..)).c3
            clear NW8 CH8 C7 C8 AP H7 NW HW9 BKW BK6 BKb
            go_upto_region 28 with (first
              | (go_at_call 17; refine (kept_n BK9 HNb S9x).mono ?_; rintro e w10 ⟨rfl, H10⟩))
            have BK10 : Hid (Blk w10 gb (x.bs ++ marks)) := by obtain ⟨j, hj⟩ := H10.out; rw [hj]; exact BK9.out.drewN j
            have B10 : Below w9.heap.size w9 w10 := by obtain ⟨j, hj⟩ := H10.out; rw [hj]; exact below_drewN (Below.refl _ _) j
            have S10 := N9.out.st.below B10
            have FIN : Hid (∀ wx, Oth gb w10 wx → ∃ (D : Nat → Wd) (lab : Nat → Nat), St w wx b4 b5 E0 D lab ∧ Inv s (9 * tot ((Q.map (·.x)).take (i + 1))) D) := by
              intro wx ho
              have S11 := S10.one (by decide) lg9.out lgb.out.2.2 (Ch.oth ho)
              obtain ⟨D2, l2, h8, h9⟩ := end_round (bd' := bd') (d := (⟨G, a2, n2, c2, P ++ (enc nb ++ x.bs), tt, a8, PN + n7, c8, P ++ (enc nb ++ x.bs), tt⟩ : Wd)) S11 (by rw [← HD6.out]; exact upd_upd _ _ _ _) I5.out (by have := BDL.out; omega) HG.out rfl rfl N2B.out
              exact FINI.out _ _ _ h8 h9
            have hnbs : nb ≤ 9437220 := by have := BDL.out; omega
            clear S10 B10 N9 H10 e9 S9x BK9
            go_wp2
            go_loopw [110] (fun tj wx => ∃ j : Nat, j ≤ nb ∧ tj = .int .i64 j ∧ Hid (∃ Lb, Blk wx gb Lb ∧ Lb.length = nb + 6 ∧ (∀ y ∈ Lb, y < 256) ∧ Oth gb w10 wx)) (fun tj _ => nb - (intOf tj).toNat)
            case atStart => exact ⟨0, by omega, rfl, _, BK10.out, by rw [List.length_append, ← NB.out]; rfl, by intro y hy; rcases List.mem_append.1 hy with h | h; exact S0.out.lt y h; exact (by decide : ∀ y ∈ marks, y < 256) y h, Oth.refl _ _⟩
            case round =>
              obtain ⟨j, hj, rfl, HJ⟩ := hrel
              obtain ⟨Lb, hB, hl, hb, ho⟩ := HJ.out
              by_cases hlt2 : j < nb
              · obtain ⟨y, Hy⟩ : ∃ y, Hid (Lb.getD j 0 = y) := ⟨_, rfl⟩
                have hy : y < 256 := by rw [← Hy.out]; exact getD_lt hb j
                have c1 : wr.cell? ⟨gb, j, none⟩ = some (.int .u8 (y : Nat)) := by rw [← Hy.out]; exact hB.cell (by omega)
                have c2' : wr.frozen? ⟨gb, j, none⟩ = false := hB.frozen j
                have Nx : Hid (∃ L', Blk (wr.setCell ⟨gb, j, none⟩ (.int .u8 ((y ^^^ 99 : Nat) : Int))) gb L' ∧ L'.length = nb + 6 ∧ (∀ y ∈ L', y < 256) ∧ Oth gb w10 (wr.setCell ⟨gb, j, none⟩ (.int .u8 ((y ^^^ 99 : Nat) : Int)))) := ⟨Lb.set j (y ^^^ 99), hB.set j _, by simp [hl], set_lt hb j _ (xor_lt8 hy (by omega)), ho.setCell j _⟩
                have i2 : (j : Int) < (nb : Int) := by omega
                have x99 : bits BinOp.xor IntKind.u8 (y : Int) 99 = ((y ^^^ 99 : Nat) : Int) := xor_u8 y 99 hy (by omega)
                clear hB hl hb ho HJ
                go_wp2
                go_roundw
                case rel => exact ⟨j + 1, by omega, by go_num, Nx.out⟩
                case measure => simp [intOf]; omega
              · have F2 : Hid (∃ (D : Nat → Wd) (lab : Nat → Nat), St w wr b4 b5 E0 D lab ∧ Inv s (9 * tot ((Q.map (·.x)).take (i + 1))) D) := FIN.out wr ho
                clear FIN HJ hB hl hb ho
                go_wp2
                go_roundw
                case rel => have hl := HL.out; obtain ⟨D2, l2, h8⟩ := F2.out; exact ⟨i + 1, D2, l2, by omega, by go_num, h8⟩
                case measure => have hl := HL.out; simp [intOf]; omega
          · have i3 : ¬ (kd = 3) := h3
            clear h3
            by_cases h4 : kd = 4
            · subst h4
              cases tt with
              | true =>
                have E5 : Hid (Sent w5 1 E) := hE.out.below S5.out.bel
                go_upto_region 35 with (first
                  | (go_at_call 18; refine (done_bad R5 E5 (Nat.le_refl _)).mono ?_; rintro e w6 ⟨rfl, H6⟩))
                have B6 : Hid (Below w5.heap.size w5 w6) := by obtain ⟨j, hj⟩ := H6.out; rw [hj]; exact below_drewN (Below.refl _ _) j
                have N6 := N5.out.below B6.out
                have c5 := N6.st.c5 hk
                rw [N6.eq] at c5
                simp only at c5
                have ce := (hE.out.below N6.st.bel).c 0 (by omega)
                unfold er at ce
                have EQ := neq_same w6 (E 0)
                have FIN : Hid (∃ (D : Nat → Wd) (lab : Nat → Nat), St w w6 b4 b5 E0 D lab ∧ Inv s (9 * tot ((Q.map (·.x)).take (i + 1))) D) := FINI.out _ _ _ (N6.st.less (fun z hz => List.mem_cons_of_mem _ hz)) (I5.out.more (by have := BDL.out; omega))
                clear N6 H6 B6
                go_wp2
                go_roundw
                case rel => have hl := HL.out; obtain ⟨D2, l2, h8⟩ := FIN.out; exact ⟨i + 1, D2, l2, by omega, by go_num, h8⟩
                case measure => have hl := HL.out; simp [intOf]; omega
              | false =>
                have K5 : Hid (N1 ≤ 140737488352256) := by have h3 := BDL.out; have h4 := PNB.out; show _ ≤ _; omega
                have hN1 : N1 ≤ 9437220 := by have h3 := BDL.out; have h4 := PNB.out; omega
                go_upto_region 35 with (first
                  | (go_at_call 18; refine (done_n R5 K5).mono ?_; rintro e w6 ⟨a6, c6, rfl, H6⟩))
                have N6 := N5.out.below H6.out.2
                have c5 := N6.st.c5 hk
                rw [N6.eq] at c5
                simp only at c5
                go_upto_region 38 with (fail)
                clear c5
                obtain ⟨W, HW⟩ : ∃ W, Hid (w6.drew = W) := ⟨_, rfl⟩
                have BW : Hid (Below w5.heap.size w5 W) := by rw [← HW.out]; exact below_drewN H6.out.2 1
                have OW : Hid (Own W w5.heap.size a6 N1 c6 P) := H6.out.1.below (by rw [← HW.out]; exact below_drewN (Below.refl _ _) 1)
                have NW := N5.out.below BW.out
                have c4 := NW.st.c4 hk
                have p4 := NW.st.put k hk
                rw [NW.eq] at c4 p4
                simp only at c4 p4
                have CW : wS4 b4 k (.slice a6 N1 c6) (.slice PA PN PC) (spell P) #[] W := ⟨conv_n (OW.out.sln K5.out), c4, conv_n (p4.sln (by have := PNB.out; omega))⟩
                refine wp_region_till (S := wS4 b4 k (.slice a6 N1 c6) (.slice PA PN PC) (spell P)) (by kernel_rfl) ?_ (fun hS => ?_)
                · rw [HW.out]; exact CW
                rw [HW.out] at hS ⊢
                clear HW
                refine till_take (i := 0) (v := .nilIface) rfl (by kernel_rfl) (by kernel_rfl) (by kernel_rfl) (fun _ _ _ h => h) (fun L w => Iff.rfl) (Or.inl ⟨by rfl, fun w => by go_simp⟩) hS (fun hSb => ?_)
                simp only [List.getElem_toArray, List.getElem_cons_zero, List.getElem_cons_succ, Act.put, List.setIfInBounds_toArray, List.set_cons_zero, List.set_cons_succ]
                clear hS
                refine till_take (i := 1) (v := .bool false) rfl (by kernel_rfl) (by kernel_rfl) (by kernel_rfl) (fun _ _ _ h => h) (fun L w => Iff.rfl) (Or.inl ⟨by rfl, fun w => by go_simp⟩) hSb (fun hS => ?_)
                simp only [List.getElem_toArray, List.getElem_cons_zero, List.getElem_cons_succ, Act.put, List.setIfInBounds_toArray, List.set_cons_zero, List.set_cons_succ]
                clear hSb
                refine till_take (i := 2) (v := .bool false) rfl (by kernel_rfl) (by kernel_rfl) (by kernel_rfl) (fun _ _ _ h => h) (fun L w => Iff.rfl) (Or.inl ⟨by rfl, fun w => by go_simp⟩) hS (fun hSb => ?_)
                simp only [List.getElem_toArray, List.getElem_cons_zero, List.getElem_cons_succ, Act.put, List.setIfInBounds_toArray, List.set_cons_zero, List.set_cons_succ]
                clear hS
                refine till_take (i := 3) (v := .slice a6 N1 c6) rfl (by kernel_rfl) (by kernel_rfl) (by kernel_rfl) (fun _ _ _ h => h) (fun L w => Iff.rfl) (Or.inl ⟨by rfl, fun w => by go_simp⟩) hSb (fun hS => ?_)
                simp only [List.getElem_toArray, List.getElem_cons_zero, List.getElem_cons_succ, Act.put, List.setIfInBounds_toArray, List.set_cons_zero, List.set_cons_succ]
                clear hSb
                refine till_read (i := 4) (c := 9) (v := .string (spell P)) rfl rfl (by kernel_rfl) (by kernel_rfl) (by kernel_rfl) (by kernel_rfl) (by kernel_rfl) (fun _ _ _ h => h) (fun L w => Iff.rfl) (fun L w h1 h2 => h2) (Or.inl ⟨by rfl, fun w hSw => by (try dsimp only at hSw); go_simp⟩) hS (fun hSb => ?_)
                simp only [List.getElem_toArray, List.getElem_cons_zero, List.getElem_cons_succ, Act.put, List.setIfInBounds_toArray, List.set_cons_zero, List.set_cons_succ]
                clear hS
                refine till_take (i := 5) (v := .int .i64 (k : Int)) rfl (by kernel_rfl) (by kernel_rfl) (by kernel_rfl) (fun _ _ _ h => h) (fun L w => Iff.rfl) (Or.inl ⟨by rfl, fun w => by go_simp⟩) hSb (fun hS => ?_)
                simp only [List.getElem_toArray, List.getElem_cons_zero, List.getElem_cons_succ, Act.put, List.setIfInBounds_toArray, List.set_cons_zero, List.set_cons_succ]
                clear hSb
                refine till_take (i := 6) (v := .pointer (some ⟨b4, k, none⟩)) rfl (by kernel_rfl) (by kernel_rfl) (by kernel_rfl) (fun _ _ _ h => h) (fun L w => Iff.rfl) (Or.inl ⟨by rfl, fun w => by go_simp⟩) hS (fun hSb => ?_)
                simp only [List.getElem_toArray, List.getElem_cons_zero, List.getElem_cons_succ, Act.put, List.setIfInBounds_toArray, List.set_cons_zero, List.set_cons_succ]
                clear hS
                refine till_read (i := 7) (c := 8) (v := .slice PA PN PC) rfl rfl (by kernel_rfl) (by kernel_rfl) (by kernel_rfl) (by kernel_rfl) (by kernel_rfl) (fun _ _ _ h => h) (fun L w => Iff.rfl) (fun L w h1 h2 => h2) (Or.inl ⟨by rfl, fun w hSw => by (try dsimp only at hSw); go_simp⟩) hSb (fun hS => ?_)
                simp only [List.getElem_toArray, List.getElem_cons_zero, List.getElem_cons_succ, Act.put, List.setIfInBounds_toArray, List.set_cons_zero, List.set_cons_succ]
                clear hSb
                refine till_read (i := 8) (c := 9) (v := .string (spell P)) rfl rfl (by kernel_rfl) (by kernel_rfl) (by kernel_rfl) (by kernel_rfl) (by kernel_rfl) (fun _ _ _ h => h) (fun L w => Iff.rfl) (fun L w h1 h2 => h2) (Or.inl ⟨by rfl, fun w hSw => by (try dsimp only at hSw); go_simp⟩) hS (fun hSb => ?_)
                simp only [List.getElem_toArray, List.getElem_cons_zero, List.getElem_cons_succ, Act.put, List.setIfInBounds_toArray, List.set_cons_zero, List.set_cons_succ]
                clear hS
                refine till_take (i := 9) (v := .bool false) rfl (by kernel_rfl) (by kernel_rfl) (by kernel_rfl) (fun _ _ _ h => h) (fun L w => Iff.rfl) (Or.inl ⟨by rfl, fun w => by go_simp⟩) hSb (fun hS => ?_)
                simp only [List.getElem_toArray, List.getElem_cons_zero, List.getElem_cons_succ, Act.put, List.setIfInBounds_toArray, List.set_cons_zero, List.set_cons_succ]
                clear hSb
                refine till_take (i := 10) (v := .bool false) rfl (by kernel_rfl) (by kernel_rfl) (by kernel_rfl) (fun _ _ _ h => h) (fun L w => Iff.rfl) (Or.inl ⟨by rfl, fun w => by go_simp⟩) hS (fun hSb => ?_)
                simp only [List.getElem_toArray, List.getElem_cons_zero, List.getElem_cons_succ, Act.put, List.setIfInBounds_toArray, List.set_cons_zero, List.set_cons_succ]
                clear hS
                refine till_done (by kernel_rfl) ?_ _
                clear hSb
                have bm : Blk (W.alloc threeO) W.heap.size [1, 2, 3] := by
                  show (W.heap.push _)[W.heap.size]? = _
                  simp [bv]
                have sm := bm.sln (by decide) (by decide)
                have O3 : Own (W.alloc threeO) w5.heap.size a6 N1 c6 P := ⟨OW.out.len, OW.out.own.alloc _, OW.out.lt⟩
                have B3 : Below w5.heap.size w5 (W.alloc threeO) := BW.out.alloc BW.out.size _
                obtain ⟨a8, c8, w8, hrun8, own8, gr8, new8⟩ := app_any (c2 := 3) O3 sm (by simp) (by simp; omega) B3.size
                simp only [List.length_cons, List.length_nil, Nat.zero_add, Nat.reduceAdd] at hrun8 own8
                have AP : Hid ((Builtin.append_ #[27, 27] 27 #[.slice a6 N1 c6, .slice (some ⟨W.heap.size, 0, none⟩) 3 3]).run Tryd.prog (W.alloc threeO) = .ok (.slice a8 (N1 + 3) c8) w8) := hrun8
                have F8 : Hid (∃ L', Own w8 w5.heap.size a8 (N1 + 3) c8 L' ∧ Below w5.heap.size w5 w8) := ⟨_, own8, B3.grown gr8 B3.size (fun j hj => (O3.ge j hj).1)⟩
                have FIN : Hid (∀ wx, Below w5.heap.size w5 wx → ∃ (D : Nat → Wd) (lab : Nat → Nat), St w wx b4 b5 E0 D lab ∧ Inv s (9 * tot ((Q.map (·.x)).take (i + 1))) D) := fun wx hb => FINI.out _ _ _ ((S5.out.below hb).less (fun z hz => List.mem_cons_of_mem _ hz)) (I5.out.more (by have := BDL.out; omega))
                clear bm sm O3 B3 hrun8 own8 gr8 new8 NW c4 p4 CW OW BW N6 H6
                go_upto_region 41 with (first
                  | (at_builtin; refine wpList_app (by rfl) (.tmp 149) (.tmp 150) (by rfl) (by rfl) (by rfl) (by rfl) AP ?_))
                go_wp2
                go_loopw [154] (fun tj wx => ∃ j : Nat, j ≤ N1 + 3 ∧ tj = .int .i64 j ∧ Hid (∃ L', Own wx w5.heap.size a8 (N1 + 3) c8 L' ∧ Below w5.heap.size w5 wx)) (fun tj _ => N1 + 3 - (intOf tj).toNat)
                case atStart => exact ⟨0, by omega, rfl, F8.out⟩
                case round =>
                  obtain ⟨j, hj, rfl, HJ⟩ := hrel
                  obtain ⟨L2, hO2, hB2⟩ := HJ.out
                  by_cases hlt2 : j < N1 + 3
                  · obtain ⟨g, rfl, hBg, c1, c2'⟩ := hO2.cell hlt2
                    obtain ⟨y, Hy⟩ : ∃ y, Hid (L2.getD j 0 = y) := ⟨_, rfl⟩
                    have hy : y < 256 := by rw [← Hy.out]; exact getD_lt hO2.lt j
                    rw [Hy.out] at c1
                    have Nx : Hid (∃ L', Own (wr.setCell ⟨g, j, none⟩ (.int .u8 ((y ^^^ 99 : Nat) : Int))) w5.heap.size (some ⟨g, 0, none⟩) (N1 + 3) c8 L' ∧ Below w5.heap.size w5 (wr.setCell ⟨g, j, none⟩ (.int .u8 ((y ^^^ 99 : Nat) : Int)))) := ⟨L2.set j (y ^^^ 99), hO2.set rfl hlt2 (xor_lt8 hy (by omega)), hB2.setCell (p := ⟨g, j, none⟩) hBg _⟩
                    have i2 : (j : Int) < (N1 : Int) + 3 := by omega
                    have x99 : bits BinOp.xor IntKind.u8 (y : Int) 99 = ((y ^^^ 99 : Nat) : Int) := xor_u8 y 99 hy (by omega)
                    clear hO2 hB2 HJ
                    go_wp2
                    go_roundw
                    case rel => exact ⟨j + 1, by omega, by go_num, Nx.out⟩
                    case measure => simp [intOf]; omega
                  · have F2 : Hid (∃ (D : Nat → Wd) (lab : Nat → Nat), St w wr b4 b5 E0 D lab ∧ Inv s (9 * tot ((Q.map (·.x)).take (i + 1))) D) := FIN.out wr hB2
                    clear FIN HJ hO2 hB2
                    go_wp2
                    go_roundw
                    case rel => have hl := HL.out; obtain ⟨D2, l2, h8⟩ := F2.out; exact ⟨i + 1, D2, l2, by omega, by go_num, h8⟩
                    case measure => have hl := HL.out; simp [intOf]; omega
            · have i4 : ¬ (kd = 4) := h4
              have FIN : Hid (∃ (D : Nat → Wd) (lab : Nat → Nat), St w w5 b4 b5 E0 D lab ∧ Inv s (9 * tot ((Q.map (·.x)).take (i + 1))) D) := FINI.out _ _ _ (S5.out.less (fun z hz => List.mem_cons_of_mem _ hz)) (I5.out.more (by have := BDL.out; omega))
              clear h4
              go_wp2
              go_roundw
              case rel => have hl := HL.out; obtain ⟨D2, l2, h8⟩ := FIN.out; exact ⟨i + 1, D2, l2, by omega, by go_num, h8⟩
              case measure => have hl := HL.out; simp [intOf]; omega
    · go_wp2
      go_ret
      exact ⟨rfl, HR.out.1.bel⟩
end Go.Proofs.YtnhnpkedkdefnaaDoor
