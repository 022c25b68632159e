/- The law ShaPlays walked: it returns true, and changes nothing that was there. -/
import Derived.Test.YtnckcaaejfckaaaDoorOd
import Derived.Test.YtnckcaaejfckaaaDoorSm
import Derived.Test.YtnckcaaejfckaaaDoorSl
import Derived.Test.YtnckcaaejfckaaaDoorSn
import Derived.Test.YtnckcaaejfckaaaDoorRn
namespace Go.Proofs.YtnckcaaejfckaaaDoor
open Go.ChangeShapes Go.WideShapes Go.ChangeAt Go.RowKit
set_option linter.unusedVariables false
set_option linter.unusedSimpArgs false
theorem len_n (w : World) (g : Nat) (A : List Nat) (h : Hid (HS w g A)) (n : Nat) (hn : n = A.length) : Calls Tryd.prog 13 #[.pointer (some ⟨g, 0, none⟩)] w fun e w' => e = .returned (.int .i64 (n : Int)) ∧ w' = w := by
  have c : w.cell? ⟨g, 72, none⟩ = some (.int .i64 (n : Int)) := by rw [hn]; exact h.out.h.len
  clear hn
  go_enter Tryd.func13, Tryd.ntmps13
  go_wp2
  go_ret
  exact ⟨rfl, rfl⟩
def ask0 : Oq := ⟨⟨2, 0, []⟩, none, 0, 0⟩
def ask1 : Oq := ⟨⟨2, 1, []⟩, none, 0, 0⟩
def two2 : List Oq := [ask0, ask1]
theorem quiet_ok (w : World) (z y : Int) (hz : (Lit.int .i64 z).wf = true) (hy : (Lit.int .i64 y).wf = true) : Oq.ok ⟨⟨z, y, []⟩, none, 0, 0⟩ w := ⟨hz, hy, ⟨rfl, by simp, by simp, .inl rfl⟩, Nat.le_refl _, Nat.zero_le _, fun _ => rfl⟩
theorem two_ok (w : World) : ∀ q ∈ two2, q.ok w := by
  intro q hq
  simp only [two2, List.mem_cons, List.not_mem_nil, or_false] at hq
  rcases hq with rfl | rfl
  · exact quiet_ok w 2 0 (by decide) (by decide)
  · exact quiet_ok w 2 1 (by decide) (by decide)
abbrev twoO : Obj := .cells #[.int .i64 2, .int .i64 0, .slice none 0 0, .int .i64 2, .int .i64 1, .slice none 0 0] 35
theorem two_cells (w : World) : ∀ j u, (qcells two2)[j]? = some u → (w.alloc twoO).cell? ⟨w.heap.size, 0 + j, none⟩ = some u := by
  intro j u hu
  rw [Nat.zero_add]
  have hb : (w.alloc twoO).heap[w.heap.size]? = some twoO := heap_alloc_new w _
  unfold World.cell?
  rw [hb]
  simpa [qcells, two2, Oq.cells, ask0, ask1] using hu
def hS2 (b3 b4 k : Nat) (vp vs : Value) (_ : Array Bool) (W : World) : Prop := W.cell? ⟨b3, k, none⟩ = some vp ∧ W.cell? ⟨b4, k, none⟩ = some vs
set_option maxRecDepth 20000 in
set_option maxHeartbeats 2000000 in
theorem plays_n {w : World} {a : Option Addr} {n c : Nat} {L : List Opt} (hO : Hid (Ops w a n L)) (hz : Hid (a = none → c = 0)) (hnc : n ≤ c) (hT : Hid (tot L ≤ 1048576)) (hKs : Hid (Kst w)) (h0 : Hid (0 < w.heap.size)) :
    Calls Tryd.prog 4 #[.slice a n c] w fun e w' => e = .returned (.bool true) ∧ Hid (Below w.heap.size w w') := by
  have hn : n ≤ 1048576 := by rw [hO.out.len]; exact Nat.le_trans (len_tot L) hT.out
  obtain ⟨qs, hqL, hqok, hqX⟩ := ops_of hO.out
  have hnq : Hid (n = qs.length) := by have h1 := hO.out.len; rw [← hqL] at h1; simpa [Hid] using h1
  go_enter Tryd.func4, Tryd.ntmps4
  go_upto_region 3 with (first
    | (go_at_call 5; refine (alive_n w hKs h0).mono ?_; rintro e w1 ⟨rfl, B1⟩))
  go_upto_region 4 with (first
    | (go_at_call 10; have _mk := B1.out; refine (new_n _).mono ?_; rintro e w2 ⟨g0, rfl, H2⟩
       have B2 : Hid (Below w.heap.size w w2 ∧ HS w2 g0 [] ∧ w.heap.size ≤ g0) := ⟨_mk.trans (H2.out.2.2.mono _mk.size), H2.out.2.1, Nat.le_trans _mk.size H2.out.1⟩
       clear _mk B1 H2)
    | (go_at_call 10; have _mk := B2.out; refine (new_n _).mono ?_; rintro e w3 ⟨g1, rfl, H3⟩
       have B3 : Hid (Below w.heap.size w w3 ∧ HS w3 g0 [] ∧ HS w3 g1 [] ∧ w.heap.size ≤ g0 ∧ g0 < g1) := ⟨_mk.1.trans (H3.out.2.2.mono _mk.1.size), _mk.2.1.below H3.out.2.2, H3.out.2.1, _mk.2.2, Nat.lt_of_lt_of_le _mk.2.1.glt H3.out.1⟩
       clear _mk B2 H3))
  have ST0 := sp_begin B3.out.1 B3.out.2.1 B3.out.2.2.1 B3.out.2.2.2.1 B3.out.2.2.2.2
  go_upto_region 8 with (fail)
  obtain ⟨W5, HW5⟩ : ∃ W5, Hid ((w3.alloc (ptrs g0 g1)).alloc (.cells #[.slice none 0 0, .slice none 0 0] 33) = W5) := ⟨_, rfl⟩
  have HW5' := HW5.out
  unfold ptrs at HW5'
  rw [HW5.out] at ST0
  rw [HW5']
  clear HW5' HW5
  obtain ⟨b3, H3⟩ : ∃ b3, Hid (w3.heap.size = b3) := ⟨_, rfl⟩
  rw [H3.out] at ST0 ⊢
  obtain ⟨b4, H4⟩ : ∃ b4, Hid (b3 + 1 = b4) := ⟨_, rfl⟩
  rw [H4.out] at ST0 ⊢
  obtain ⟨Gf, HGf⟩ : ∃ Gf : Nat → Nat, Hid ((fun k => if k = 0 then g0 else g1) = Gf) := ⟨_, rfl⟩
  have S5 : Hid (∃ lab, SP w W5 b4 [(b3, ptrs g0 g1)] (D00 g0 g1) lab) := ⟨_, ST0⟩
  obtain ⟨lab5, S5''⟩ := S5.out
  have S5' : Hid (SP w W5 b4 [(b3, ptrs g0 g1)] (D00 g0 g1) lab5) := S5''
  have IV : Hid (InvP Gf 0 (D00 g0 g1)) := by rw [← HGf.out]; exact ⟨fun _ _ => rfl, fun _ _ => rfl, fun _ _ => Nat.le_refl _⟩
  clear ST0 H3 H4 B3 S5 S5''
  have b6 : Below W5.heap.size W5 (W5.alloc (.cells #[] 35)) := (Below.refl _ _).alloc (Nat.le_refl _) _
  have bw6 : Below w.heap.size w (W5.alloc (.cells #[] 35)) := S5'.out.bel.trans (b6.mono S5'.out.bel.size)
  obtain ⟨g7, cap7, W7, r7, own7, gr7⟩ := app_ops (a := a) (c := c) (oow_new W5) hnq.out (hqX.imp id (fun ⟨b, o, h1, h2⟩ => ⟨b, o, h1, fun j u hu => (bw6.cell (p := ⟨b, o + j, none⟩) (cell_lt (h2 j u hu))).trans (h2 j u hu)⟩)) hz.out (by omega) (by simp)
  rw [Nat.zero_add] at r7 own7
  rw [List.nil_append] at own7
  have b7 : Below W5.heap.size W5 W7 := b6.grown gr7 b6.size (fun j e => by simp at e; omega)
  have b8 : Below W5.heap.size W5 (W7.alloc twoO) := b7.alloc b7.size _
  obtain ⟨g8, cap8, W8, r8, own8, gr8⟩ := app_ops (a := some ⟨W7.heap.size, 0, none⟩) (c := 2) (n := 2) (qs := two2) (World.ownsRow.alloc own7 twoO) rfl (.inr ⟨_, 0, rfl, two_cells W7⟩) (by simp) (by omega) b8.size
  have ge7 := own7.cells.1
  have b9 : Below W5.heap.size W5 W8 := b8.grown gr8 b8.size (fun j e => by simp at e; omega)
  have AP1 : Hid ((Builtin.append_ #[29, 29] 29 #[.slice (some ⟨W5.heap.size, 0, none⟩) 0 0, .slice a n c]).run Tryd.prog (W5.alloc (.cells #[] 35)) = .ok (.slice (some ⟨g7, 0, none⟩) n cap7) W7) := r7
  have AP2 : Hid ((Builtin.append_ #[29, 29] 29 #[.slice (some ⟨g7, 0, none⟩) n cap7, .slice (some ⟨W7.heap.size, 0, none⟩) 2 2]).run Tryd.prog (W7.alloc twoO) = .ok (.slice (some ⟨g8, 0, none⟩) (n + 2) cap8) W8) := r8
  obtain ⟨Q, HQ⟩ : ∃ Q, Hid (qs ++ two2 = Q) := ⟨_, rfl⟩
  obtain ⟨m, Hm⟩ : ∃ m, Hid (n + 2 = m) := ⟨_, rfl⟩
  have QL : Hid (Q.length = m) := by rw [← HQ.out, ← Hm.out, hnq.out]; simp [Hid, two2]
  have QT : Hid (tot (Q.map (·.x)) ≤ 1048578) := by
    have h1 := hT.out
    rw [← HQ.out, List.map_append, tot_app, hqL]
    show _ ≤ _
    have : tot (two2.map (·.x)) = 2 := by decide
    omega
  have QK : Hid (∀ q ∈ Q, q.ok w) := by
    rw [← HQ.out]
    intro q hq
    rcases List.mem_append.1 hq with h | h
    · exact hqok q h
    · exact two_ok w q h
  have QC : Hid (∀ j u, (qcells Q)[j]? = some u → W8.cell? ⟨g8, 0 + j, none⟩ = some u) := by rw [← HQ.out]; exact own8.cells.2.2
  have hm : m ≤ 1048578 := by rw [← Hm.out]; omega
  obtain ⟨O8, HO8⟩ : ∃ O8, W8.heap[g8]? = some O8 := ⟨_, Array.getElem?_eq_getElem own8.cells.2.1⟩
  have QC2 : Hid (W8.heap[g8]? = some O8) := HO8
  obtain ⟨E0, HE0⟩ : ∃ E0, Hid (((g8, O8) :: [(b3, ptrs g0 g1)] : List (Nat × Obj)) = E0) := ⟨_, rfl⟩
  have S8 : Hid (∃ lab, SP w W8 b4 E0 (D00 g0 g1) lab) := ⟨_, by rw [← HE0.out]; exact S5'.out.fix b9 own8.cells.1 HO8⟩
  have M0 : Hid ((g8, O8) ∈ E0 ∧ (b3, ptrs g0 g1) ∈ E0) := by rw [← HE0.out]; exact ⟨by simp, by simp⟩
  rw [Hm.out] at AP2
  have J8 : Hid (∃ (D : Nat → Hw) (lab : Nat → Nat), SP w W8 b4 E0 D lab ∧ InvP Gf (tot ((Q.map (·.x)).take 0)) D) := by obtain ⟨lb, h⟩ := S8.out; exact ⟨_, lb, h, IV.out.more (Nat.zero_le _)⟩
  clear r7 own7 gr7 b7 b8 r8 own8 gr8 ge7 b9 HO8 S5' b6 bw6 hqX hqok hqL HQ HE0 S8 IV
  go_wp2_with (first
    | (at_builtin; refine wpList_app29 (by rfl) (.tmp 24) (.tmp 25) (by rfl) (by rfl) (by rfl) (by rfl) AP1 ?_)
    | (at_builtin; refine wpList_app29 (by rfl) (.tmp 26) (.tmp 29) (by rfl) (by rfl) (by rfl) (by rfl) AP2 ?_))
  go_loopw [5, 32] (fun tw ti wr => ∃ (i wk : Nat) (D : Nat → Hw) (lab : Nat → Nat), i ≤ m ∧ ti = .int .i64 i ∧ tw = .int .i64 wk ∧ wk ≤ 4194304 ∧ Hid (SP w wr b4 E0 D lab ∧ InvP Gf (tot ((Q.map (·.x)).take i)) D)) (fun _ ti _ => m - (intOf ti).toNat)
  case atStart => obtain ⟨D2, l2, h8⟩ := J8.out; exact ⟨0, 0, D2, l2, by omega, rfl, rfl, by omega, h8⟩
  case round =>
    clear J8
    obtain ⟨i, wk, D, lab, him, rfl, rfl, hwk, HR⟩ := hrel
    by_cases hlt : i < m
    · have hiQ : i < Q.length := by rw [QL.out]; exact hlt
      have he : wr.heap[g8]? = W8.heap[g8]? := by rw [(HR.out.1.fx g8 O8 M0.out.1).1, QC2.out]
      obtain ⟨d0, d1, d2⟩ := row_op QC.out he hiQ
      have K := QK.out _ (getD_mem hiQ)
      have TK := tot_nextq hiQ
      have TL := Nat.le_trans (tot_take (Q.map (·.x)) (i + 1)) QT.out
      obtain ⟨⟨x, ab, nb, cb⟩, Hoq⟩ : ∃ oq, Hid (Q.getD i default = oq) := ⟨_, rfl⟩
      rw [Hoq.out] at d0 d1 d2 K TK
      have OK : Hid (Oq.ok ⟨x, ab, nb, cb⟩ w) := K
      simp only at d0 d1 d2
      obtain ⟨bd, HBD⟩ : ∃ bd, Hid (tot ((Q.map (·.x)).take i) = bd) := ⟨_, rfl⟩
      obtain ⟨bd', HBD'⟩ : ∃ bd', Hid (tot ((Q.map (·.x)).take (i + 1)) = bd') := ⟨_, rfl⟩
      have NB : Hid (nb = x.bs.length) := OK.out.sl.len
      have BDL : Hid (bd' = bd + nb + 1 ∧ bd' ≤ 1048578) := by
        have h1 := NB.out
        simp only at TK
        rw [← HBD.out, ← HBD'.out, TK]
        exact ⟨by omega, by omega⟩
      rw [HBD.out] at HR
      obtain ⟨dd, HL⟩ : ∃ dd, Hid (m = i + 1 + dd) := ⟨m - i - 1, by show _ = _; omega⟩
      have FINI : Hid (∀ wN, (∃ (D : Nat → Hw) (lab : Nat → Nat), SP w wN b4 E0 D lab ∧ InvP Gf bd' D) → ∃ (D : Nat → Hw) (lab : Nat → Nat), SP w wN b4 E0 D lab ∧ InvP Gf (tot ((Q.map (·.x)).take (i + 1))) D) := fun wN h => by rw [HBD'.out]; exact h
      clear K TK TL he hiQ HBD HBD' Hoq
      go_upto_region 11 with (fail)
      obtain ⟨w5, W5'⟩ : ∃ w5, Hid (wr.alloc (oO x ab nb cb) = w5) := ⟨_, rfl⟩
      obtain ⟨q, Hq⟩ : ∃ q, Hid (wr.heap.size = q) := ⟨_, rfl⟩
      obtain ⟨lab1, HL1⟩ : ∃ l, Hid (rel wr.heap.size 0 lab = l) := ⟨_, rfl⟩
      have bA : Below wr.heap.size wr w5 := by rw [← W5'.out]; exact (Below.refl _ _).alloc (Nat.le_refl _) _
      have S5 : Hid (SP w w5 b4 ((q, oO x ab nb cb) :: E0) D lab1) := by rw [← HL1.out]; exact HR.out.1.fix bA (by rw [Hq.out]; exact Nat.le_refl _) (by rw [← W5'.out, ← Hq.out]; exact heap_alloc_new _ _)
      have I5 : Hid (InvP Gf bd D) := HR.out.2
      have HW5 := W5'.out
      unfold oO at HW5
      rw [HW5, Hq.out]
      clear HW5 W5' Hq HL1 d0 d1 d2 HR bA
      obtain ⟨k, hk, em⟩ := and_one x.which
      have hki : (k : Int) < 2 := by omega
      have L5 : Hid (Loc w5 q x ab nb cb) := S5.out.loc (List.mem_cons_self ..)
      have e1 := L5.out.c1
      have e0 := L5.out.c0
      obtain ⟨⟨G, X, PA, PN, PC, P⟩, Hd⟩ : ∃ d, Hid (D k = d) := ⟨_, rfl⟩
      have ig := I5.out.g k hk
      have iP := I5.out.P k hk
      have iN := I5.out.n k hk
      rw [Hd.out] at ig iP iN
      simp only at ig iP iN
      subst iP
      have HG : Hid (G = Gf k) := ig
      have N5 : Hid (NowP w w5 b4 ((q, oO x ab nb cb) :: E0) D lab1 k ⟨G, P, PA, PN, PC, P⟩) := ⟨S5.out, Hd.out⟩
      have PNB : Hid (PN ≤ bd ∧ PN = P.length ∧ PN ≤ 1048578) := by
        have h1 := (N5.out.own hk).len
        have h2 := BDL.out
        exact ⟨iN, h1, by omega⟩
      have hPN : PN ≤ 1048578 := PNB.out.2.2
      have CP : Hid (∀ W, (∃ D' l', SP w W b4 ((q, oO x ab nb cb) :: E0) D' l') → W.cell? ⟨b3, k, none⟩ = some (.pointer (some ⟨G, 0, none⟩))) := by
        rintro W ⟨D', l', h⟩
        have h1 := ptrs_cell (h.fx b3 _ (List.mem_cons_of_mem _ M0.out.2)).1 hk
        rw [h1, HG.out, ← HGf.out]
      have KS : Hid (∀ W, Below w.heap.size w W → Kst W) := fun W hb => hKs.out.below hb h0.out
      have Z0 : Hid (∀ W, Below w.heap.size w W → 0 < W.heap.size) := fun W hb => Nat.lt_of_lt_of_le h0.out hb.size
      have G0 : G ≠ 0 := by have h1 := S5.out.ge k hk; rw [Hd.out] at h1; have h2 := h0.out; simp only at h1; omega
      clear ig iN Hd
      go_upto_region 13 with (fail)
      clear e1 em e0
      obtain ⟨kd, Hk⟩ : ∃ kd, Hid (x.kind = kd) := ⟨_, rfl⟩
      rw [Hk.out]
      have S0 : Hid (Sln w ab nb x.bs) := OK.out.sl
      have S5x : Hid (Sln w5 ab nb x.bs) := S0.out.below S5.out.bel
      have ZB : Hid (ab = none → cb = 0) := OK.out.z
      by_cases h1 : kd = 1
      · subst h1
        have e3 := L5.out.c2
        go_upto_region 15 with (first
          | (go_at_call 6; refine (bytes_n S5x ZB).mono ?_; rintro e wb ⟨gb, Nb, rfl, Hb⟩))
        obtain ⟨labb, HLb⟩ : ∃ l, Hid (rel w5.heap.size 11 lab1 = l) := ⟨_, rfl⟩
        have NB5 : Hid (NowP w wb b4 ((q, oO x ab nb cb) :: E0) D labb k ⟨G, P, PA, PN, PC, P⟩) := by rw [← HLb.out]; exact ⟨N5.out.st.mark 11 Hb.out.2.2.2, N5.out.eq⟩
        have lgb : Hid (labb gb = 11 ∧ gb < wb.heap.size ∧ w.heap.size ≤ gb) := ⟨by rw [← HLb.out]; exact rel_new (by rw [Hb.out.2.1]; exact Nat.le_refl _), Hb.out.2.2.1.lt, by rw [Hb.out.2.1]; exact S5.out.bel.size⟩
        have HNb : Hid (Nb = nb + 6) := Hb.out.1
        have BKb : Hid (Blk wb gb (x.bs ++ marks)) := Hb.out.2.2.1
        have SGb : Hid (Sln wb (some ⟨gb, 0, none⟩) nb x.bs) := blk_begin BKb.out NB.out S0.out.lt S0.out.sli.2.1
        have HSb : Hid (HS wb G P) := NB5.out.hs hk
        have gG : gb ≠ G := by
          have h2 := lgb.out.1
          have h3 := NB5.out.st.lg k hk
          rw [NB5.out.eq] at h3
          intro e
          rw [e] at h2
          simp only at h3
          omega
        have APb : Hid (∀ b off, x.bs ≠ [] → some (⟨gb, 0, none⟩ : Addr) = some ⟨b, off, none⟩ → b ≠ G) := by
          intro b off _ h1
          simp only [Option.some.injEq, Addr.mk.injEq, and_true] at h1
          obtain ⟨rfl, _⟩ := h1
          exact gG
        have NbC : nb ≤ Nb := by rw [HNb.out]; omega
        have KSb : Hid (Kst wb) := KS.out _ NB5.out.st.bel
        have Z0b : 0 < wb.heap.size := Z0.out _ NB5.out.st.bel
        have LNb : Hid (P.length + x.bs.length < 4611686018427387904) := by have h2 := PNB.out; have h3 := BDL.out; have h4 := NB.out; show _ < _; omega
        have c3 := CP.out wb ⟨_, _, NB5.out.st⟩
        clear Hb e3 HLb
        go_upto_region 16 with (first
          | (go_at_call 11; refine (write_n wb G nb Nb P x.bs _ HSb SGb NbC APb KSb Z0b G0 LNb).mono ?_; rintro e w6 ⟨rfl, H6⟩))
        clear c3
        have BK6 : Hid (Blk w6 gb (x.bs ++ marks)) := (H6.out.2.block gb lgb.out.2.1 gG).trans BKb.out
        have lt6 : Hid (gb < w6.heap.size) := BK6.out.lt
        have N6 : Hid (NowP w w6 b4 ((q, oO x ab nb cb) :: E0) (updH D k ⟨G, P ++ x.bs, PA, PN, PC, P⟩) labb k ⟨G, P ++ x.bs, PA, PN, PC, P⟩) := NB5.out.h hk H6.out.1 H6.out.2
        clear H6 NB5 BKb SGb HSb
        obtain ⟨W, HW⟩ : ∃ W, Hid (w6.drew = W) := ⟨_, rfl⟩
        have NW : Hid (NowP w W b4 ((q, oO x ab nb cb) :: E0) (updH D k ⟨G, P ++ x.bs, PA, PN, PC, P⟩) labb k ⟨G, P ++ x.bs, PA, PN, PC, P⟩) := by rw [← HW.out]; exact N6.out.below (below_drewN (Below.refl _ _) 1)
        have BKW : Hid (Blk W gb (x.bs ++ marks)) := by rw [← HW.out]; exact BK6.out
        have C6 : W.cell? ⟨b4, k, none⟩ = some (.slice PA PN PC) ∧ W.cell? ⟨q, 2, none⟩ = some (.slice ab nb cb) := ⟨NW.out.c4 hk, (NW.out.st.loc (List.mem_cons_self ..)).c2⟩
        obtain ⟨a8, c8, w8, hrun8, h81, NW8, CH8⟩ := NW.out.p hk (List.mem_cons_self ..) (S0.out.below NW.out.st.bel) ZB.out (by have h2 := PNB.out; have h3 := BDL.out; show PN + nb ≤ _; omega)
        have AP : Hid ((Builtin.append_ #[22, 22] 22 #[.slice PA PN PC, .slice ab nb cb]).run Tryd.prog W = .ok (.slice a8 (PN + nb) c8) w8) := hrun8
        have C8 : w8.cell? ⟨b4, k, none⟩ = some (.slice PA PN PC) ∧ w8.cell? ⟨q, 2, none⟩ = some (.slice ab nb cb) := ⟨h81.1, h81.2.1.c2⟩
        have F8 := h81.2.2
        have CC8 := h81.1
        obtain ⟨w9, HW9⟩ : ∃ w9, Hid (w8.setCell ⟨b4, k, none⟩ (.slice a8 (PN + nb) c8) = w9) := ⟨_, rfl⟩
        have NW9 := NW8
        have CH9 := CH8
        rw [HW9.out] at NW9 CH9
        have N9 : Hid (NowP w w9 b4 ((q, oO x ab nb cb) :: E0) _ _ k _) := NW9
        have BK9 : Hid (Blk w9 gb (x.bs ++ marks)) := (CH9.block gb BKW.out.lt (by have := lgb.out.1; omega)).trans BKW.out
        have lg9 : Hid (rel W.heap.size (7 + k) labb gb = 11) := by rw [rel_old BKW.out.lt]; exact lgb.out.1
        clear hrun8 h81 NW8 CH8 NW9 CH9
        refine wp_region_till (S := tlc 8 (fun W => W.cell? ⟨b4, k, none⟩ = some (.slice PA PN PC) ∧ W.cell? ⟨q, 2, none⟩ = some (.slice ab nb cb))) (by kernel_rfl) ?_ (fun hS => ?_)
        · rw [HW.out]; exact .inr C6
        rw [HW.out] at hS ⊢
        clear HW
        refine till_take (i := 0) (v := .int .i64 (k : Int)) rfl (by kernel_rfl) (by kernel_rfl) (by kernel_rfl) (fun _ _ _ h => h) (fun L w => tlc_set (by decide)) (Or.inl ⟨by rfl, fun w => by go_simp⟩) hS (fun hSb => ?_)
        simp only [List.getElem_toArray, List.getElem_cons_zero, List.getElem_cons_succ, Act.put, List.setIfInBounds_toArray, List.set_cons_zero, List.set_cons_succ]
        clear hS
        refine till_take (i := 1) (v := .int .i64 (k : Int)) rfl (by kernel_rfl) (by kernel_rfl) (by kernel_rfl) (fun _ _ _ h => h) (fun L w => tlc_set (by decide)) (Or.inl ⟨by rfl, fun w => by go_simp⟩) hSb (fun hS => ?_)
        simp only [List.getElem_toArray, List.getElem_cons_zero, List.getElem_cons_succ, Act.put, List.setIfInBounds_toArray, List.set_cons_zero, List.set_cons_succ]
        clear hSb
        refine till_take (i := 2) (v := .pointer (some ⟨b4, k, none⟩)) rfl (by kernel_rfl) (by kernel_rfl) (by kernel_rfl) (fun _ _ _ h => h) (fun L w => tlc_set (by decide)) (Or.inl ⟨by rfl, fun w => by go_simp⟩) hS (fun hSb => ?_)
        simp only [List.getElem_toArray, List.getElem_cons_zero, List.getElem_cons_succ, Act.put, List.setIfInBounds_toArray, List.set_cons_zero, List.set_cons_succ]
        clear hS
        refine till_read (i := 3) (c := 8) (v := .slice PA PN PC) rfl rfl (by kernel_rfl) (by kernel_rfl) (by kernel_rfl) (by kernel_rfl) (by kernel_rfl) (fun _ _ _ h => h) (fun L w => tlc_set (by decide)) (fun L w h1 h2 => tlc_get h1 h2) (Or.inl ⟨by rfl, fun w hSw => by (try dsimp only at hSw); go_simp⟩) hSb (fun hS => ?_)
        simp only [List.getElem_toArray, List.getElem_cons_zero, List.getElem_cons_succ, Act.put, List.setIfInBounds_toArray, List.set_cons_zero, List.set_cons_succ]
        clear hSb
        refine till_take (i := 4) (v := .pointer (some ⟨q, 2, none⟩)) rfl (by kernel_rfl) (by kernel_rfl) (by kernel_rfl) (fun _ _ _ h => h) (fun L w => tlc_set (by decide)) (Or.inl ⟨by rfl, fun w => by go_simp⟩) hS (fun hSb => ?_)
        simp only [List.getElem_toArray, List.getElem_cons_zero, List.getElem_cons_succ, Act.put, List.setIfInBounds_toArray, List.set_cons_zero, List.set_cons_succ]
        clear hS
        refine till_read (i := 5) (c := 8) (v := .slice ab nb cb) rfl rfl (by kernel_rfl) (by kernel_rfl) (by kernel_rfl) (by kernel_rfl) (by kernel_rfl) (fun _ _ _ h => h) (fun L w => tlc_set (by decide)) (fun L w h1 h2 => tlc_get h1 h2) (Or.inl ⟨by rfl, fun w hSw => by (try dsimp only at hSw); go_simp⟩) hSb (fun hS => ?_)
        simp only [List.getElem_toArray, List.getElem_cons_zero, List.getElem_cons_succ, Act.put, List.setIfInBounds_toArray, List.set_cons_zero, List.set_cons_succ]
        clear hSb
        refine till_one (i := 6) (by kernel_rfl) rfl (fun K hK => ?_)
        simp only [List.getElem_toArray, List.getElem_cons_zero, List.getElem_cons_succ]
        rw [if_pos (by rfl)]
        refine Lib.wp_append_run _ (.tmp 54) (.tmp 56) 22 22 (by rfl) _ _ (by rfl) (by rfl) _ _ AP.out ?_
        refine hK.out _ _ (.inr C8) (fun hSb => ?_)
        clear hK K
        try simp only [List.getElem_toArray, List.getElem_cons_zero, List.getElem_cons_succ, Act.put, List.setIfInBounds_toArray, List.set_cons_zero, List.set_cons_succ]
        clear hS
        refine till_take (i := 7) (v := .pointer (some ⟨b4, k, none⟩)) rfl (by kernel_rfl) (by kernel_rfl) (by kernel_rfl) (fun _ _ _ h => h) (fun L w => tlc_set (by decide)) (Or.inl ⟨by rfl, fun w => by go_simp⟩) hSb (fun hS => ?_)
        simp only [List.getElem_toArray, List.getElem_cons_zero, List.getElem_cons_succ, Act.put, List.setIfInBounds_toArray, List.set_cons_zero, List.set_cons_succ]
        clear hSb
        refine till_one (i := 8) (by kernel_rfl) rfl (fun K hK => ?_)
        simp only [List.getElem_toArray, List.getElem_cons_zero, List.getElem_cons_succ]
        rw [if_pos (by rfl)]
        go_simp
        refine hK.out _ _ (.inl (by kernel_rfl)) (fun hSb => ?_)
        clear hK K
        try simp only [List.getElem_toArray, List.getElem_cons_zero, List.getElem_cons_succ, Act.put, List.setIfInBounds_toArray, List.set_cons_zero, List.set_cons_succ]
        clear hS
        refine till_done (by kernel_rfl) ?_ _
        clear hSb
        rw [HW9.out]
        have S9x : Hid (Sln w9 ab nb x.bs) := S0.out.below N9.out.st.bel
        have e9 : w9.cell? ⟨q, 2, none⟩ = some (.slice ab nb cb) := (N9.out.st.loc (List.mem_cons_self ..)).c2
        clear C8 AP NW HW9 BKW BK6 F8 CC8 N6 C6
        go_upto_region 19 with (first
          | (go_at_call 9; refine (kept_n BK9 HNb S9x).mono ?_; rintro e w10 ⟨rfl, H10⟩))
        have BK10 : Hid (Blk w10 gb (x.bs ++ marks)) := by obtain ⟨j, hj⟩ := H10.out; rw [hj]; exact BK9.out.drewN j
        have B10 : Below w9.heap.size w9 w10 := by obtain ⟨j, hj⟩ := H10.out; rw [hj]; exact below_drewN (Below.refl _ _) j
        have S10 := N9.out.st.below B10
        have FINA : Hid (∀ wx, Oth gb w10 wx → ∃ (D : Nat → Hw) (lab : Nat → Nat), SP w wx b4 E0 D lab ∧ InvP Gf (tot ((Q.map (·.x)).take (i + 1))) D) := by
          intro wx ho
          have S11 := S10.one (by decide) lg9.out lgb.out.2.2 (Ch.oth ho)
          exact FINI.out _ (end_roundP (bd' := bd') (d := (⟨G, P ++ x.bs, a8, PN + nb, c8, P ++ x.bs⟩ : Hw)) S11 (updH_updH _ _ _ _) I5.out (by have := BDL.out; omega) HG.out rfl (by have h2 := BDL.out; have h3 := PNB.out; show PN + nb ≤ bd'; omega))
        have hnbs : nb ≤ 1048578 := by have := BDL.out; omega
        clear S10 B10 N9 H10 e9 S9x BK9
        go_wp2
        go_loopw [66] (fun tj wx => ∃ j : Nat, j ≤ nb ∧ tj = .int .i64 j ∧ Hid (∃ Lb, Blk wx gb Lb ∧ Lb.length = nb + 6 ∧ (∀ y ∈ Lb, y < 256) ∧ Oth gb w10 wx)) (fun tj _ => nb - (intOf tj).toNat)
        case atStart => exact ⟨0, by omega, rfl, _, BK10.out, by rw [List.length_append, ← NB.out]; rfl, by intro y hy; rcases List.mem_append.1 hy with h | h; exact S0.out.lt y h; exact (by decide : ∀ y ∈ marks, y < 256) y h, Oth.refl _ _⟩
        case round =>
          obtain ⟨j, hj, rfl, HJ⟩ := hrel
          obtain ⟨Lb, hB, hl, hb, ho⟩ := HJ.out
          by_cases hlt2 : j < nb
          · obtain ⟨y, Hy⟩ : ∃ y, Hid (Lb.getD j 0 = y) := ⟨_, rfl⟩
            have hy : y < 256 := by rw [← Hy.out]; exact getD_lt hb j
            have c1 : wr.cell? ⟨gb, j, none⟩ = some (.int .u8 (y : Nat)) := by rw [← Hy.out]; exact hB.cell (by omega)
            have c2' : wr.frozen? ⟨gb, j, none⟩ = false := hB.frozen j
            have Nx : Hid (∃ L', Blk (wr.setCell ⟨gb, j, none⟩ (.int .u8 ((y ^^^ 91 : Nat) : Int))) gb L' ∧ L'.length = nb + 6 ∧ (∀ y ∈ L', y < 256) ∧ Oth gb w10 (wr.setCell ⟨gb, j, none⟩ (.int .u8 ((y ^^^ 91 : Nat) : Int)))) := ⟨Lb.set j (y ^^^ 91), hB.set j _, by simp [hl], set_lt8 hb j _ (xor_lt8 hy (by omega)), ho.setCell j _⟩
            have i2 : (j : Int) < (nb : Int) := by omega
            have x91 : bits BinOp.xor IntKind.u8 (y : Int) 91 = ((y ^^^ 91 : Nat) : Int) := xor_u8 y 91 hy (by omega)
            clear hB hl hb ho HJ
            go_wp2
            go_roundw
            case rel => exact ⟨j + 1, by omega, by go_num, Nx.out⟩
            case measure => simp [intOf]; omega
          · have FIN : Hid (∃ (D : Nat → Hw) (lab : Nat → Nat), SP w wr b4 E0 D lab ∧ InvP Gf (tot ((Q.map (·.x)).take (i + 1))) D) := FINA.out wr ho
            clear FINA HJ hB hl hb ho
            go_wp2
            go_roundw
            case rel => have hl := HL.out; obtain ⟨D2, l2, h8⟩ := FIN.out; exact ⟨i + 1, wk, D2, l2, by omega, by go_num, rfl, hwk, h8⟩
            case measure => have hl := HL.out; simp [intOf]; omega
      · have i1 : ¬ (kd = 1) := h1
        clear h1
        by_cases h2 : kd = 2
        · subst h2
          have c4 := N5.out.c4 hk
          simp only at c4
          obtain ⟨wk2, Hwk2⟩ : ∃ y, Hid (wk + PN = y) := ⟨_, rfl⟩
          have ewk : (wk : Int) + (PN : Int) = (wk2 : Int) := by have := Hwk2.out; omega
          have hwk2 : wk2 ≤ 8388608 := by rw [← Hwk2.out]; omega
          go_upto_region 26 with (fail)
          clear c4
          by_cases hbig : 4194304 < wk2
          · have ib : (4194304 : Int) < (wk2 : Int) := by omega
            have FB : Hid (Below w.heap.size w w5) := S5.out.bel
            go_wp2
            go_ret
            exact ⟨rfl, FB.out⟩
          · have ib : ¬ ((4194304 : Int) < (wk2 : Int)) := by omega
            have hw2 : wk2 ≤ 4194304 := by omega
            clear hbig
            go_upto_region 28 with (fail)
            obtain ⟨W, HW⟩ : ∃ W, Hid (w5.drew = W) := ⟨_, rfl⟩
            have NW : Hid (NowP w W b4 ((q, oO x ab nb cb) :: E0) D lab1 k ⟨G, P, PA, PN, PC, P⟩) := by rw [← HW.out]; exact N5.out.below (below_drewN (Below.refl _ _) 1)
            have C1 : hS2 b3 b4 k (.pointer (some ⟨G, 0, none⟩)) (.slice PA PN PC) #[] W := ⟨CP.out W ⟨_, _, NW.out.st⟩, NW.out.c4 hk⟩
            have HSW : Hid (HS W G P) := NW.out.hs hk
            refine wp_region_till (S := hS2 b3 b4 k (.pointer (some ⟨G, 0, none⟩)) (.slice PA PN PC)) (by kernel_rfl) ?_ (fun hS => ?_)
            · rw [HW.out]; exact C1
            rw [HW.out] at hS ⊢
            clear HW
            have KSW : Hid (Kst W) := KS.out _ NW.out.st.bel
            have Z0W : Hid (0 < W.heap.size) := Z0.out _ NW.out.st.bel
            have LNW : Hid (P.length < 4611686018427387904) := by have h2 := PNB.out; show _ < _; omega
            refine till_take (i := 0) (v := .int .i64 (k : Int)) rfl (by kernel_rfl) (by kernel_rfl) (by kernel_rfl) (fun _ _ _ h => h) (fun L w => Iff.rfl) (Or.inl ⟨by rfl, fun w => by go_simp⟩) hS (fun hSb => ?_)
            simp only [List.getElem_toArray, List.getElem_cons_zero, List.getElem_cons_succ, Act.put, List.setIfInBounds_toArray, List.set_cons_zero, List.set_cons_succ]
            clear hS
            refine till_take (i := 1) (v := .pointer (some ⟨b3, k, none⟩)) rfl (by kernel_rfl) (by kernel_rfl) (by kernel_rfl) (fun _ _ _ h => h) (fun L w => Iff.rfl) (Or.inl ⟨by rfl, fun w => by go_simp⟩) hSb (fun hS => ?_)
            simp only [List.getElem_toArray, List.getElem_cons_zero, List.getElem_cons_succ, Act.put, List.setIfInBounds_toArray, List.set_cons_zero, List.set_cons_succ]
            clear hSb
            refine till_read (i := 2) (c := 3) (v := .pointer (some ⟨G, 0, none⟩)) rfl rfl (by kernel_rfl) (by kernel_rfl) (by kernel_rfl) (by kernel_rfl) (by kernel_rfl) (fun _ _ _ h => h) (fun L w => Iff.rfl) (fun L w h1 h2 => h2) (Or.inl ⟨by rfl, fun w hSw => by (try dsimp only at hSw); go_simp⟩) hS (fun hSb => ?_)
            simp only [List.getElem_toArray, List.getElem_cons_zero, List.getElem_cons_succ, Act.put, List.setIfInBounds_toArray, List.set_cons_zero, List.set_cons_succ]
            clear hS
            refine till_take (i := 4) (v := .int .i64 (k : Int)) rfl (by kernel_rfl) (by kernel_rfl) (by kernel_rfl) (fun _ _ _ h => h) (fun L w => Iff.rfl) (Or.inl ⟨by rfl, fun w => by go_simp⟩) hSb (fun hS => ?_)
            simp only [List.getElem_toArray, List.getElem_cons_zero, List.getElem_cons_succ, Act.put, List.setIfInBounds_toArray, List.set_cons_zero, List.set_cons_succ]
            clear hSb
            refine till_take (i := 5) (v := .pointer (some ⟨b4, k, none⟩)) rfl (by kernel_rfl) (by kernel_rfl) (by kernel_rfl) (fun _ _ _ h => h) (fun L w => Iff.rfl) (Or.inl ⟨by rfl, fun w => by go_simp⟩) hS (fun hSb => ?_)
            simp only [List.getElem_toArray, List.getElem_cons_zero, List.getElem_cons_succ, Act.put, List.setIfInBounds_toArray, List.set_cons_zero, List.set_cons_succ]
            clear hS
            refine till_read (i := 6) (c := 7) (v := .slice PA PN PC) rfl rfl (by kernel_rfl) (by kernel_rfl) (by kernel_rfl) (by kernel_rfl) (by kernel_rfl) (fun _ _ _ h => h) (fun L w => Iff.rfl) (fun L w h1 h2 => h2) (Or.inl ⟨by rfl, fun w hSw => by (try dsimp only at hSw); go_simp⟩) hSb (fun hS => ?_)
            simp only [List.getElem_toArray, List.getElem_cons_zero, List.getElem_cons_succ, Act.put, List.setIfInBounds_toArray, List.set_cons_zero, List.set_cons_succ]
            clear hSb
            refine till_one (i := 3) (by kernel_rfl) rfl (fun K hK => ?_)
            simp only [List.getElem_toArray, List.getElem_cons_zero, List.getElem_cons_succ]
            rw [if_pos (by rfl)]
            go_simp
            go_wp2_with (go_at_call 12; refine (hsum_n W G P HSW KSW Z0W LNW).mono ?_; rintro e w6 ⟨d6, rfl, H6⟩)
            have N6 : Hid (NowP w w6 b4 ((q, oO x ab nb cb) :: E0) D lab1 k ⟨G, P, PA, PN, PC, P⟩) := NW.out.below H6.out.2
            have C2 : hS2 b3 b4 k (.pointer (some ⟨G, 0, none⟩)) (.slice PA PN PC) #[] w6 := ⟨CP.out w6 ⟨_, _, N6.out.st⟩, N6.out.c4 hk⟩
            refine hK.out _ _ (C2) (fun hSb => ?_)
            clear hK K
            try simp only [List.getElem_toArray, List.getElem_cons_zero, List.getElem_cons_succ, Act.put, List.setIfInBounds_toArray, List.set_cons_zero, List.set_cons_succ]
            clear hS
            refine till_one (i := 7) (by kernel_rfl) rfl (fun K hK => ?_)
            simp only [List.getElem_toArray, List.getElem_cons_zero, List.getElem_cons_succ]
            rw [if_pos (by rfl)]
            go_simp
            go_wp2_with (go_at_call 8; refine (refsum_n w6 PA PN PC P (show Hid (Sln w6 PA PN P) from (N6.out.own hk).sln (show PN ≤ _ by omega)) (show Hid (PA = none → PC = 0) from (N6.out.own hk).cap0)).mono ?_; rintro e w7 ⟨d7, rfl, H7⟩)
            have N7 : Hid (NowP w w7 b4 ((q, oO x ab nb cb) :: E0) D lab1 k ⟨G, P, PA, PN, PC, P⟩) := N6.out.below H7.out.2
            have C3 : hS2 b3 b4 k (.pointer (some ⟨G, 0, none⟩)) (.slice PA PN PC) #[] w7 := ⟨CP.out w7 ⟨_, _, N7.out.st⟩, N7.out.c4 hk⟩
            have ed : d7 = d6 := by rw [H7.out.1, H6.out.1]
            subst ed
            have EQ := eq_same d7 (by rw [H7.out.1]; exact sum_length P) w7
            refine hK.out _ _ (C3) (fun hS => ?_)
            clear hK K
            try simp only [List.getElem_toArray, List.getElem_cons_zero, List.getElem_cons_succ, Act.put, List.setIfInBounds_toArray, List.set_cons_zero, List.set_cons_succ]
            clear hSb
            refine till_one (i := 8) (by kernel_rfl) rfl (fun K hK => ?_)
            simp only [List.getElem_toArray, List.getElem_cons_zero, List.getElem_cons_succ]
            rw [if_pos (by rfl)]
            go_simp
            refine hK.out _ _ (C3) (fun hSb => ?_)
            clear hK K
            try simp only [List.getElem_toArray, List.getElem_cons_zero, List.getElem_cons_succ, Act.put, List.setIfInBounds_toArray, List.set_cons_zero, List.set_cons_succ]
            clear hS
            refine till_done (by kernel_rfl) ?_ _
            clear hSb
            clear C1 C2 C3 EQ
            have FIN : Hid (∃ (D : Nat → Hw) (lab : Nat → Nat), SP w w7 b4 E0 D lab ∧ InvP Gf (tot ((Q.map (·.x)).take (i + 1))) D) := FINI.out _ ⟨D, lab1, N7.out.st.less (fun z hz => List.mem_cons_of_mem _ hz), I5.out.more (by have := BDL.out; omega)⟩
            clear H6 H7 N6 N7 NW
            go_wp2
            go_roundw
            case rel => have hl := HL.out; obtain ⟨D2, l2, h8⟩ := FIN.out; exact ⟨i + 1, wk2, D2, l2, by omega, by go_num, rfl, hw2, h8⟩
            case measure => have hl := HL.out; simp [intOf]; omega
        · have i2 : ¬ (kd = 2) := h2
          clear h2
          by_cases h3 : kd = 3
          · subst h3
            go_upto_region 31 with (fail)
            obtain ⟨W, HW⟩ : ∃ W, Hid (w5.drew = W) := ⟨_, rfl⟩
            have NW : Hid (NowP w W b4 ((q, oO x ab nb cb) :: E0) D lab1 k ⟨G, P, PA, PN, PC, P⟩) := by rw [← HW.out]; exact N5.out.below (below_drewN (Below.refl _ _) 1)
            have C1 : hS2 b3 b4 k (.pointer (some ⟨G, 0, none⟩)) (.slice PA PN PC) #[] W := ⟨CP.out W ⟨_, _, NW.out.st⟩, NW.out.c4 hk⟩
            have HSW : Hid (HS W G P) := NW.out.hs hk
            refine wp_region_till (S := hS2 b3 b4 k (.pointer (some ⟨G, 0, none⟩)) (.slice PA PN PC)) (by kernel_rfl) ?_ (fun hS => ?_)
            · rw [HW.out]; exact C1
            rw [HW.out] at hS ⊢
            clear HW
            refine till_take (i := 0) (v := .int .i64 (k : Int)) rfl (by kernel_rfl) (by kernel_rfl) (by kernel_rfl) (fun _ _ _ h => h) (fun L w => Iff.rfl) (Or.inl ⟨by rfl, fun w => by go_simp⟩) hS (fun hSb => ?_)
            simp only [List.getElem_toArray, List.getElem_cons_zero, List.getElem_cons_succ, Act.put, List.setIfInBounds_toArray, List.set_cons_zero, List.set_cons_succ]
            clear hS
            refine till_take (i := 1) (v := .pointer (some ⟨b3, k, none⟩)) rfl (by kernel_rfl) (by kernel_rfl) (by kernel_rfl) (fun _ _ _ h => h) (fun L w => Iff.rfl) (Or.inl ⟨by rfl, fun w => by go_simp⟩) hSb (fun hS => ?_)
            simp only [List.getElem_toArray, List.getElem_cons_zero, List.getElem_cons_succ, Act.put, List.setIfInBounds_toArray, List.set_cons_zero, List.set_cons_succ]
            clear hSb
            refine till_read (i := 2) (c := 3) (v := .pointer (some ⟨G, 0, none⟩)) rfl rfl (by kernel_rfl) (by kernel_rfl) (by kernel_rfl) (by kernel_rfl) (by kernel_rfl) (fun _ _ _ h => h) (fun L w => Iff.rfl) (fun L w h1 h2 => h2) (Or.inl ⟨by rfl, fun w hSw => by (try dsimp only at hSw); go_simp⟩) hS (fun hSb => ?_)
            simp only [List.getElem_toArray, List.getElem_cons_zero, List.getElem_cons_succ, Act.put, List.setIfInBounds_toArray, List.set_cons_zero, List.set_cons_succ]
            clear hS
            refine till_take (i := 4) (v := .int .i64 (k : Int)) rfl (by kernel_rfl) (by kernel_rfl) (by kernel_rfl) (fun _ _ _ h => h) (fun L w => Iff.rfl) (Or.inl ⟨by rfl, fun w => by go_simp⟩) hSb (fun hS => ?_)
            simp only [List.getElem_toArray, List.getElem_cons_zero, List.getElem_cons_succ, Act.put, List.setIfInBounds_toArray, List.set_cons_zero, List.set_cons_succ]
            clear hSb
            refine till_take (i := 5) (v := .pointer (some ⟨b4, k, none⟩)) rfl (by kernel_rfl) (by kernel_rfl) (by kernel_rfl) (fun _ _ _ h => h) (fun L w => Iff.rfl) (Or.inl ⟨by rfl, fun w => by go_simp⟩) hS (fun hSb => ?_)
            simp only [List.getElem_toArray, List.getElem_cons_zero, List.getElem_cons_succ, Act.put, List.setIfInBounds_toArray, List.set_cons_zero, List.set_cons_succ]
            clear hS
            refine till_read (i := 6) (c := 7) (v := .slice PA PN PC) rfl rfl (by kernel_rfl) (by kernel_rfl) (by kernel_rfl) (by kernel_rfl) (by kernel_rfl) (fun _ _ _ h => h) (fun L w => Iff.rfl) (fun L w h1 h2 => h2) (Or.inl ⟨by rfl, fun w hSw => by (try dsimp only at hSw); go_simp⟩) hSb (fun hS => ?_)
            simp only [List.getElem_toArray, List.getElem_cons_zero, List.getElem_cons_succ, Act.put, List.setIfInBounds_toArray, List.set_cons_zero, List.set_cons_succ]
            clear hSb
            refine till_take (i := 7) (v := .int .i64 (PN : Int)) rfl (by kernel_rfl) (by kernel_rfl) (by kernel_rfl) (fun _ _ _ h => h) (fun L w => Iff.rfl) (Or.inl ⟨by rfl, fun w => by go_simp⟩) hS (fun hSb => ?_)
            simp only [List.getElem_toArray, List.getElem_cons_zero, List.getElem_cons_succ, Act.put, List.setIfInBounds_toArray, List.set_cons_zero, List.set_cons_succ]
            clear hS
            refine till_one (i := 3) (by kernel_rfl) rfl (fun K hK => ?_)
            simp only [List.getElem_toArray, List.getElem_cons_zero, List.getElem_cons_succ]
            rw [if_pos (by rfl)]
            go_simp
            go_wp2_with (go_at_call 13; refine (len_n W G P HSW PN PNB.out.2.1).mono ?_; rintro e w9 ⟨rfl, h9⟩; rw [h9]; clear h9)
            refine hK.out _ _ (C1) (fun hS => ?_)
            clear hK K
            try simp only [List.getElem_toArray, List.getElem_cons_zero, List.getElem_cons_succ, Act.put, List.setIfInBounds_toArray, List.set_cons_zero, List.set_cons_succ]
            clear hSb
            refine till_take (i := 8) (v := .bool false) rfl (by kernel_rfl) (by kernel_rfl) (by kernel_rfl) (fun _ _ _ h => h) (fun L w => Iff.rfl) (Or.inl ⟨by rfl, fun w => by go_simp⟩) hS (fun hSb => ?_)
            simp only [List.getElem_toArray, List.getElem_cons_zero, List.getElem_cons_succ, Act.put, List.setIfInBounds_toArray, List.set_cons_zero, List.set_cons_succ]
            clear hS
            refine till_done (by kernel_rfl) ?_ _
            clear hSb
            clear C1
            have FIN : Hid (∃ (D : Nat → Hw) (lab : Nat → Nat), SP w W b4 E0 D lab ∧ InvP Gf (tot ((Q.map (·.x)).take (i + 1))) D) := FINI.out _ ⟨D, lab1, NW.out.st.less (fun z hz => List.mem_cons_of_mem _ hz), I5.out.more (by have := BDL.out; omega)⟩
            clear NW
            go_wp2
            go_roundw
            case rel => have hl := HL.out; obtain ⟨D2, l2, h8⟩ := FIN.out; exact ⟨i + 1, wk, D2, l2, by omega, by go_num, rfl, hwk, h8⟩
            case measure => have hl := HL.out; simp [intOf]; omega
          · have i3 : ¬ (kd = 3) := h3
            have FIN : Hid (∃ (D : Nat → Hw) (lab : Nat → Nat), SP w w5 b4 E0 D lab ∧ InvP Gf (tot ((Q.map (·.x)).take (i + 1))) D) := FINI.out _ ⟨D, lab1, S5.out.less (fun z hz => List.mem_cons_of_mem _ hz), I5.out.more (by have := BDL.out; omega)⟩
            clear h3
            go_wp2
            go_roundw
            case rel => have hl := HL.out; obtain ⟨D2, l2, h8⟩ := FIN.out; exact ⟨i + 1, wk, D2, l2, by omega, by go_num, rfl, hwk, h8⟩
            case measure => have hl := HL.out; simp [intOf]; omega
    · go_wp2
      go_ret
      exact ⟨rfl, HR.out.1.bel⟩
end Go.Proofs.YtnckcaaejfckaaaDoor
