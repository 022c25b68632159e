/- The law WireReads walked: it returns true, and changes nothing that was there. -/
import Derived.Test.YtnhnpkedkdefnaaDoorRb
namespace Go.Proofs.YtnhnpkedkdefnaaDoor
open Go.ChangeShapes Go.WideShapes Go.ChangeAt Go.RowKit
set_option linter.unusedVariables false
set_option linter.unusedSimpArgs false
theorem app_opsL {w : World} {B g k cap : Nat} {ps qs : List Oq} {a : Option Addr} {n c : Nat} (own : Oow w B g k cap ps) (hn : n = qs.length) (hX : n = 0 ∨ ∃ b o, a = some ⟨b, o, none⟩ ∧ ∀ j u, (qcells qs)[j]? = some u → w.cell? ⟨b, o + j, none⟩ = some u) (hz : a = none → c = 0) (hb : (k + n) * 48 ≤ 140737488355328) (hB : B ≤ w.heap.size) :
    ∃ g' cap' w', (Builtin.append_ #[22, 22] 22 #[.slice (some ⟨g, 0, none⟩) k cap, .slice a n c]).run Tryd.prog w = .ok (.slice (some ⟨g', 0, none⟩) (k + n) cap') w' ∧ Oow w' B g' (k + n) cap' (ps ++ qs) ∧ w.grownBy w' (some g) := by
  obtain ⟨x, hx, hz0, hz1, hz2⟩ := info_parts info31
  cases a with
  | none =>
    have c0 := hz rfl
    have n0 : n = 0 := by
      rcases hX with h | ⟨b, o, h, _⟩
      · exact h
      · simp at h
    subst n0 c0
    obtain rfl : qs = [] := List.length_eq_zero_iff.1 hn.symm
    exact ⟨g, cap, w, run_append_owned_none (P := Tryd.prog) w B 22 22 31 x 4 Tryd.underlying22 hx _ k _ own, by simpa using own, grown_refl _ _⟩
  | some ad =>
    have hcell : ∀ j u, (qcells qs)[j]? = some u → w.cell? (ad.add j) = some u := by
      intro j u hu
      rcases hX with h | ⟨b, o, h, hc⟩
      · obtain rfl : qs = [] := List.length_eq_zero_iff.1 (by omega)
        simp [qcells] at hu
      · simp only [Option.some.injEq] at h
        subst h
        rw [Addr.add_mid]
        exact hc j u hu
    obtain ⟨v', w', hrun, hown, hgr, hnil⟩ := run_append_own (P := Tryd.prog) w B 22 22 31 x _ 4 48 Tryd.underlying22 hx hz0 hz1 hz2 rfl (by decide) _ k (qcells ps) own ad n c (qcells qs) (by rw [qcells_len, hn]) hcell (qcells_one qs) (by unfold maxLen; omega) hb hB
    rcases hown.2 with ⟨h0, _⟩ | ⟨g', cap', cur, rfl, _⟩
    · have := (hnil.1 h0).1
      simp at this
    · exact ⟨g', cap', w', hrun, by unfold Oow; rw [qcells_app]; exact hown, hgr⟩
def two2 : List Oq := [ask0, ask1]
theorem two_ok (w : World) : ∀ q ∈ two2, q.ok w := by
  intro q hq
  simp only [two2, List.mem_cons, List.not_mem_nil, or_false] at hq
  rcases hq with rfl | rfl
  · exact quiet_ok w 4 0 0 (by decide) (by decide) (by decide)
  · exact quiet_ok w 4 1 0 (by decide) (by decide) (by decide)
abbrev twoO : Obj := .cells #[.int .i64 4, .int .i64 0, .int .i64 0, .slice none 0 0, .int .i64 4, .int .i64 1, .int .i64 0, .slice none 0 0] 31
theorem two_cells (w : World) : ∀ j u, (qcells two2)[j]? = some u → (w.alloc twoO).cell? ⟨w.heap.size, 0 + j, none⟩ = some u := by
  intro j u hu
  rw [Nat.zero_add]
  have hb : (w.alloc twoO).heap[w.heap.size]? = some twoO := heap_alloc_new w _
  unfold World.cell?
  rw [hb]
  simpa [qcells, two2, Oq.cells, ask0, ask1] using hu
theorem su_begin {w w0 w1 : World} {B : Nat → Bs} (h0 : w.alloc (twoS B) = w0) (B1 : Below w0.heap.size w0 w1) : SU w ((w1.alloc (twoP 44 (fun _ => none))).alloc (twoP 46 (fun _ => none))) w.heap.size w1.heap.size (w1.heap.size + 1) B 0 (fun _ => ⟨0, none, 0, 0, 0, 0⟩) (fun p => if p = w1.heap.size then 1 else if p = w1.heap.size + 1 then 2 else 0) (fun _ => none) (fun _ => none) := by
  have z0 : w0.heap.size = w.heap.size + 1 := by rw [← h0]; simp
  have z1 := B1.size
  have b0 : Below w.heap.size w w0 := by rw [← h0]; exact (Below.refl _ _).alloc (Nat.le_refl _) _
  have b1 : Below w.heap.size w w1 := b0.trans (B1.mono (by omega))
  have hb : w1.heap[w.heap.size]? = some (twoS B) := (B1.block _ (by omega)).trans (by rw [← h0]; exact heap_alloc_new w _)
  refine ⟨⟨(b1.alloc b1.size _).alloc (by simp; omega) _, fun j hj => by omega, fun j hj => by omega, fun q o ho => ?_, fun j hj => by omega, fun j hj => by omega, fun j hj => by omega, fun j hj => by omega⟩, blk_keep (blk_new _ rfl) _, blk_new _ (by simp), if_pos rfl, ?_, by omega, by omega, fun j hj => by omega, fun j hj => by omega, fun j hj => by omega⟩
  · simp only [List.mem_cons, List.not_mem_nil, or_false, Prod.mk.injEq] at ho
    obtain ⟨rfl, rfl⟩ := ho
    exact ⟨blk_keep (blk_keep hb _) _, by rw [if_neg (by omega), if_neg (by omega)]⟩
  · show (if w1.heap.size + 1 = w1.heap.size then 1 else if w1.heap.size + 1 = w1.heap.size + 1 then 2 else 0) = 2
    rw [if_neg (by omega), if_pos rfl]
theorem SU.fin {w wr : World} {bb br bm : Nat} {B : Nat → Bs} {D : Nat → Rd} {lab : Nat → Nat} {PR PM : Nat → Option Addr} (h : SU w wr bb br bm B 2 D lab PR PM) : Sr w wr [(bm, twoP 46 PM), (br, twoP 44 PR), (bb, twoS B)] B 2 D (fun p => if p = br ∨ p = bm then 0 else lab p) := by
  have l1 := h.lr
  have l2 := h.lm
  have l0 := h.bb.2
  have no : ∀ p, lab p ≠ 1 → lab p ≠ 2 → (if p = br ∨ p = bm then 0 else lab p) = lab p := fun p h1 h2 => if_neg (fun e => by rcases e with e | e; rw [e] at h1; exact h1 l1; rw [e] at h2; exact h2 l2)
  refine ⟨h.sr.bel, h.sr.rd, h.sr.rf, fun q o ho => ?_, h.sr.ge, fun j hj => ?_, fun j hj p hp => ?_, fun j hj => ?_⟩
  · simp only [List.mem_cons, List.not_mem_nil, or_false, Prod.mk.injEq] at ho
    rcases ho with ⟨rfl, rfl⟩ | ⟨rfl, rfl⟩ | ⟨rfl, rfl⟩
    · exact ⟨h.hm, if_pos (.inr rfl)⟩
    · exact ⟨h.hr, if_pos (.inl rfl)⟩
    · exact ⟨h.bb.1, by show (if q = br ∨ q = bm then 0 else lab q) = 0; split; rfl; exact l0⟩
  · have h1 := h.sr.lg j hj
    rw [no _ (by omega) (by omega)]; exact h1
  · have h1 := h.sr.la j hj p hp
    rw [no _ (by omega) (by omega)]; exact h1
  · have h1 := h.sr.lm j hj
    rw [no _ (by omega) (by omega)]; exact h1
def rS2 (b k q : Nat) (vp : Value) (z : Int) (_ : Array Bool) (W : World) : Prop := W.cell? ⟨b, k, none⟩ = some vp ∧ W.cell? ⟨q, 2, none⟩ = some (.int .i64 z)
theorem NowR.cr {w wr : World} {E : List (Nat × Obj)} {B : Nat → Bs} {D : Nat → Rd} {lab : Nat → Nat} {k t b g : Nat} {bs : Bs} {d : Rd} {P : Nat → Option Addr} (h : NowR w wr E B D lab k bs d) (hk : k < 2) (hm : (b, twoP t P) ∈ E) (hp : P k = some ⟨g, 0, none⟩) : wr.cell? ⟨b, k, none⟩ = some (.pointer (some ⟨g, 0, none⟩)) := by rw [← hp]; exact twoP_cell (h.st.fx b _ hm).1 hk
theorem end_roundR {w wr : World} {Gs Ms : Nat → Nat} {k : Nat} {E : List (Nat × Obj)} {y : Nat × Obj} {B : Nat → Bs} {D D' : Nat → Rd} {lab : Nat → Nat} {d : Rd} (h : Sr w wr (y :: E) B 2 D' lab) (he : D' = updR D k d) (hi : InvR Gs Ms D) (h1 : d.g = Gs k) (h2 : d.gm = Ms k) (h3 : d.pm = d.p) : ∃ (D : Nat → Rd) (lab : Nat → Nat), Sr w wr E B 2 D lab ∧ InvR Gs Ms D := by
  subst he
  exact ⟨_, _, h.less (fun z hz => List.mem_cons_of_mem _ hz), hi.upd h1 h2 h3⟩
/- blocks from n on have the label 11 -/
theorem Sr.onew {w wr wr' : World} {n : Nat} {E : List (Nat × Obj)} {B : Nat → Bs} {D : Nat → Rd} {lab : Nat → Nat} (h : Sr w wr E B 2 D lab) (hn : w.heap.size ≤ n) (hl : ∀ q, n ≤ q → lab q = 11) (ch : Ch wr wr' (fun q => n ≤ q)) : Sr w wr' E B 2 D lab :=
  h.other ch (fun q _ hq => Nat.le_trans hn hq) (fun q _ hq => by rw [hl q hq]; exact ⟨by omega, fun j hj => ⟨by omega, by omega, by omega⟩⟩)
theorem rdB_len (l : List Nat) (p : Nat) (z : Int) : (rdB l p z).1.length ≤ l.length := by
  unfold rdB
  split
  · simp; omega
  · simp
def rS3 (bm k GM : Nat) (vs : Value) (p : Nat) (_ : Array Bool) (W : World) : Prop := W.cell? ⟨bm, k, none⟩ = some (.pointer (some ⟨GM, 0, none⟩)) ∧ W.cell? ⟨GM, 0, none⟩ = some vs ∧ W.cell? ⟨GM, 1, none⟩ = some (.int .i64 (p : Int))
abbrev onetwoO : Obj := .cells #[.int .u8 1, .int .u8 2] 5
set_option maxRecDepth 20000 in
set_option maxHeartbeats 4000000 in
theorem reads_n {w : World} {B : Nat → Bs} {a : Option Addr} {n c : Nat} {L : List Opt} {E : Nat → Addr} (hB : Hid (∀ j, j < 2 → (B j).ok w)) (hO : Hid (Ops w a n L)) (hz : Hid (a = none → c = 0)) (hnc : n ≤ c) (hn : n * 48 ≤ 140737488351232) (hE : Hid (Sent w 18 E)) :
    Calls Tryd.prog 4 #[.agg #[.slice (B 0).a (B 0).n (B 0).c, .slice (B 1).a (B 1).n (B 1).c], .slice a n c] w fun e w' => e = .returned (.bool true) ∧ Hid (Below w.heap.size w w') := by
  obtain ⟨qs, hqL, hqok, hqX⟩ := ops_of hO.out
  have hnq : Hid (n = qs.length) := by have h1 := hO.out.len; rw [← hqL] at h1; simpa [Hid] using h1
  obtain ⟨w0, H0⟩ : ∃ w0, Hid (w.alloc (twoS B) = w0) := ⟨_, rfl⟩
  obtain ⟨bb, Hbb⟩ : ∃ bb, Hid (w.heap.size = bb) := ⟨_, rfl⟩
  go_enter Tryd.func4, Tryd.ntmps4
  go_upto_region 1 with (fail)
  have H0' := H0.out
  unfold twoS at H0'
  rw [H0', Hbb.out]
  clear H0'
  go_upto_region 3 with (first
    | (go_at_call 9; refine (alive_n _).mono ?_; rintro e w1 ⟨rfl, B1⟩))
  have SU0 := su_begin H0.out B1.out
  go_upto_region 5 with (fail)
  obtain ⟨W5, HW5⟩ : ∃ W5, Hid ((w1.alloc (twoP 44 (fun _ => none))).alloc (twoP 46 (fun _ => none)) = W5) := ⟨_, rfl⟩
  have HW5' := HW5.out
  unfold twoP at HW5'
  rw [HW5.out] at SU0
  rw [HW5']
  clear HW5' HW5
  obtain ⟨br, Hbr⟩ : ∃ br, Hid (w1.heap.size = br) := ⟨_, rfl⟩
  rw [Hbr.out, Hbb.out] at SU0
  rw [Hbr.out]
  obtain ⟨bm, Hbm⟩ : ∃ bm, Hid (br + 1 = bm) := ⟨_, rfl⟩
  rw [Hbm.out] at SU0 ⊢
  have U0 : Hid (∃ (D : Nat → Rd) (lab : Nat → Nat) (PR PM : Nat → Option Addr), SU w W5 bb br bm B 0 D lab PR PM) := ⟨_, _, _, _, SU0⟩
  clear SU0 Hbr Hbm B1 H0
  go_wp2
  go_loopw [30] (fun tk wr => ∃ k : Nat, k ≤ 2 ∧ tk = .int .i64 k ∧ Hid (∃ (D : Nat → Rd) (lab : Nat → Nat) (PR PM : Nat → Option Addr), SU w wr bb br bm B k D lab PR PM)) (fun tk _ => 2 - (intOf tk).toNat)
  case atStart => exact ⟨0, by omega, rfl, U0.out⟩
  case round =>
    clear U0
    obtain ⟨k, hk2, rfl, HU⟩ := hrel
    obtain ⟨D, lab, PR, PM, U⟩ := HU.out
    have UH : Hid (SU w wr bb br bm B k D lab PR PM) := U
    clear U HU
    by_cases hk : k < 2
    · have hki : (k : Int) < 2 := by omega
      have cb := twoS_cell UH.out.bb.1 hk
      have OKB := hB.out k hk
      obtain ⟨⟨xa, xn, xc, xl⟩, Hx⟩ : ∃ b, Hid (B k = b) := ⟨_, rfl⟩
      rw [Hx.out] at cb OKB
      simp only at cb
      have S0 : Hid (Sln w xa xn xl) := OKB.sl
      have S1 : Hid (Sln wr xa xn xl) := S0.out.below UH.out.sr.bel
      have Z0 : Hid (xa = none → xc = 0) := OKB.z
      have hxn : xn ≤ 140737488351232 := OKB.sz
      clear OKB
      go_upto_region 9 with (first
        | (go_at_call 15; refine (bytes_n S1 Z0).mono ?_; rintro e wb ⟨gb, Nb, rfl, Hb⟩))
      have BKb : Hid (Blk wb gb (xl ++ marks)) := Hb.out.2.2.1
      have SGb : Hid (Sln wb (some ⟨gb, 0, none⟩) xn xl) := blk_begin BKb.out S0.out.len S0.out.lt S0.out.sli.2.1
      have HNb : Hid (Nb = xn + 6) := Hb.out.1
      have Egb : Hid (gb = wr.heap.size) := Hb.out.2.1
      have BB : Hid (Below wr.heap.size wr wb) := Hb.out.2.2.2
      clear Hb cb S1
      have hgb : wr.heap.size < wb.heap.size := by rw [← Egb.out]; exact BKb.out.lt
      go_upto_region 10 with (first
        | (go_at_call 19; refine (newReader_n SGb (show Hid (_ → _) from by simp [Hid])).mono ?_; rintro e w2 ⟨g, a', c', rfl, H2⟩
           obtain ⟨⟨f1, v1, c1⟩, c2, ⟨f3, v3, c3⟩, sz3, U', lgb, kp⟩ := UH.out.step hk BB.out hgb (by rw [Hx.out]; exact H2.out.1) H2.out.2.1 H2.out.2.2
           rw [Hx.out] at c2 f3 c3 U' kp
           simp only at c2 f3 c3 U' kp
           obtain ⟨w3, H3⟩ : ∃ w3, w2.setCell ⟨br, k, none⟩ (.pointer (some ⟨g, 0, none⟩)) = w3 := ⟨_, rfl⟩
           rw [H3] at c2 f3 c3 sz3 U' kp
           rw [← sz3] at U' kp lgb
           obtain ⟨w4, H4⟩ : ∃ w4, w3.alloc (.cells #[.slice xa xn xc, .int .i64 0] 49) = w4 := ⟨_, rfl⟩
           rw [H4] at f3 c3 U' kp
           obtain ⟨w5, H5⟩ : ∃ w5, w4.setCell ⟨bm, k, none⟩ (.pointer (some ⟨w3.heap.size, 0, none⟩)) = w5 := ⟨_, rfl⟩
           rw [H5] at U' kp
           have SZ3 : Hid (w3.heap.size = w2.heap.size) := sz3
           have U5 : Hid (∃ (D : Nat → Rd) (lab : Nat → Nat) (PR PM : Nat → Option Addr), SU w w5 bb br bm B (k + 1) D lab PR PM ∧ lab gb = 11 ∧ PR k = some ⟨g, 0, none⟩) := ⟨_, _, _, _, U', by rw [Egb.out]; exact lgb, if_pos rfl⟩
           have KP : Hid (∀ q, q < wb.heap.size → q ≠ br → q ≠ bm → w5.heap[q]? = wb.heap[q]?) := kp
           clear U' kp lgb sz3 H2))
      clear c1 f1
      go_upto_region 11 with (fail)
      clear c2 c3 f3 H3 H4 H5 SZ3
      obtain ⟨D5, lab5, PR5, PM5, U5', lg5, pr5⟩ := U5.out
      have V5 : Hid (SU w w5 bb br bm B (k + 1) D5 lab5 PR5 PM5 ∧ lab5 gb = 11) := ⟨U5', lg5⟩
      have c5r : w5.cell? ⟨br, k, none⟩ = some (.pointer (some ⟨g, 0, none⟩)) := by rw [← pr5]; exact twoP_cell U5'.hr hk
      have c5b : w5.cell? ⟨bb, k, none⟩ = some (.slice xa xn xc) := by have h1 := twoS_cell U5'.bb.1 hk; rw [Hx.out] at h1; exact h1
      have BK5 : Hid (Blk w5 gb (xl ++ marks)) := by
        have h1 := (Array.getElem?_eq_some_iff.1 UH.out.hr).1
        have h2 := (Array.getElem?_eq_some_iff.1 UH.out.hm).1
        have h3 := Egb.out
        exact (KP.out gb BKb.out.lt (by omega) (by omega)).trans BKb.out
      have S5x : Hid (Sln w5 xa xn xl) := S0.out.below U5'.sr.bel
      have ggb : Hid (w.heap.size ≤ gb) := by rw [Egb.out]; exact UH.out.sr.bel.size
      clear U5 U5' lg5 pr5 KP UH BKb SGb BB hgb Egb
      go_upto_region 13 with (first
        | (go_at_call 17; refine (kept_n BK5 HNb S5x).mono ?_; rintro e w6 ⟨rfl, H6⟩))
      have BK6 : Hid (Blk w6 gb (xl ++ marks)) := by obtain ⟨j, hj⟩ := H6.out; rw [hj]; exact BK5.out.drewN j
      have V6 : Hid (SU w w6 bb br bm B (k + 1) D5 lab5 PR5 PM5 ∧ lab5 gb = 11) := by obtain ⟨j, hj⟩ := H6.out; rw [hj]; exact ⟨V5.out.1.below (below_drewN (Below.refl _ _) j), V5.out.2⟩
      have LN : Hid (xn = xl.length) := S0.out.len
      have LT : Hid (∀ y ∈ xl, y < 256) := S0.out.lt
      clear H6 V5 c5r c5b BK5 S5x
      go_wp2
      go_loopw [62] (fun tj wx => ∃ j : Nat, j ≤ xn ∧ tj = .int .i64 j ∧ Hid (∃ Lb, Blk wx gb Lb ∧ Lb.length = xn + 6 ∧ (∀ y ∈ Lb, y < 256) ∧ Oth gb w6 wx)) (fun tj _ => xn - (intOf tj).toNat)
      case atStart => exact ⟨0, by omega, rfl, _, BK6.out, by rw [List.length_append, ← LN.out]; rfl, by intro y hy; rcases List.mem_append.1 hy with h | h; exact LT.out y h; exact (by decide : ∀ y ∈ marks, y < 256) y h, Oth.refl _ _⟩
      case round =>
        obtain ⟨j, hj, rfl, HJ⟩ := hrel
        obtain ⟨Lb, hB', hl, hb, ho⟩ := HJ.out
        by_cases hlt2 : j < xn
        · obtain ⟨y, Hy⟩ : ∃ y, Hid (Lb.getD j 0 = y) := ⟨_, rfl⟩
          have hy : y < 256 := by rw [← Hy.out]; exact getD_lt hb j
          have c1 : wr.cell? ⟨gb, j, none⟩ = some (.int .u8 (y : Nat)) := by rw [← Hy.out]; exact hB'.cell (by omega)
          have c2' : wr.frozen? ⟨gb, j, none⟩ = false := hB'.frozen j
          have Nx : Hid (∃ L', Blk (wr.setCell ⟨gb, j, none⟩ (.int .u8 ((y ^^^ 55 : Nat) : Int))) gb L' ∧ L'.length = xn + 6 ∧ (∀ y ∈ L', y < 256) ∧ Oth gb w6 (wr.setCell ⟨gb, j, none⟩ (.int .u8 ((y ^^^ 55 : Nat) : Int)))) := ⟨Lb.set j (y ^^^ 55), hB'.set j _, by simp [hl], set_lt hb j _ (xor_lt8 hy (by omega)), ho.setCell j _⟩
          have i2 : (j : Int) < (xn : Int) := by omega
          have x55 : bits BinOp.xor IntKind.u8 (y : Int) 55 = ((y ^^^ 55 : Nat) : Int) := xor_u8 y 55 hy (by omega)
          clear hB' hl hb ho HJ
          go_wp2
          go_roundw
          case rel => exact ⟨j + 1, by omega, by go_num, Nx.out⟩
          case measure => simp [intOf]; omega
        · have F2 : Hid (∃ (D : Nat → Rd) (lab : Nat → Nat) (PR PM : Nat → Option Addr), SU w wr bb br bm B (k + 1) D lab PR PM) := ⟨_, _, _, _, V6.out.1.one (by omega) V6.out.2 ggb.out (Ch.oth ho)⟩
          clear V6 HJ hB' hl hb ho
          go_wp2
          go_roundw
          case rel => exact ⟨k + 1, by omega, by go_num, F2.out⟩
          case measure => simp [intOf]; omega
    · obtain rfl : k = 2 := by omega
      obtain ⟨Gs, HGs⟩ : ∃ Gs : Nat → Nat, Hid ((fun j => (D j).g) = Gs) := ⟨_, rfl⟩
      obtain ⟨Ms, HMs⟩ : ∃ Ms : Nat → Nat, Hid ((fun j => (D j).gm) = Ms) := ⟨_, rfl⟩
      have IV : Hid (InvR Gs Ms D) := by rw [← HGs.out, ← HMs.out]; exact ⟨fun _ _ => rfl, fun _ _ => rfl, fun j hj => by rw [(UH.out.p0 j hj).1, (UH.out.p0 j hj).2]⟩
      have PRG : Hid (∀ j, j < 2 → PR j = some ⟨Gs j, 0, none⟩ ∧ PM j = some ⟨Ms j, 0, none⟩) := by rw [← HGs.out, ← HMs.out]; exact fun j hj => ⟨UH.out.pr j hj, UH.out.pm j hj⟩
      have SF := UH.out.fin
      obtain ⟨W5, HW5⟩ : ∃ W5, Hid (wr = W5) := ⟨_, rfl⟩
      have S5 : Hid (∃ lab, Sr w wr [(bm, twoP 46 PM), (br, twoP 44 PR), (bb, twoS B)] B 2 D lab) := ⟨_, SF⟩
      obtain ⟨lab5, S5'⟩ := S5.out
      have S5h : Hid (Sr w wr [(bm, twoP 46 PM), (br, twoP 44 PR), (bb, twoS B)] B 2 D lab5) := S5'
      clear S5 S5' SF UH HW5 HGs HMs
      go_upto_region 19 with (fail)
      have b6 : Below wr.heap.size wr (wr.alloc (.cells #[] 31)) := (Below.refl _ _).alloc (Nat.le_refl _) _
      have bw6 : Below w.heap.size w (wr.alloc (.cells #[] 31)) := S5h.out.bel.trans (b6.mono S5h.out.bel.size)
      obtain ⟨g7, cap7, W7, r7, own7, gr7⟩ := app_opsL (a := a) (c := c) (oow_new wr) hnq.out (hqX.imp id (fun ⟨b, o, h1, h2⟩ => ⟨b, o, h1, fun j u hu => (bw6.cell (p := ⟨b, o + j, none⟩) (cell_lt (h2 j u hu))).trans (h2 j u hu)⟩)) hz.out (by omega) (by simp)
      rw [Nat.zero_add] at r7 own7
      rw [List.nil_append] at own7
      have b7 : Below wr.heap.size wr W7 := b6.grown gr7 b6.size (fun j e => by simp at e; omega)
      have b8 : Below wr.heap.size wr (W7.alloc twoO) := b7.alloc b7.size _
      obtain ⟨g8, cap8, W8, r8, own8, gr8⟩ := app_opsL (a := some ⟨W7.heap.size, 0, none⟩) (c := 2) (n := 2) (qs := two2) (World.ownsRow.alloc own7 twoO) rfl (.inr ⟨_, 0, rfl, two_cells W7⟩) (by simp) (by omega) b8.size
      have ge7 := own7.cells.1
      have b9 : Below wr.heap.size wr W8 := b8.grown gr8 b8.size (fun j e => by simp at e; omega)
      have AP1 : Hid ((Builtin.append_ #[22, 22] 22 #[.slice (some ⟨wr.heap.size, 0, none⟩) 0 0, .slice a n c]).run Tryd.prog (wr.alloc (.cells #[] 31)) = .ok (.slice (some ⟨g7, 0, none⟩) n cap7) W7) := r7
      have AP2 : Hid ((Builtin.append_ #[22, 22] 22 #[.slice (some ⟨g7, 0, none⟩) n cap7, .slice (some ⟨W7.heap.size, 0, none⟩) 2 2]).run Tryd.prog (W7.alloc twoO) = .ok (.slice (some ⟨g8, 0, none⟩) (n + 2) cap8) W8) := r8
      obtain ⟨Q, HQ⟩ : ∃ Q, Hid (qs ++ two2 = Q) := ⟨_, rfl⟩
      obtain ⟨m, Hm⟩ : ∃ m, Hid (n + 2 = m) := ⟨_, rfl⟩
      have QL : Hid (Q.length = m) := by rw [← HQ.out, ← Hm.out, hnq.out]; simp [Hid, two2]
      have QK : Hid (∀ q ∈ Q, q.ok w) := by
        rw [← HQ.out]
        intro q hq
        rcases List.mem_append.1 hq with h | h
        · exact hqok q h
        · exact two_ok w q h
      have QC : Hid (∀ j u, (qcells Q)[j]? = some u → W8.cell? ⟨g8, 0 + j, none⟩ = some u) := by rw [← HQ.out]; exact own8.cells.2.2
      have hm : m ≤ 3000000000000 := by rw [← Hm.out]; omega
      obtain ⟨O8, HO8⟩ : ∃ O8, W8.heap[g8]? = some O8 := ⟨_, Array.getElem?_eq_getElem own8.cells.2.1⟩
      have QC2 : Hid (W8.heap[g8]? = some O8) := HO8
      obtain ⟨E0, HE0⟩ : ∃ E0, Hid (((g8, O8) :: [(bm, twoP 46 PM), (br, twoP 44 PR), (bb, twoS B)] : List (Nat × Obj)) = E0) := ⟨_, rfl⟩
      have S8 : Hid (∃ lab, Sr w W8 E0 B 2 D lab) := ⟨_, by rw [← HE0.out]; exact S5h.out.fix b9 own8.cells.1 HO8⟩
      have M0 : Hid ((bm, twoP 46 PM) ∈ E0 ∧ (br, twoP 44 PR) ∈ E0 ∧ (g8, O8) ∈ E0) := by rw [← HE0.out]; exact ⟨by simp, by simp, by simp⟩
      rw [Hm.out] at AP2
      clear r7 own7 gr7 b7 b8 r8 own8 gr8 ge7 b9 HO8 S5h b6 bw6 hqX hqok hqL HQ HE0
      go_wp2_with (first
        | (at_builtin; refine wpList_app22 (by rfl) (.tmp 73) (.tmp 74) (by rfl) (by rfl) (by rfl) (by rfl) AP1 ?_)
        | (at_builtin; refine wpList_app22 (by rfl) (.tmp 75) (.tmp 78) (by rfl) (by rfl) (by rfl) (by rfl) AP2 ?_))
      have J8 : Hid (∃ (D : Nat → Rd) (lab : Nat → Nat), Sr w W8 E0 B 2 D lab ∧ InvR Gs Ms D) := by obtain ⟨lb, h⟩ := S8.out; exact ⟨D, lb, h, IV.out⟩
      clear S8 IV
      go_loopw [81] (fun ti wr => ∃ (i : Nat) (D : Nat → Rd) (lab : Nat → Nat), i ≤ m ∧ ti = .int .i64 i ∧ Hid (Sr w wr E0 B 2 D lab ∧ InvR Gs Ms D)) (fun ti _ => m - (intOf ti).toNat)
      case atStart => obtain ⟨D2, l2, h8⟩ := J8.out; exact ⟨0, D2, l2, by omega, rfl, h8⟩
      case round =>
        clear J8
        obtain ⟨i, D, lab, him, rfl, HR⟩ := hrel
        by_cases hlt : i < m
        · have hiQ : i < Q.length := by rw [QL.out]; exact hlt
          have he : wr.heap[g8]? = W8.heap[g8]? := by rw [(HR.out.1.fx g8 O8 M0.out.2.2).1, QC2.out]
          obtain ⟨d0, d1, d2, d3⟩ := row_op QC.out he hiQ
          have K := QK.out _ (getD_mem hiQ)
          obtain ⟨⟨x, ab, nb, cb⟩, Hoq⟩ : ∃ oq, Hid (Q.getD i default = oq) := ⟨_, rfl⟩
          rw [Hoq.out] at d0 d1 d2 d3 K
          have OK : Hid (Oq.ok ⟨x, ab, nb, cb⟩ w) := K
          simp only at d0 d1 d2 d3
          obtain ⟨dd, HL⟩ : ∃ dd, Hid (m = i + 1 + dd) := ⟨m - i - 1, by show _ = _; omega⟩
          clear K he hiQ Hoq
          go_upto_region 22 with (fail)
          obtain ⟨w5, W5'⟩ : ∃ w5, Hid (wr.alloc (oO x ab nb cb) = w5) := ⟨_, rfl⟩
          obtain ⟨q, Hq⟩ : ∃ q, Hid (wr.heap.size = q) := ⟨_, rfl⟩
          have bA : Below wr.heap.size wr w5 := by rw [← W5'.out]; exact (Below.refl _ _).alloc (Nat.le_refl _) _
          have S5 := HR.out.1.fix bA (q := q) (o := oO x ab nb cb) (by rw [Hq.out]; exact Nat.le_refl _) (by rw [← W5'.out, ← Hq.out]; exact heap_alloc_new _ _)
          obtain ⟨lab2, HL2⟩ : ∃ l, Hid (rel w5.heap.size 11 (rel wr.heap.size 0 lab) = l) := ⟨_, rfl⟩
          have S5m : Hid (Sr w w5 ((q, oO x ab nb cb) :: E0) B 2 D lab2) := by rw [← HL2.out]; exact S5.mark 11 (Below.refl _ _)
          have LB2 : Hid (∀ j, w5.heap.size ≤ j → lab2 j = 11) := by rw [← HL2.out]; exact fun j hj => rel_new hj
          have I5 : Hid (InvR Gs Ms D) := HR.out.2
          have HW5 := W5'.out
          unfold oO at HW5
          rw [HW5, Hq.out]
          clear HW5 W5' Hq HL2 d0 d1 d2 d3 HR bA S5
          obtain ⟨k, hk, em⟩ := and_one x.which
          have hki : (k : Int) < 2 := by omega
          have L5 : Hid (Loc w5 q x ab nb cb) := S5m.out.loc (List.mem_cons_self ..)
          have e1 := L5.out.c1
          have e0 := L5.out.c0
          obtain ⟨⟨G, A, C, p, GM, pm⟩, Hd⟩ : ∃ d, Hid (D k = d) := ⟨_, rfl⟩
          obtain ⟨⟨xa, xn, xc, xl⟩, Hx⟩ : ∃ b, Hid (B k = b) := ⟨_, rfl⟩
          have OKB := hB.out k hk
          rw [Hx.out] at OKB
          have ip := I5.out.p k hk
          have ig := I5.out.g k hk
          have im := I5.out.m k hk
          rw [Hd.out] at ip ig im
          simp only at ip ig im
          have ip2 := ip.symm
          clear ip
          subst ip2
          have HG : Hid (G = Gs k ∧ GM = Ms k) := ⟨ig, im⟩
          have N5 : Hid (NowR w w5 ((q, oO x ab nb cb) :: E0) B D lab2 k ⟨xa, xn, xc, xl⟩ ⟨G, A, C, p, GM, p⟩) := ⟨S5m.out, Hd.out, Hx.out, OKB⟩
          have PRk : Hid (PR k = some ⟨G, 0, none⟩ ∧ PM k = some ⟨GM, 0, none⟩) := by rw [HG.out.1, HG.out.2]; exact PRG.out k hk
          have hxn : xn ≤ 140737488351232 := OKB.sz
          have Z5 : Hid (w.heap.size ≤ w5.heap.size) := S5m.out.bel.size
          clear ig im Hd Hx OKB
          go_upto_region 24 with (fail)
          clear e1 em
          obtain ⟨kd, Hk⟩ : ∃ kd, Hid (x.kind = kd) := ⟨_, rfl⟩
          rw [Hk.out] at e0 ⊢
          clear e0
          have NWz := OK.out.w2
          obtain ⟨z, Hz⟩ : ∃ z, Hid (x.num = z) := ⟨_, rfl⟩
          simp only at NWz
          rw [Hz.out] at NWz
          have hz2 : z ≤ 9223372036854775807 := by have := bounds_i64 NWz; omega
          clear NWz
          by_cases h1 : kd = 1
          · subst h1
            go_upto_region 25 with (fail)
            obtain ⟨W, HW⟩ : ∃ W, Hid (w5.drew = W) := ⟨_, rfl⟩
            have NW : Hid (NowR w W ((q, oO x ab nb cb) :: E0) B D lab2 k ⟨xa, xn, xc, xl⟩ ⟨G, A, C, p, GM, p⟩) := by rw [← HW.out]; exact N5.out.below (below_drewN (Below.refl _ _) 1)
            have C1 : rS2 br k q (.pointer (some ⟨G, 0, none⟩)) z #[] W := ⟨NW.out.cr hk (List.mem_cons_of_mem _ M0.out.2.1) PRk.out.1, by rw [← Hz.out]; exact (NW.out.st.loc (List.mem_cons_self ..)).c2⟩
            refine wp_region_till (S := rS2 br k q (.pointer (some ⟨G, 0, none⟩)) z) (by kernel_rfl) ?_ (fun hS => ?_)
            · rw [HW.out]; exact C1
            rw [HW.out] at hS ⊢
            clear HW
            refine till_take (i := 0) (v := .int .i64 (k : Int)) rfl (by kernel_rfl) (by kernel_rfl) (by kernel_rfl) (fun _ _ _ h => h) (fun L w => Iff.rfl) (Or.inl ⟨by rfl, fun w => by go_simp⟩) hS (fun hSb => ?_)
            simp only [List.getElem_toArray, List.getElem_cons_zero, List.getElem_cons_succ, Act.put, List.setIfInBounds_toArray, List.set_cons_zero, List.set_cons_succ]
            clear hS
            refine till_take (i := 1) (v := .pointer (some ⟨br, k, none⟩)) rfl (by kernel_rfl) (by kernel_rfl) (by kernel_rfl) (fun _ _ _ h => h) (fun L w => Iff.rfl) (Or.inl ⟨by rfl, fun w => by go_simp⟩) hSb (fun hS => ?_)
            simp only [List.getElem_toArray, List.getElem_cons_zero, List.getElem_cons_succ, Act.put, List.setIfInBounds_toArray, List.set_cons_zero, List.set_cons_succ]
            clear hSb
            refine till_read (i := 2) (c := 5) (v := .pointer (some ⟨G, 0, none⟩)) rfl rfl (by kernel_rfl) (by kernel_rfl) (by kernel_rfl) (by kernel_rfl) (by kernel_rfl) (fun _ _ _ h => h) (fun L w => Iff.rfl) (fun L w h1 h2 => h2) (Or.inl ⟨by rfl, fun w hSw => by (try dsimp only at hSw); go_simp⟩) hS (fun hSb => ?_)
            simp only [List.getElem_toArray, List.getElem_cons_zero, List.getElem_cons_succ, Act.put, List.setIfInBounds_toArray, List.set_cons_zero, List.set_cons_succ]
            clear hS
            refine till_take (i := 3) (v := .pointer (some ⟨q, 2, none⟩)) rfl (by kernel_rfl) (by kernel_rfl) (by kernel_rfl) (fun _ _ _ h => h) (fun L w => Iff.rfl) (Or.inl ⟨by rfl, fun w => by go_simp⟩) hSb (fun hS => ?_)
            simp only [List.getElem_toArray, List.getElem_cons_zero, List.getElem_cons_succ, Act.put, List.setIfInBounds_toArray, List.set_cons_zero, List.set_cons_succ]
            clear hSb
            refine till_read (i := 4) (c := 5) (v := .int .i64 z) rfl rfl (by kernel_rfl) (by kernel_rfl) (by kernel_rfl) (by kernel_rfl) (by kernel_rfl) (fun _ _ _ h => h) (fun L w => Iff.rfl) (fun L w h1 h2 => h2) (Or.inl ⟨by rfl, fun w hSw => by (try dsimp only at hSw); go_simp⟩) hS (fun hSb => ?_)
            simp only [List.getElem_toArray, List.getElem_cons_zero, List.getElem_cons_succ, Act.put, List.setIfInBounds_toArray, List.set_cons_zero, List.set_cons_succ]
            clear hS
            refine till_one (i := 5) (by kernel_rfl) rfl (fun K hK => ?_)
            simp only [List.getElem_toArray, List.getElem_cons_zero, List.getElem_cons_succ]
            rw [if_pos (by rfl)]
            go_simp
            go_wp2_with (go_at_call 20; refine (rnum_any (show Hid (Rdr W G w.heap.size A xn C xl p) from NW.out.rd hk) hz2 (show Hid (Sent W 18 E) from hE.out.below NW.out.st.bel) (by omega)).mono ?_; rintro e w6 ⟨n6, v6, rfl, H6⟩)
            have N6 : Hid (NowR w w6 ((q, oO x ab nb cb) :: E0) B (updR D k ⟨G, A, C, (rdN xl p z).2.2, GM, p⟩) lab2 k ⟨xa, xn, xc, xl⟩ ⟨G, A, C, (rdN xl p z).2.2, GM, p⟩) := NW.out.r hk H6.out.2.2.1 H6.out.2.2.2
            have C2 : rS2 br k q (.pointer (some ⟨G, 0, none⟩)) z #[] w6 := ⟨N6.out.cr hk (List.mem_cons_of_mem _ M0.out.2.1) PRk.out.1, by rw [← Hz.out]; exact (N6.out.st.loc (List.mem_cons_self ..)).c2⟩
            refine hK.out _ _ (C2) (fun hS => ?_)
            clear hK K
            try simp only [List.getElem_toArray, List.getElem_cons_zero, List.getElem_cons_succ, Act.put, List.setIfInBounds_toArray, List.set_cons_zero, List.set_cons_succ]
            clear hSb
            refine till_take (i := 6) (v := .tuple #[.int .i64 (n6 : Int), v6]) rfl (by kernel_rfl) (by kernel_rfl) (by kernel_rfl) (fun _ _ _ h => h) (fun L w => Iff.rfl) (Or.inl ⟨by rfl, fun w => by go_simp⟩) hS (fun hSb => ?_)
            simp only [List.getElem_toArray, List.getElem_cons_zero, List.getElem_cons_succ, Act.put, List.setIfInBounds_toArray, List.set_cons_zero, List.set_cons_succ]
            clear hS
            refine till_take (i := 7) (v := .int .i64 (n6 : Int)) rfl (by kernel_rfl) (by kernel_rfl) (by kernel_rfl) (fun _ _ _ h => h) (fun L w => Iff.rfl) (Or.inl ⟨by rfl, fun w => by go_simp⟩) hSb (fun hS => ?_)
            simp only [List.getElem_toArray, List.getElem_cons_zero, List.getElem_cons_succ, Act.put, List.setIfInBounds_toArray, List.set_cons_zero, List.set_cons_succ]
            clear hSb
            refine till_take (i := 8) (v := v6) rfl (by kernel_rfl) (by kernel_rfl) (by kernel_rfl) (fun _ _ _ h => h) (fun L w => Iff.rfl) (Or.inl ⟨by rfl, fun w => by go_simp⟩) hS (fun hSb => ?_)
            simp only [List.getElem_toArray, List.getElem_cons_zero, List.getElem_cons_succ, Act.put, List.setIfInBounds_toArray, List.set_cons_zero, List.set_cons_succ]
            clear hS
            refine till_take (i := 9) (v := .int .i64 (n6 : Int)) rfl (by kernel_rfl) (by kernel_rfl) (by kernel_rfl) (fun _ _ _ h => h) (fun L w => Iff.rfl) (Or.inl ⟨by rfl, fun w => by go_simp⟩) hSb (fun hS => ?_)
            simp only [List.getElem_toArray, List.getElem_cons_zero, List.getElem_cons_succ, Act.put, List.setIfInBounds_toArray, List.set_cons_zero, List.set_cons_succ]
            clear hSb
            refine till_take (i := 10) (v := v6) rfl (by kernel_rfl) (by kernel_rfl) (by kernel_rfl) (fun _ _ _ h => h) (fun L w => Iff.rfl) (Or.inl ⟨by rfl, fun w => by go_simp⟩) hS (fun hSb => ?_)
            simp only [List.getElem_toArray, List.getElem_cons_zero, List.getElem_cons_succ, Act.put, List.setIfInBounds_toArray, List.set_cons_zero, List.set_cons_succ]
            clear hS
            refine till_done (by kernel_rfl) ?_ _
            clear hSb
            clear C1 C2 NW
            go_upto_region 26 with (fail)
            obtain ⟨W2, HW⟩ : ∃ W, Hid (w6.drew = W) := ⟨_, rfl⟩
            have NW2 : Hid (NowR w W2 ((q, oO x ab nb cb) :: E0) B (updR D k ⟨G, A, C, (rdN xl p z).2.2, GM, p⟩) lab2 k ⟨xa, xn, xc, xl⟩ ⟨G, A, C, (rdN xl p z).2.2, GM, p⟩) := by rw [← HW.out]; exact N6.out.below (below_drewN (Below.refl _ _) 1)
            have C1 : rS2 bm k q (.pointer (some ⟨GM, 0, none⟩)) z #[] W2 := ⟨NW2.out.cr hk (List.mem_cons_of_mem _ M0.out.1) PRk.out.2, by rw [← Hz.out]; exact (NW2.out.st.loc (List.mem_cons_self ..)).c2⟩
            refine wp_region_till (S := rS2 bm k q (.pointer (some ⟨GM, 0, none⟩)) z) (by kernel_rfl) ?_ (fun hS => ?_)
            · rw [HW.out]; exact C1
            rw [HW.out] at hS ⊢
            clear HW
            refine till_take (i := 0) (v := .int .i64 (k : Int)) rfl (by kernel_rfl) (by kernel_rfl) (by kernel_rfl) (fun _ _ _ h => h) (fun L w => Iff.rfl) (Or.inl ⟨by rfl, fun w => by go_simp⟩) hS (fun hSb => ?_)
            simp only [List.getElem_toArray, List.getElem_cons_zero, List.getElem_cons_succ, Act.put, List.setIfInBounds_toArray, List.set_cons_zero, List.set_cons_succ]
            clear hS
            refine till_take (i := 1) (v := .pointer (some ⟨bm, k, none⟩)) rfl (by kernel_rfl) (by kernel_rfl) (by kernel_rfl) (fun _ _ _ h => h) (fun L w => Iff.rfl) (Or.inl ⟨by rfl, fun w => by go_simp⟩) hSb (fun hS => ?_)
            simp only [List.getElem_toArray, List.getElem_cons_zero, List.getElem_cons_succ, Act.put, List.setIfInBounds_toArray, List.set_cons_zero, List.set_cons_succ]
            clear hSb
            refine till_read (i := 2) (c := 5) (v := .pointer (some ⟨GM, 0, none⟩)) rfl rfl (by kernel_rfl) (by kernel_rfl) (by kernel_rfl) (by kernel_rfl) (by kernel_rfl) (fun _ _ _ h => h) (fun L w => Iff.rfl) (fun L w h1 h2 => h2) (Or.inl ⟨by rfl, fun w hSw => by (try dsimp only at hSw); go_simp⟩) hS (fun hSb => ?_)
            simp only [List.getElem_toArray, List.getElem_cons_zero, List.getElem_cons_succ, Act.put, List.setIfInBounds_toArray, List.set_cons_zero, List.set_cons_succ]
            clear hS
            refine till_take (i := 3) (v := .pointer (some ⟨q, 2, none⟩)) rfl (by kernel_rfl) (by kernel_rfl) (by kernel_rfl) (fun _ _ _ h => h) (fun L w => Iff.rfl) (Or.inl ⟨by rfl, fun w => by go_simp⟩) hSb (fun hS => ?_)
            simp only [List.getElem_toArray, List.getElem_cons_zero, List.getElem_cons_succ, Act.put, List.setIfInBounds_toArray, List.set_cons_zero, List.set_cons_succ]
            clear hSb
            refine till_read (i := 4) (c := 5) (v := .int .i64 z) rfl rfl (by kernel_rfl) (by kernel_rfl) (by kernel_rfl) (by kernel_rfl) (by kernel_rfl) (fun _ _ _ h => h) (fun L w => Iff.rfl) (fun L w h1 h2 => h2) (Or.inl ⟨by rfl, fun w hSw => by (try dsimp only at hSw); go_simp⟩) hS (fun hSb => ?_)
            simp only [List.getElem_toArray, List.getElem_cons_zero, List.getElem_cons_succ, Act.put, List.setIfInBounds_toArray, List.set_cons_zero, List.set_cons_succ]
            clear hS
            refine till_one (i := 5) (by kernel_rfl) rfl (fun K hK => ?_)
            simp only [List.getElem_toArray, List.getElem_cons_zero, List.getElem_cons_succ]
            rw [if_pos (by rfl)]
            go_simp
            go_wp2_with (go_at_call 21; refine (refrnum_any (z := z) (show Hid (Rrf W2 GM xa xn xc xl p) from NW2.out.rf hk)).mono ?_; rintro e w7 ⟨n7, q7, rfl, H7⟩)
            have N7 : Hid (NowR w w7 ((q, oO x ab nb cb) :: E0) B (updR (updR D k ⟨G, A, C, (rdN xl p z).2.2, GM, p⟩) k ⟨G, A, C, (rdN xl p z).2.2, GM, (rdN xl p z).2.2⟩) lab2 k ⟨xa, xn, xc, xl⟩ ⟨G, A, C, (rdN xl p z).2.2, GM, (rdN xl p z).2.2⟩) := NW2.out.m hk H7.out.2.2.1 H7.out.2.2.2
            have C2 : rS2 bm k q (.pointer (some ⟨GM, 0, none⟩)) z #[] w7 := ⟨N7.out.cr hk (List.mem_cons_of_mem _ M0.out.1) PRk.out.2, by rw [← Hz.out]; exact (N7.out.st.loc (List.mem_cons_self ..)).c2⟩
            refine hK.out _ _ (C2) (fun hS => ?_)
            clear hK K
            try simp only [List.getElem_toArray, List.getElem_cons_zero, List.getElem_cons_succ, Act.put, List.setIfInBounds_toArray, List.set_cons_zero, List.set_cons_succ]
            clear hSb
            refine till_take (i := 6) (v := .tuple #[.int .i64 (n7 : Int), .int .i64 (q7 : Int)]) rfl (by kernel_rfl) (by kernel_rfl) (by kernel_rfl) (fun _ _ _ h => h) (fun L w => Iff.rfl) (Or.inl ⟨by rfl, fun w => by go_simp⟩) hS (fun hSb => ?_)
            simp only [List.getElem_toArray, List.getElem_cons_zero, List.getElem_cons_succ, Act.put, List.setIfInBounds_toArray, List.set_cons_zero, List.set_cons_succ]
            clear hS
            refine till_take (i := 7) (v := .int .i64 (n7 : Int)) rfl (by kernel_rfl) (by kernel_rfl) (by kernel_rfl) (fun _ _ _ h => h) (fun L w => Iff.rfl) (Or.inl ⟨by rfl, fun w => by go_simp⟩) hSb (fun hS => ?_)
            simp only [List.getElem_toArray, List.getElem_cons_zero, List.getElem_cons_succ, Act.put, List.setIfInBounds_toArray, List.set_cons_zero, List.set_cons_succ]
            clear hSb
            refine till_take (i := 8) (v := .int .i64 (q7 : Int)) rfl (by kernel_rfl) (by kernel_rfl) (by kernel_rfl) (fun _ _ _ h => h) (fun L w => Iff.rfl) (Or.inl ⟨by rfl, fun w => by go_simp⟩) hS (fun hSb => ?_)
            simp only [List.getElem_toArray, List.getElem_cons_zero, List.getElem_cons_succ, Act.put, List.setIfInBounds_toArray, List.set_cons_zero, List.set_cons_succ]
            clear hS
            refine till_take (i := 9) (v := .int .i64 (n7 : Int)) rfl (by kernel_rfl) (by kernel_rfl) (by kernel_rfl) (fun _ _ _ h => h) (fun L w => Iff.rfl) (Or.inl ⟨by rfl, fun w => by go_simp⟩) hSb (fun hS => ?_)
            simp only [List.getElem_toArray, List.getElem_cons_zero, List.getElem_cons_succ, Act.put, List.setIfInBounds_toArray, List.set_cons_zero, List.set_cons_succ]
            clear hSb
            refine till_take (i := 10) (v := .int .i64 (q7 : Int)) rfl (by kernel_rfl) (by kernel_rfl) (by kernel_rfl) (fun _ _ _ h => h) (fun L w => Iff.rfl) (Or.inl ⟨by rfl, fun w => by go_simp⟩) hS (fun hSb => ?_)
            simp only [List.getElem_toArray, List.getElem_cons_zero, List.getElem_cons_succ, Act.put, List.setIfInBounds_toArray, List.set_cons_zero, List.set_cons_succ]
            clear hS
            refine till_done (by kernel_rfl) ?_ _
            clear hSb
            clear C1 C2 NW2 N6
            have en : n7 = n6 := by rw [H7.out.1, H6.out.1]
            subst en
            have HV : Hid (v6 = erv E q7) := by rw [H7.out.2.1]; exact H6.out.2.1
            have HK : Hid (q7 = 0 ∨ q7 = 5 ∨ q7 = 6) := by rw [H7.out.2.1]; exact rdN_code _ _ _
            have E7 : Hid (Sent w7 18 E) := hE.out.below N7.out.st.bel
            clear H6 H7
            go_upto_region 28 with (first
              | (go_at_call 22; refine (bnum_any HV HK E7).mono ?_; rintro e w8 ⟨rfl, H8⟩))
            have FIN : Hid (∃ (D : Nat → Rd) (lab : Nat → Nat), Sr w w8 E0 B 2 D lab ∧ InvR Gs Ms D) := end_roundR (N7.out.st.below H8.out) (updR_updR _ _ _ _) I5.out HG.out.1 HG.out.2 rfl
            clear N7 H8
            go_wp2
            go_roundw
            case rel => have hl := HL.out; obtain ⟨D2, l2, h8⟩ := FIN.out; exact ⟨i + 1, D2, l2, by omega, by go_num, h8⟩
            case measure => have hl := HL.out; simp [intOf]; omega
          · have i1 : ¬ (kd = 1) := h1
            clear h1
            by_cases h2 : kd = 2
            · subst h2
              go_upto_region 30 with (fail)
              obtain ⟨W, HW⟩ : ∃ W, Hid (w5.drew = W) := ⟨_, rfl⟩
              have NW : Hid (NowR w W ((q, oO x ab nb cb) :: E0) B D lab2 k ⟨xa, xn, xc, xl⟩ ⟨G, A, C, p, GM, p⟩) := by rw [← HW.out]; exact N5.out.below (below_drewN (Below.refl _ _) 1)
              have C1 : rS2 br k q (.pointer (some ⟨G, 0, none⟩)) z #[] W := ⟨NW.out.cr hk (List.mem_cons_of_mem _ M0.out.2.1) PRk.out.1, by rw [← Hz.out]; exact (NW.out.st.loc (List.mem_cons_self ..)).c2⟩
              refine wp_region_till (S := rS2 br k q (.pointer (some ⟨G, 0, none⟩)) z) (by kernel_rfl) ?_ (fun hS => ?_)
              · rw [HW.out]; exact C1
              rw [HW.out] at hS ⊢
              have BW0 : Hid (w5.heap.size ≤ W.heap.size) := by rw [← HW.out]; exact Nat.le_refl _
              clear HW
              refine till_take (i := 0) (v := .int .i64 (k : Int)) rfl (by kernel_rfl) (by kernel_rfl) (by kernel_rfl) (fun _ _ _ h => h) (fun L w => Iff.rfl) (Or.inl ⟨by rfl, fun w => by go_simp⟩) hS (fun hSb => ?_)
              simp only [List.getElem_toArray, List.getElem_cons_zero, List.getElem_cons_succ, Act.put, List.setIfInBounds_toArray, List.set_cons_zero, List.set_cons_succ]
              clear hS
              refine till_take (i := 1) (v := .pointer (some ⟨br, k, none⟩)) rfl (by kernel_rfl) (by kernel_rfl) (by kernel_rfl) (fun _ _ _ h => h) (fun L w => Iff.rfl) (Or.inl ⟨by rfl, fun w => by go_simp⟩) hSb (fun hS => ?_)
              simp only [List.getElem_toArray, List.getElem_cons_zero, List.getElem_cons_succ, Act.put, List.setIfInBounds_toArray, List.set_cons_zero, List.set_cons_succ]
              clear hSb
              refine till_read (i := 2) (c := 5) (v := .pointer (some ⟨G, 0, none⟩)) rfl rfl (by kernel_rfl) (by kernel_rfl) (by kernel_rfl) (by kernel_rfl) (by kernel_rfl) (fun _ _ _ h => h) (fun L w => Iff.rfl) (fun L w h1 h2 => h2) (Or.inl ⟨by rfl, fun w hSw => by (try dsimp only at hSw); go_simp⟩) hS (fun hSb => ?_)
              simp only [List.getElem_toArray, List.getElem_cons_zero, List.getElem_cons_succ, Act.put, List.setIfInBounds_toArray, List.set_cons_zero, List.set_cons_succ]
              clear hS
              refine till_take (i := 3) (v := .pointer (some ⟨q, 2, none⟩)) rfl (by kernel_rfl) (by kernel_rfl) (by kernel_rfl) (fun _ _ _ h => h) (fun L w => Iff.rfl) (Or.inl ⟨by rfl, fun w => by go_simp⟩) hSb (fun hS => ?_)
              simp only [List.getElem_toArray, List.getElem_cons_zero, List.getElem_cons_succ, Act.put, List.setIfInBounds_toArray, List.set_cons_zero, List.set_cons_succ]
              clear hSb
              refine till_read (i := 4) (c := 5) (v := .int .i64 z) rfl rfl (by kernel_rfl) (by kernel_rfl) (by kernel_rfl) (by kernel_rfl) (by kernel_rfl) (fun _ _ _ h => h) (fun L w => Iff.rfl) (fun L w h1 h2 => h2) (Or.inl ⟨by rfl, fun w hSw => by (try dsimp only at hSw); go_simp⟩) hS (fun hSb => ?_)
              simp only [List.getElem_toArray, List.getElem_cons_zero, List.getElem_cons_succ, Act.put, List.setIfInBounds_toArray, List.set_cons_zero, List.set_cons_succ]
              clear hS
              refine till_one (i := 5) (by kernel_rfl) rfl (fun K hK => ?_)
              simp only [List.getElem_toArray, List.getElem_cons_zero, List.getElem_cons_succ]
              rw [if_pos (by rfl)]
              go_simp
              go_wp2_with (go_at_call 23; refine (rtext_any (show Hid (Rdr W G w.heap.size A xn C xl p) from NW.out.rd hk) hz2 (show Hid (Sent W 18 E) from hE.out.below NW.out.st.bel) (by omega)).mono ?_; rintro e w6 ⟨t6, v6, rfl, H6⟩)
              have N6 : Hid (NowR w w6 ((q, oO x ab nb cb) :: E0) B (updR D k ⟨G, A, C, (rdB xl p z).2.2, GM, p⟩) lab2 k ⟨xa, xn, xc, xl⟩ ⟨G, A, C, (rdB xl p z).2.2, GM, p⟩) := NW.out.r hk H6.out.2.2.1 H6.out.2.2.2
              have C2 : rS2 br k q (.pointer (some ⟨G, 0, none⟩)) z #[] w6 := ⟨N6.out.cr hk (List.mem_cons_of_mem _ M0.out.2.1) PRk.out.1, by rw [← Hz.out]; exact (N6.out.st.loc (List.mem_cons_self ..)).c2⟩
              have BWs : Hid (w5.heap.size ≤ W.heap.size) := BW0.out
              refine hK.out _ _ (C2) (fun hS => ?_)
              clear hK K
              try simp only [List.getElem_toArray, List.getElem_cons_zero, List.getElem_cons_succ, Act.put, List.setIfInBounds_toArray, List.set_cons_zero, List.set_cons_succ]
              clear hSb
              refine till_take (i := 6) (v := .tuple #[.string t6, v6]) rfl (by kernel_rfl) (by kernel_rfl) (by kernel_rfl) (fun _ _ _ h => h) (fun L w => Iff.rfl) (Or.inl ⟨by rfl, fun w => by go_simp⟩) hS (fun hSb => ?_)
              simp only [List.getElem_toArray, List.getElem_cons_zero, List.getElem_cons_succ, Act.put, List.setIfInBounds_toArray, List.set_cons_zero, List.set_cons_succ]
              clear hS
              refine till_take (i := 7) (v := .string t6) rfl (by kernel_rfl) (by kernel_rfl) (by kernel_rfl) (fun _ _ _ h => h) (fun L w => Iff.rfl) (Or.inl ⟨by rfl, fun w => by go_simp⟩) hSb (fun hS => ?_)
              simp only [List.getElem_toArray, List.getElem_cons_zero, List.getElem_cons_succ, Act.put, List.setIfInBounds_toArray, List.set_cons_zero, List.set_cons_succ]
              clear hSb
              refine till_take (i := 8) (v := v6) rfl (by kernel_rfl) (by kernel_rfl) (by kernel_rfl) (fun _ _ _ h => h) (fun L w => Iff.rfl) (Or.inl ⟨by rfl, fun w => by go_simp⟩) hS (fun hSb => ?_)
              simp only [List.getElem_toArray, List.getElem_cons_zero, List.getElem_cons_succ, Act.put, List.setIfInBounds_toArray, List.set_cons_zero, List.set_cons_succ]
              clear hS
              refine till_take (i := 9) (v := .string t6) rfl (by kernel_rfl) (by kernel_rfl) (by kernel_rfl) (fun _ _ _ h => h) (fun L w => Iff.rfl) (Or.inl ⟨by rfl, fun w => by go_simp⟩) hSb (fun hS => ?_)
              simp only [List.getElem_toArray, List.getElem_cons_zero, List.getElem_cons_succ, Act.put, List.setIfInBounds_toArray, List.set_cons_zero, List.set_cons_succ]
              clear hSb
              refine till_take (i := 10) (v := v6) rfl (by kernel_rfl) (by kernel_rfl) (by kernel_rfl) (fun _ _ _ h => h) (fun L w => Iff.rfl) (Or.inl ⟨by rfl, fun w => by go_simp⟩) hS (fun hSb => ?_)
              simp only [List.getElem_toArray, List.getElem_cons_zero, List.getElem_cons_succ, Act.put, List.setIfInBounds_toArray, List.set_cons_zero, List.set_cons_succ]
              clear hS
              refine till_done (by kernel_rfl) ?_ _
              clear hSb
              clear C1 C2 NW
              go_upto_region 31 with (fail)
              obtain ⟨W2, HW⟩ : ∃ W, Hid (w6.drew = W) := ⟨_, rfl⟩
              have NW2 : Hid (NowR w W2 ((q, oO x ab nb cb) :: E0) B (updR D k ⟨G, A, C, (rdB xl p z).2.2, GM, p⟩) lab2 k ⟨xa, xn, xc, xl⟩ ⟨G, A, C, (rdB xl p z).2.2, GM, p⟩) := by rw [← HW.out]; exact N6.out.below (below_drewN (Below.refl _ _) 1)
              have C1 : rS2 bm k q (.pointer (some ⟨GM, 0, none⟩)) z #[] W2 := ⟨NW2.out.cr hk (List.mem_cons_of_mem _ M0.out.1) PRk.out.2, by rw [← Hz.out]; exact (NW2.out.st.loc (List.mem_cons_self ..)).c2⟩
              refine wp_region_till (S := rS2 bm k q (.pointer (some ⟨GM, 0, none⟩)) z) (by kernel_rfl) ?_ (fun hS => ?_)
              · rw [HW.out]; exact C1
              rw [HW.out] at hS ⊢
              have BW2 : Hid (Below w6.heap.size w6 W2) := by rw [← HW.out]; exact below_drewN (Below.refl _ _) 1
              clear HW
              refine till_take (i := 0) (v := .int .i64 (k : Int)) rfl (by kernel_rfl) (by kernel_rfl) (by kernel_rfl) (fun _ _ _ h => h) (fun L w => Iff.rfl) (Or.inl ⟨by rfl, fun w => by go_simp⟩) hS (fun hSb => ?_)
              simp only [List.getElem_toArray, List.getElem_cons_zero, List.getElem_cons_succ, Act.put, List.setIfInBounds_toArray, List.set_cons_zero, List.set_cons_succ]
              clear hS
              refine till_take (i := 1) (v := .pointer (some ⟨bm, k, none⟩)) rfl (by kernel_rfl) (by kernel_rfl) (by kernel_rfl) (fun _ _ _ h => h) (fun L w => Iff.rfl) (Or.inl ⟨by rfl, fun w => by go_simp⟩) hSb (fun hS => ?_)
              simp only [List.getElem_toArray, List.getElem_cons_zero, List.getElem_cons_succ, Act.put, List.setIfInBounds_toArray, List.set_cons_zero, List.set_cons_succ]
              clear hSb
              refine till_read (i := 2) (c := 5) (v := .pointer (some ⟨GM, 0, none⟩)) rfl rfl (by kernel_rfl) (by kernel_rfl) (by kernel_rfl) (by kernel_rfl) (by kernel_rfl) (fun _ _ _ h => h) (fun L w => Iff.rfl) (fun L w h1 h2 => h2) (Or.inl ⟨by rfl, fun w hSw => by (try dsimp only at hSw); go_simp⟩) hS (fun hSb => ?_)
              simp only [List.getElem_toArray, List.getElem_cons_zero, List.getElem_cons_succ, Act.put, List.setIfInBounds_toArray, List.set_cons_zero, List.set_cons_succ]
              clear hS
              refine till_take (i := 3) (v := .pointer (some ⟨q, 2, none⟩)) rfl (by kernel_rfl) (by kernel_rfl) (by kernel_rfl) (fun _ _ _ h => h) (fun L w => Iff.rfl) (Or.inl ⟨by rfl, fun w => by go_simp⟩) hSb (fun hS => ?_)
              simp only [List.getElem_toArray, List.getElem_cons_zero, List.getElem_cons_succ, Act.put, List.setIfInBounds_toArray, List.set_cons_zero, List.set_cons_succ]
              clear hSb
              refine till_read (i := 4) (c := 5) (v := .int .i64 z) rfl rfl (by kernel_rfl) (by kernel_rfl) (by kernel_rfl) (by kernel_rfl) (by kernel_rfl) (fun _ _ _ h => h) (fun L w => Iff.rfl) (fun L w h1 h2 => h2) (Or.inl ⟨by rfl, fun w hSw => by (try dsimp only at hSw); go_simp⟩) hS (fun hSb => ?_)
              simp only [List.getElem_toArray, List.getElem_cons_zero, List.getElem_cons_succ, Act.put, List.setIfInBounds_toArray, List.set_cons_zero, List.set_cons_succ]
              clear hS
              refine till_one (i := 5) (by kernel_rfl) rfl (fun K hK => ?_)
              simp only [List.getElem_toArray, List.getElem_cons_zero, List.getElem_cons_succ]
              rw [if_pos (by rfl)]
              go_simp
              go_wp2_with (go_at_call 24; refine (refrbytes_any (z := z) (show Hid (Rrf W2 GM xa xn xc xl p) from NW2.out.rf hk)).mono ?_; rintro e w7 ⟨a7, m7, c7, q7, rfl, H7⟩)
              have N7 : Hid (NowR w w7 ((q, oO x ab nb cb) :: E0) B (updR (updR D k ⟨G, A, C, (rdB xl p z).2.2, GM, p⟩) k ⟨G, A, C, (rdB xl p z).2.2, GM, (rdB xl p z).2.2⟩) lab2 k ⟨xa, xn, xc, xl⟩ ⟨G, A, C, (rdB xl p z).2.2, GM, (rdB xl p z).2.2⟩) := NW2.out.m hk H7.out.2.2.1 H7.out.2.2.2
              have C2 : rS2 bm k q (.pointer (some ⟨GM, 0, none⟩)) z #[] w7 := ⟨N7.out.cr hk (List.mem_cons_of_mem _ M0.out.1) PRk.out.2, by rw [← Hz.out]; exact (N7.out.st.loc (List.mem_cons_self ..)).c2⟩
              refine hK.out _ _ (C2) (fun hS => ?_)
              clear hK K
              try simp only [List.getElem_toArray, List.getElem_cons_zero, List.getElem_cons_succ, Act.put, List.setIfInBounds_toArray, List.set_cons_zero, List.set_cons_succ]
              clear hSb
              refine till_take (i := 6) (v := .tuple #[.slice a7 m7 c7, .int .i64 (q7 : Int)]) rfl (by kernel_rfl) (by kernel_rfl) (by kernel_rfl) (fun _ _ _ h => h) (fun L w => Iff.rfl) (Or.inl ⟨by rfl, fun w => by go_simp⟩) hS (fun hSb => ?_)
              simp only [List.getElem_toArray, List.getElem_cons_zero, List.getElem_cons_succ, Act.put, List.setIfInBounds_toArray, List.set_cons_zero, List.set_cons_succ]
              clear hS
              refine till_take (i := 7) (v := .slice a7 m7 c7) rfl (by kernel_rfl) (by kernel_rfl) (by kernel_rfl) (fun _ _ _ h => h) (fun L w => Iff.rfl) (Or.inl ⟨by rfl, fun w => by go_simp⟩) hSb (fun hS => ?_)
              simp only [List.getElem_toArray, List.getElem_cons_zero, List.getElem_cons_succ, Act.put, List.setIfInBounds_toArray, List.set_cons_zero, List.set_cons_succ]
              clear hSb
              refine till_take (i := 8) (v := .int .i64 (q7 : Int)) rfl (by kernel_rfl) (by kernel_rfl) (by kernel_rfl) (fun _ _ _ h => h) (fun L w => Iff.rfl) (Or.inl ⟨by rfl, fun w => by go_simp⟩) hS (fun hSb => ?_)
              simp only [List.getElem_toArray, List.getElem_cons_zero, List.getElem_cons_succ, Act.put, List.setIfInBounds_toArray, List.set_cons_zero, List.set_cons_succ]
              clear hS
              refine till_take (i := 9) (v := .slice a7 m7 c7) rfl (by kernel_rfl) (by kernel_rfl) (by kernel_rfl) (fun _ _ _ h => h) (fun L w => Iff.rfl) (Or.inl ⟨by rfl, fun w => by go_simp⟩) hSb (fun hS => ?_)
              simp only [List.getElem_toArray, List.getElem_cons_zero, List.getElem_cons_succ, Act.put, List.setIfInBounds_toArray, List.set_cons_zero, List.set_cons_succ]
              clear hSb
              refine till_take (i := 10) (v := .int .i64 (q7 : Int)) rfl (by kernel_rfl) (by kernel_rfl) (by kernel_rfl) (fun _ _ _ h => h) (fun L w => Iff.rfl) (Or.inl ⟨by rfl, fun w => by go_simp⟩) hS (fun hSb => ?_)
              simp only [List.getElem_toArray, List.getElem_cons_zero, List.getElem_cons_succ, Act.put, List.setIfInBounds_toArray, List.set_cons_zero, List.set_cons_succ]
              clear hS
              refine till_done (by kernel_rfl) ?_ _
              clear hSb
              clear C1 C2
              have HV : Hid (v6 = erv E q7) := by rw [H7.out.2.1]; exact H6.out.2.1
              have HK : Hid (q7 = 0 ∨ q7 = 5 ∨ q7 = 6) := by rw [H7.out.2.1]; exact rdB_code _ _ _
              have E7 : Hid (Sent w7 18 E) := hE.out.below N7.out.st.bel
              have SZ : (rdB xl p z).1.length ≤ 140737488351232 := by have h1 := rdB_len xl p z; have h2 := N7.out.ok.sl.len; simp only at h2; omega
              have CV := conv_n (k := c7) (show Hid (Sln w7 a7 m7 (rdB xl p z).1) from H7.out.1.sln (by rw [H7.out.1.len]; omega))
              have et : t6 = spell (rdB xl p z).1 := H6.out.1
              subst et
              clear H6 H7 NW2 N6
              go_upto_region 33 with (first
                | (go_at_call 22; refine (bnum_any HV HK E7).mono ?_; rintro e w8 ⟨rfl, H8⟩))
              have FIN : Hid (∃ (D : Nat → Rd) (lab : Nat → Nat), Sr w w8 E0 B 2 D lab ∧ InvR Gs Ms D) := end_roundR (N7.out.st.below H8.out) (updR_updR _ _ _ _) I5.out HG.out.1 HG.out.2 rfl
              clear CV
              clear N7 H8
              go_wp2
              go_roundw
              case rel => have hl := HL.out; obtain ⟨D2, l2, h8⟩ := FIN.out; exact ⟨i + 1, D2, l2, by omega, by go_num, h8⟩
              case measure => have hl := HL.out; simp [intOf]; omega
            · have i2 : ¬ (kd = 2) := h2
              clear h2
              by_cases h3 : kd = 3
              · subst h3
                go_upto_region 35 with (fail)
                obtain ⟨W, HW⟩ : ∃ W, Hid (w5.drew = W) := ⟨_, rfl⟩
                have NW : Hid (NowR w W ((q, oO x ab nb cb) :: E0) B D lab2 k ⟨xa, xn, xc, xl⟩ ⟨G, A, C, p, GM, p⟩) := by rw [← HW.out]; exact N5.out.below (below_drewN (Below.refl _ _) 1)
                have C1 : rS2 br k q (.pointer (some ⟨G, 0, none⟩)) z #[] W := ⟨NW.out.cr hk (List.mem_cons_of_mem _ M0.out.2.1) PRk.out.1, by rw [← Hz.out]; exact (NW.out.st.loc (List.mem_cons_self ..)).c2⟩
                refine wp_region_till (S := rS2 br k q (.pointer (some ⟨G, 0, none⟩)) z) (by kernel_rfl) ?_ (fun hS => ?_)
                · rw [HW.out]; exact C1
                rw [HW.out] at hS ⊢
                have BW0 : Hid (w5.heap.size ≤ W.heap.size) := by rw [← HW.out]; exact Nat.le_refl _
                clear HW
                refine till_take (i := 0) (v := .int .i64 (k : Int)) rfl (by kernel_rfl) (by kernel_rfl) (by kernel_rfl) (fun _ _ _ h => h) (fun L w => Iff.rfl) (Or.inl ⟨by rfl, fun w => by go_simp⟩) hS (fun hSb => ?_)
                simp only [List.getElem_toArray, List.getElem_cons_zero, List.getElem_cons_succ, Act.put, List.setIfInBounds_toArray, List.set_cons_zero, List.set_cons_succ]
                clear hS
                refine till_take (i := 1) (v := .pointer (some ⟨br, k, none⟩)) rfl (by kernel_rfl) (by kernel_rfl) (by kernel_rfl) (fun _ _ _ h => h) (fun L w => Iff.rfl) (Or.inl ⟨by rfl, fun w => by go_simp⟩) hSb (fun hS => ?_)
                simp only [List.getElem_toArray, List.getElem_cons_zero, List.getElem_cons_succ, Act.put, List.setIfInBounds_toArray, List.set_cons_zero, List.set_cons_succ]
                clear hSb
                refine till_read (i := 2) (c := 5) (v := .pointer (some ⟨G, 0, none⟩)) rfl rfl (by kernel_rfl) (by kernel_rfl) (by kernel_rfl) (by kernel_rfl) (by kernel_rfl) (fun _ _ _ h => h) (fun L w => Iff.rfl) (fun L w h1 h2 => h2) (Or.inl ⟨by rfl, fun w hSw => by (try dsimp only at hSw); go_simp⟩) hS (fun hSb => ?_)
                simp only [List.getElem_toArray, List.getElem_cons_zero, List.getElem_cons_succ, Act.put, List.setIfInBounds_toArray, List.set_cons_zero, List.set_cons_succ]
                clear hS
                refine till_take (i := 3) (v := .pointer (some ⟨q, 2, none⟩)) rfl (by kernel_rfl) (by kernel_rfl) (by kernel_rfl) (fun _ _ _ h => h) (fun L w => Iff.rfl) (Or.inl ⟨by rfl, fun w => by go_simp⟩) hSb (fun hS => ?_)
                simp only [List.getElem_toArray, List.getElem_cons_zero, List.getElem_cons_succ, Act.put, List.setIfInBounds_toArray, List.set_cons_zero, List.set_cons_succ]
                clear hSb
                refine till_read (i := 4) (c := 5) (v := .int .i64 z) rfl rfl (by kernel_rfl) (by kernel_rfl) (by kernel_rfl) (by kernel_rfl) (by kernel_rfl) (fun _ _ _ h => h) (fun L w => Iff.rfl) (fun L w h1 h2 => h2) (Or.inl ⟨by rfl, fun w hSw => by (try dsimp only at hSw); go_simp⟩) hS (fun hSb => ?_)
                simp only [List.getElem_toArray, List.getElem_cons_zero, List.getElem_cons_succ, Act.put, List.setIfInBounds_toArray, List.set_cons_zero, List.set_cons_succ]
                clear hS
                refine till_one (i := 5) (by kernel_rfl) rfl (fun K hK => ?_)
                simp only [List.getElem_toArray, List.getElem_cons_zero, List.getElem_cons_succ]
                rw [if_pos (by rfl)]
                go_simp
                go_wp2_with (go_at_call 25; refine (rbytes_any (show Hid (Rdr W G w.heap.size A xn C xl p) from NW.out.rd hk) hz2 (show Hid (Sent W 18 E) from hE.out.below NW.out.st.bel) (by omega)).mono ?_; rintro e w6 ⟨a6, m6, c6, v6, rfl, H6⟩)
                have N6 : Hid (NowR w w6 ((q, oO x ab nb cb) :: E0) B (updR D k ⟨G, A, C, (rdB xl p z).2.2, GM, p⟩) lab2 k ⟨xa, xn, xc, xl⟩ ⟨G, A, C, (rdB xl p z).2.2, GM, p⟩) := NW.out.r hk H6.out.2.2.1 H6.out.2.2.2
                have C2 : rS2 br k q (.pointer (some ⟨G, 0, none⟩)) z #[] w6 := ⟨N6.out.cr hk (List.mem_cons_of_mem _ M0.out.2.1) PRk.out.1, by rw [← Hz.out]; exact (N6.out.st.loc (List.mem_cons_self ..)).c2⟩
                have BWs : Hid (w5.heap.size ≤ W.heap.size) := BW0.out
                refine hK.out _ _ (C2) (fun hS => ?_)
                clear hK K
                try simp only [List.getElem_toArray, List.getElem_cons_zero, List.getElem_cons_succ, Act.put, List.setIfInBounds_toArray, List.set_cons_zero, List.set_cons_succ]
                clear hSb
                refine till_take (i := 6) (v := .tuple #[.slice a6 m6 c6, v6]) rfl (by kernel_rfl) (by kernel_rfl) (by kernel_rfl) (fun _ _ _ h => h) (fun L w => Iff.rfl) (Or.inl ⟨by rfl, fun w => by go_simp⟩) hS (fun hSb => ?_)
                simp only [List.getElem_toArray, List.getElem_cons_zero, List.getElem_cons_succ, Act.put, List.setIfInBounds_toArray, List.set_cons_zero, List.set_cons_succ]
                clear hS
                refine till_take (i := 7) (v := .slice a6 m6 c6) rfl (by kernel_rfl) (by kernel_rfl) (by kernel_rfl) (fun _ _ _ h => h) (fun L w => Iff.rfl) (Or.inl ⟨by rfl, fun w => by go_simp⟩) hSb (fun hS => ?_)
                simp only [List.getElem_toArray, List.getElem_cons_zero, List.getElem_cons_succ, Act.put, List.setIfInBounds_toArray, List.set_cons_zero, List.set_cons_succ]
                clear hSb
                refine till_take (i := 8) (v := v6) rfl (by kernel_rfl) (by kernel_rfl) (by kernel_rfl) (fun _ _ _ h => h) (fun L w => Iff.rfl) (Or.inl ⟨by rfl, fun w => by go_simp⟩) hS (fun hSb => ?_)
                simp only [List.getElem_toArray, List.getElem_cons_zero, List.getElem_cons_succ, Act.put, List.setIfInBounds_toArray, List.set_cons_zero, List.set_cons_succ]
                clear hS
                refine till_take (i := 9) (v := .slice a6 m6 c6) rfl (by kernel_rfl) (by kernel_rfl) (by kernel_rfl) (fun _ _ _ h => h) (fun L w => Iff.rfl) (Or.inl ⟨by rfl, fun w => by go_simp⟩) hSb (fun hS => ?_)
                simp only [List.getElem_toArray, List.getElem_cons_zero, List.getElem_cons_succ, Act.put, List.setIfInBounds_toArray, List.set_cons_zero, List.set_cons_succ]
                clear hSb
                refine till_take (i := 10) (v := v6) rfl (by kernel_rfl) (by kernel_rfl) (by kernel_rfl) (fun _ _ _ h => h) (fun L w => Iff.rfl) (Or.inl ⟨by rfl, fun w => by go_simp⟩) hS (fun hSb => ?_)
                simp only [List.getElem_toArray, List.getElem_cons_zero, List.getElem_cons_succ, Act.put, List.setIfInBounds_toArray, List.set_cons_zero, List.set_cons_succ]
                clear hS
                refine till_done (by kernel_rfl) ?_ _
                clear hSb
                clear C1 C2 NW
                go_upto_region 36 with (fail)
                obtain ⟨W2, HW⟩ : ∃ W, Hid (w6.drew = W) := ⟨_, rfl⟩
                have NW2 : Hid (NowR w W2 ((q, oO x ab nb cb) :: E0) B (updR D k ⟨G, A, C, (rdB xl p z).2.2, GM, p⟩) lab2 k ⟨xa, xn, xc, xl⟩ ⟨G, A, C, (rdB xl p z).2.2, GM, p⟩) := by rw [← HW.out]; exact N6.out.below (below_drewN (Below.refl _ _) 1)
                have C1 : rS2 bm k q (.pointer (some ⟨GM, 0, none⟩)) z #[] W2 := ⟨NW2.out.cr hk (List.mem_cons_of_mem _ M0.out.1) PRk.out.2, by rw [← Hz.out]; exact (NW2.out.st.loc (List.mem_cons_self ..)).c2⟩
                refine wp_region_till (S := rS2 bm k q (.pointer (some ⟨GM, 0, none⟩)) z) (by kernel_rfl) ?_ (fun hS => ?_)
                · rw [HW.out]; exact C1
                rw [HW.out] at hS ⊢
                have BW2 : Hid (Below w6.heap.size w6 W2) := by rw [← HW.out]; exact below_drewN (Below.refl _ _) 1
                clear HW
                refine till_take (i := 0) (v := .int .i64 (k : Int)) rfl (by kernel_rfl) (by kernel_rfl) (by kernel_rfl) (fun _ _ _ h => h) (fun L w => Iff.rfl) (Or.inl ⟨by rfl, fun w => by go_simp⟩) hS (fun hSb => ?_)
                simp only [List.getElem_toArray, List.getElem_cons_zero, List.getElem_cons_succ, Act.put, List.setIfInBounds_toArray, List.set_cons_zero, List.set_cons_succ]
                clear hS
                refine till_take (i := 1) (v := .pointer (some ⟨bm, k, none⟩)) rfl (by kernel_rfl) (by kernel_rfl) (by kernel_rfl) (fun _ _ _ h => h) (fun L w => Iff.rfl) (Or.inl ⟨by rfl, fun w => by go_simp⟩) hSb (fun hS => ?_)
                simp only [List.getElem_toArray, List.getElem_cons_zero, List.getElem_cons_succ, Act.put, List.setIfInBounds_toArray, List.set_cons_zero, List.set_cons_succ]
                clear hSb
                refine till_read (i := 2) (c := 5) (v := .pointer (some ⟨GM, 0, none⟩)) rfl rfl (by kernel_rfl) (by kernel_rfl) (by kernel_rfl) (by kernel_rfl) (by kernel_rfl) (fun _ _ _ h => h) (fun L w => Iff.rfl) (fun L w h1 h2 => h2) (Or.inl ⟨by rfl, fun w hSw => by (try dsimp only at hSw); go_simp⟩) hS (fun hSb => ?_)
                simp only [List.getElem_toArray, List.getElem_cons_zero, List.getElem_cons_succ, Act.put, List.setIfInBounds_toArray, List.set_cons_zero, List.set_cons_succ]
                clear hS
                refine till_take (i := 3) (v := .pointer (some ⟨q, 2, none⟩)) rfl (by kernel_rfl) (by kernel_rfl) (by kernel_rfl) (fun _ _ _ h => h) (fun L w => Iff.rfl) (Or.inl ⟨by rfl, fun w => by go_simp⟩) hSb (fun hS => ?_)
                simp only [List.getElem_toArray, List.getElem_cons_zero, List.getElem_cons_succ, Act.put, List.setIfInBounds_toArray, List.set_cons_zero, List.set_cons_succ]
                clear hSb
                refine till_read (i := 4) (c := 5) (v := .int .i64 z) rfl rfl (by kernel_rfl) (by kernel_rfl) (by kernel_rfl) (by kernel_rfl) (by kernel_rfl) (fun _ _ _ h => h) (fun L w => Iff.rfl) (fun L w h1 h2 => h2) (Or.inl ⟨by rfl, fun w hSw => by (try dsimp only at hSw); go_simp⟩) hS (fun hSb => ?_)
                simp only [List.getElem_toArray, List.getElem_cons_zero, List.getElem_cons_succ, Act.put, List.setIfInBounds_toArray, List.set_cons_zero, List.set_cons_succ]
                clear hS
                refine till_one (i := 5) (by kernel_rfl) rfl (fun K hK => ?_)
                simp only [List.getElem_toArray, List.getElem_cons_zero, List.getElem_cons_succ]
                rw [if_pos (by rfl)]
                go_simp
                go_wp2_with (go_at_call 24; refine (refrbytes_any (z := z) (show Hid (Rrf W2 GM xa xn xc xl p) from NW2.out.rf hk)).mono ?_; rintro e w7 ⟨a7, m7, c7, q7, rfl, H7⟩)
                have N7 : Hid (NowR w w7 ((q, oO x ab nb cb) :: E0) B (updR (updR D k ⟨G, A, C, (rdB xl p z).2.2, GM, p⟩) k ⟨G, A, C, (rdB xl p z).2.2, GM, (rdB xl p z).2.2⟩) lab2 k ⟨xa, xn, xc, xl⟩ ⟨G, A, C, (rdB xl p z).2.2, GM, (rdB xl p z).2.2⟩) := NW2.out.m hk H7.out.2.2.1 H7.out.2.2.2
                have C2 : rS2 bm k q (.pointer (some ⟨GM, 0, none⟩)) z #[] w7 := ⟨N7.out.cr hk (List.mem_cons_of_mem _ M0.out.1) PRk.out.2, by rw [← Hz.out]; exact (N7.out.st.loc (List.mem_cons_self ..)).c2⟩
                refine hK.out _ _ (C2) (fun hS => ?_)
                clear hK K
                try simp only [List.getElem_toArray, List.getElem_cons_zero, List.getElem_cons_succ, Act.put, List.setIfInBounds_toArray, List.set_cons_zero, List.set_cons_succ]
                clear hSb
                refine till_take (i := 6) (v := .tuple #[.slice a7 m7 c7, .int .i64 (q7 : Int)]) rfl (by kernel_rfl) (by kernel_rfl) (by kernel_rfl) (fun _ _ _ h => h) (fun L w => Iff.rfl) (Or.inl ⟨by rfl, fun w => by go_simp⟩) hS (fun hSb => ?_)
                simp only [List.getElem_toArray, List.getElem_cons_zero, List.getElem_cons_succ, Act.put, List.setIfInBounds_toArray, List.set_cons_zero, List.set_cons_succ]
                clear hS
                refine till_take (i := 7) (v := .slice a7 m7 c7) rfl (by kernel_rfl) (by kernel_rfl) (by kernel_rfl) (fun _ _ _ h => h) (fun L w => Iff.rfl) (Or.inl ⟨by rfl, fun w => by go_simp⟩) hSb (fun hS => ?_)
                simp only [List.getElem_toArray, List.getElem_cons_zero, List.getElem_cons_succ, Act.put, List.setIfInBounds_toArray, List.set_cons_zero, List.set_cons_succ]
                clear hSb
                refine till_take (i := 8) (v := .int .i64 (q7 : Int)) rfl (by kernel_rfl) (by kernel_rfl) (by kernel_rfl) (fun _ _ _ h => h) (fun L w => Iff.rfl) (Or.inl ⟨by rfl, fun w => by go_simp⟩) hS (fun hSb => ?_)
                simp only [List.getElem_toArray, List.getElem_cons_zero, List.getElem_cons_succ, Act.put, List.setIfInBounds_toArray, List.set_cons_zero, List.set_cons_succ]
                clear hS
                refine till_take (i := 9) (v := .slice a7 m7 c7) rfl (by kernel_rfl) (by kernel_rfl) (by kernel_rfl) (fun _ _ _ h => h) (fun L w => Iff.rfl) (Or.inl ⟨by rfl, fun w => by go_simp⟩) hSb (fun hS => ?_)
                simp only [List.getElem_toArray, List.getElem_cons_zero, List.getElem_cons_succ, Act.put, List.setIfInBounds_toArray, List.set_cons_zero, List.set_cons_succ]
                clear hSb
                refine till_take (i := 10) (v := .int .i64 (q7 : Int)) rfl (by kernel_rfl) (by kernel_rfl) (by kernel_rfl) (fun _ _ _ h => h) (fun L w => Iff.rfl) (Or.inl ⟨by rfl, fun w => by go_simp⟩) hS (fun hSb => ?_)
                simp only [List.getElem_toArray, List.getElem_cons_zero, List.getElem_cons_succ, Act.put, List.setIfInBounds_toArray, List.set_cons_zero, List.set_cons_succ]
                clear hS
                refine till_done (by kernel_rfl) ?_ _
                clear hSb
                clear C1 C2
                have HV : Hid (v6 = erv E q7) := by rw [H7.out.2.1]; exact H6.out.2.1
                have HK : Hid (q7 = 0 ∨ q7 = 5 ∨ q7 = 6) := by rw [H7.out.2.1]; exact rdB_code _ _ _
                have E7 : Hid (Sent w7 18 E) := hE.out.below N7.out.st.bel
                have SZ : (rdB xl p z).1.length ≤ 140737488351232 := by have h1 := rdB_len xl p z; have h2 := N7.out.ok.sl.len; simp only at h2; omega
                have CV := conv_n (k := c7) (show Hid (Sln w7 a7 m7 (rdB xl p z).1) from H7.out.1.sln (by rw [H7.out.1.len]; omega))
                have O7 : Hid (Own w7 w5.heap.size a6 m6 c6 (rdB xl p z).1) := by
                  have h1 := H6.out.1.below BW2.out
                  have h2 := N5.out.st.ltm (j := k) hk
                  rw [N5.out.eq] at h2
                  simp only at h2
                  exact (h1.ch (Ch.wfr H7.out.2.2.2) (fun j hj e => by
                    have h3 := (h1.ge j hj).1
                    have h4 := BWs.out
                    rcases e with e | e
                    · omega
                    · simp [blkOf] at e)).base BWs.out
                have M6 : Hid (m6 = (rdB xl p z).1.length) := O7.out.len
                have hm6 : m6 ≤ 140737488351232 := by rw [M6.out]; exact SZ
                have CV6 := conv_n (k := c6) (show Hid (Sln w7 a6 m6 (rdB xl p z).1) from O7.out.sln (by omega))
                have B57 : Hid (w5.heap.size ≤ w7.heap.size) := Nat.le_trans BWs.out (Nat.le_trans H6.out.2.2.2.size (Nat.le_trans BW2.out.size H7.out.2.2.2.size))
                clear H6 H7 NW2 N6 BW2
                go_upto_region 39 with (first
                  | (go_at_call 22; refine (bnum_any HV HK E7).mono ?_; rintro e w8 ⟨rfl, H8⟩))
                clear CV CV6
                have N8 : Hid (Sr w w8 ((q, oO x ab nb cb) :: E0) B 2 (updR (updR D k ⟨G, A, C, (rdB xl p z).2.2, GM, p⟩) k ⟨G, A, C, (rdB xl p z).2.2, GM, (rdB xl p z).2.2⟩) lab2) := N7.out.st.below H8.out
                have O8' : Own w8 w5.heap.size a6 m6 c6 (rdB xl p z).1 := O7.out.below H8.out
                have FIN : Hid (∀ wx, Ch w8 wx (fun j => w5.heap.size ≤ j) → ∃ (D : Nat → Rd) (lab : Nat → Nat), Sr w wx E0 B 2 D lab ∧ InvR Gs Ms D) := fun wx hc => end_roundR (N8.out.onew Z5.out LB2.out hc) (updR_updR _ _ _ _) I5.out HG.out.1 HG.out.2 rfl
                have z58 : w5.heap.size ≤ w8.heap.size := Nat.le_trans B57.out H8.out.size
                have bm' : Blk (w8.alloc onetwoO) w8.heap.size [1, 2] := by
                  show (w8.heap.push _)[w8.heap.size]? = _
                  simp [bv]
                have sm := bm'.sln (by decide) (by decide)
                have O3 : Own (w8.alloc onetwoO) w5.heap.size a6 m6 c6 (rdB xl p z).1 := ⟨O8'.len, O8'.own.alloc _, O8'.lt⟩
                obtain ⟨a9, c9, w9, hrun9, own9, gr9, new9⟩ := app_any (c2 := 2) O3 sm (by simp) (by simp; omega) (by simp; omega)
                simp only [List.length_cons, List.length_nil, Nat.zero_add, Nat.reduceAdd] at hrun9 own9
                have AP : Hid ((Builtin.append_ #[27, 27] 27 #[.slice a6 m6 c6, .slice (some ⟨w8.heap.size, 0, none⟩) 2 2]).run Tryd.prog (w8.alloc onetwoO) = .ok (.slice a9 (m6 + 2) c9) w9) := hrun9
                have F9 : Hid (∃ L', Own w9 w5.heap.size a9 (m6 + 2) c9 L' ∧ Ch w8 w9 (fun j => w5.heap.size ≤ j)) := ⟨_, own9, (((Ch.below ((Below.refl w8.heap.size w8).alloc (Nat.le_refl _) onetwoO)).trans (Ch.grown gr9)).weak (fun j _ h => by rcases h with h | h; exact h.elim; exact (O3.ge j h).1))⟩
                clear bm' sm O3 hrun9 own9 gr9 new9 O8' N8 O7 z58 N7 H8 M6
                go_upto_region 40 with (first
                  | (at_builtin; refine wpList_app (by rfl) (.tmp 180) (.tmp 181) (by rfl) (by rfl) (by rfl) (by rfl) AP ?_))
                go_wp2
                go_loopw [185] (fun tj wx => ∃ j : Nat, j ≤ m6 + 2 ∧ tj = .int .i64 j ∧ Hid (∃ L', Own wx w5.heap.size a9 (m6 + 2) c9 L' ∧ Ch w8 wx (fun j => w5.heap.size ≤ j))) (fun tj _ => m6 + 2 - (intOf tj).toNat)
                case atStart => exact ⟨0, by omega, rfl, F9.out⟩
                case round =>
                  obtain ⟨j, hj, rfl, HJ⟩ := hrel
                  obtain ⟨L2, hO2, hC2⟩ := HJ.out
                  by_cases hlt2 : j < m6 + 2
                  · obtain ⟨g, rfl, hBg, c1, c2'⟩ := hO2.cell hlt2
                    obtain ⟨y, Hy⟩ : ∃ y, Hid (L2.getD j 0 = y) := ⟨_, rfl⟩
                    have hy : y < 256 := by rw [← Hy.out]; exact getD_lt hO2.lt j
                    rw [Hy.out] at c1
                    have Nx : Hid (∃ L', Own (wr.setCell ⟨g, j, none⟩ (.int .u8 ((y ^^^ 99 : Nat) : Int))) w5.heap.size (some ⟨g, 0, none⟩) (m6 + 2) c9 L' ∧ Ch w8 (wr.setCell ⟨g, j, none⟩ (.int .u8 ((y ^^^ 99 : Nat) : Int))) (fun j => w5.heap.size ≤ j)) := ⟨L2.set j (y ^^^ 99), hO2.set rfl hlt2 (xor_lt8 hy (by omega)), (hC2.trans (Ch.set wr g j _)).weak (fun i _ h => h.elim id (fun e => by rw [e]; exact hBg))⟩
                    have i2 : (j : Int) < (m6 : Int) + 2 := by omega
                    have x99 : bits BinOp.xor IntKind.u8 (y : Int) 99 = ((y ^^^ 99 : Nat) : Int) := xor_u8 y 99 hy (by omega)
                    clear hO2 hC2 HJ
                    go_wp2
                    go_roundw
                    case rel => exact ⟨j + 1, by omega, by go_num, Nx.out⟩
                    case measure => simp [intOf]; omega
                  · have F2 : Hid (∃ (D : Nat → Rd) (lab : Nat → Nat), Sr w wr E0 B 2 D lab ∧ InvR Gs Ms D) := FIN.out wr hC2
                    clear FIN HJ hO2 hC2
                    go_wp2
                    go_roundw
                    case rel => have hl := HL.out; obtain ⟨D2, l2, h8⟩ := F2.out; exact ⟨i + 1, D2, l2, by omega, by go_num, h8⟩
                    case measure => have hl := HL.out; simp [intOf]; omega
              · have i3 : ¬ (kd = 3) := h3
                clear h3
                by_cases h4 : kd = 4
                · subst h4
                  have RF5 := N5.out.rf hk
                  have hpn : p ≤ xn := RF5.le
                  obtain ⟨df, Hdf⟩ : ∃ df, Hid (xn - p = df) := ⟨_, rfl⟩
                  have edf : (xn : Int) - (p : Int) = (df : Int) := by have := Hdf.out; omega
                  have hdf : df ≤ 140737488351232 := by rw [← Hdf.out]; omega
                  have wdf : IntKind.i64.wrap (df : Int) = (df : Int) := by rw [IntKind.wrap_i64]; omega
                  go_upto_region 46 with (fail)
                  obtain ⟨W, HW⟩ : ∃ W, Hid (w5.drew = W) := ⟨_, rfl⟩
                  have NW : Hid (NowR w W ((q, oO x ab nb cb) :: E0) B D lab2 k ⟨xa, xn, xc, xl⟩ ⟨G, A, C, p, GM, p⟩) := by rw [← HW.out]; exact N5.out.below (below_drewN (Below.refl _ _) 1)
                  have RFW := NW.out.rf hk
                  have C1 : rS3 bm k GM (.slice xa xn xc) p #[] W := ⟨NW.out.cr hk (List.mem_cons_of_mem _ M0.out.1) PRk.out.2, RFW.c0, RFW.c1⟩
                  refine wp_region_till (S := rS3 bm k GM (.slice xa xn xc) p) (by kernel_rfl) ?_ (fun hS => ?_)
                  · rw [HW.out]; exact C1
                  rw [HW.out] at hS ⊢
                  clear HW RFW RF5
                  refine till_take (i := 0) (v := .int .i64 (k : Int)) rfl (by kernel_rfl) (by kernel_rfl) (by kernel_rfl) (fun _ _ _ h => h) (fun L w => Iff.rfl) (Or.inl ⟨by rfl, fun w => by go_simp⟩) hS (fun hSb => ?_)
                  simp only [List.getElem_toArray, List.getElem_cons_zero, List.getElem_cons_succ, Act.put, List.setIfInBounds_toArray, List.set_cons_zero, List.set_cons_succ]
                  clear hS
                  refine till_take (i := 1) (v := .pointer (some ⟨bm, k, none⟩)) rfl (by kernel_rfl) (by kernel_rfl) (by kernel_rfl) (fun _ _ _ h => h) (fun L w => Iff.rfl) (Or.inl ⟨by rfl, fun w => by go_simp⟩) hSb (fun hS => ?_)
                  simp only [List.getElem_toArray, List.getElem_cons_zero, List.getElem_cons_succ, Act.put, List.setIfInBounds_toArray, List.set_cons_zero, List.set_cons_succ]
                  clear hSb
                  refine till_read (i := 2) (c := 3) (v := .pointer (some ⟨GM, 0, none⟩)) rfl rfl (by kernel_rfl) (by kernel_rfl) (by kernel_rfl) (by kernel_rfl) (by kernel_rfl) (fun _ _ _ h => h) (fun L w => Iff.rfl) (fun L w h1 h2 => h2) (Or.inl ⟨by rfl, fun w hSw => by (try dsimp only at hSw); go_simp⟩) hS (fun hSb => ?_)
                  simp only [List.getElem_toArray, List.getElem_cons_zero, List.getElem_cons_succ, Act.put, List.setIfInBounds_toArray, List.set_cons_zero, List.set_cons_succ]
                  clear hS
                  refine till_take (i := 3) (v := .pointer (some ⟨GM, 0, none⟩)) rfl (by kernel_rfl) (by kernel_rfl) (by kernel_rfl) (fun _ _ _ h => h) (fun L w => Iff.rfl) (Or.inl ⟨by rfl, fun w => by go_simp⟩) hSb (fun hS => ?_)
                  simp only [List.getElem_toArray, List.getElem_cons_zero, List.getElem_cons_succ, Act.put, List.setIfInBounds_toArray, List.set_cons_zero, List.set_cons_succ]
                  clear hSb
                  refine till_take (i := 4) (v := .pointer (some ⟨GM, 0, none⟩)) rfl (by kernel_rfl) (by kernel_rfl) (by kernel_rfl) (fun _ _ _ h => h) (fun L w => Iff.rfl) (Or.inl ⟨by rfl, fun w => by go_simp⟩) hS (fun hSb => ?_)
                  simp only [List.getElem_toArray, List.getElem_cons_zero, List.getElem_cons_succ, Act.put, List.setIfInBounds_toArray, List.set_cons_zero, List.set_cons_succ]
                  clear hS
                  refine till_read (i := 5) (c := 6) (v := .slice xa xn xc) rfl rfl (by kernel_rfl) (by kernel_rfl) (by kernel_rfl) (by kernel_rfl) (by kernel_rfl) (fun _ _ _ h => h) (fun L w => Iff.rfl) (fun L w h1 h2 => h2) (Or.inl ⟨by rfl, fun w hSw => by (try dsimp only at hSw); go_simp⟩) hSb (fun hS => ?_)
                  simp only [List.getElem_toArray, List.getElem_cons_zero, List.getElem_cons_succ, Act.put, List.setIfInBounds_toArray, List.set_cons_zero, List.set_cons_succ]
                  clear hSb
                  refine till_take (i := 6) (v := .int .i64 (xn : Int)) rfl (by kernel_rfl) (by kernel_rfl) (by kernel_rfl) (fun _ _ _ h => h) (fun L w => Iff.rfl) (Or.inl ⟨by rfl, fun w => by go_simp⟩) hS (fun hSb => ?_)
                  simp only [List.getElem_toArray, List.getElem_cons_zero, List.getElem_cons_succ, Act.put, List.setIfInBounds_toArray, List.set_cons_zero, List.set_cons_succ]
                  clear hS
                  refine till_take (i := 7) (v := .int .i64 (k : Int)) rfl (by kernel_rfl) (by kernel_rfl) (by kernel_rfl) (fun _ _ _ h => h) (fun L w => Iff.rfl) (Or.inl ⟨by rfl, fun w => by go_simp⟩) hSb (fun hS => ?_)
                  simp only [List.getElem_toArray, List.getElem_cons_zero, List.getElem_cons_succ, Act.put, List.setIfInBounds_toArray, List.set_cons_zero, List.set_cons_succ]
                  clear hSb
                  refine till_take (i := 8) (v := .pointer (some ⟨bm, k, none⟩)) rfl (by kernel_rfl) (by kernel_rfl) (by kernel_rfl) (fun _ _ _ h => h) (fun L w => Iff.rfl) (Or.inl ⟨by rfl, fun w => by go_simp⟩) hS (fun hSb => ?_)
                  simp only [List.getElem_toArray, List.getElem_cons_zero, List.getElem_cons_succ, Act.put, List.setIfInBounds_toArray, List.set_cons_zero, List.set_cons_succ]
                  clear hS
                  refine till_read (i := 9) (c := 10) (v := .pointer (some ⟨GM, 0, none⟩)) rfl rfl (by kernel_rfl) (by kernel_rfl) (by kernel_rfl) (by kernel_rfl) (by kernel_rfl) (fun _ _ _ h => h) (fun L w => Iff.rfl) (fun L w h1 h2 => h2) (Or.inl ⟨by rfl, fun w hSw => by (try dsimp only at hSw); go_simp⟩) hSb (fun hS => ?_)
                  simp only [List.getElem_toArray, List.getElem_cons_zero, List.getElem_cons_succ, Act.put, List.setIfInBounds_toArray, List.set_cons_zero, List.set_cons_succ]
                  clear hSb
                  refine till_take (i := 10) (v := .pointer (some ⟨GM, 0, none⟩)) rfl (by kernel_rfl) (by kernel_rfl) (by kernel_rfl) (fun _ _ _ h => h) (fun L w => Iff.rfl) (Or.inl ⟨by rfl, fun w => by go_simp⟩) hS (fun hSb => ?_)
                  simp only [List.getElem_toArray, List.getElem_cons_zero, List.getElem_cons_succ, Act.put, List.setIfInBounds_toArray, List.set_cons_zero, List.set_cons_succ]
                  clear hS
                  refine till_take (i := 11) (v := .pointer (some ⟨GM, 1, none⟩)) rfl (by kernel_rfl) (by kernel_rfl) (by kernel_rfl) (fun _ _ _ h => h) (fun L w => Iff.rfl) (Or.inl ⟨by rfl, fun w => by go_simp⟩) hSb (fun hS => ?_)
                  simp only [List.getElem_toArray, List.getElem_cons_zero, List.getElem_cons_succ, Act.put, List.setIfInBounds_toArray, List.set_cons_zero, List.set_cons_succ]
                  clear hSb
                  refine till_read (i := 12) (c := 13) (v := .int .i64 (p : Int)) rfl rfl (by kernel_rfl) (by kernel_rfl) (by kernel_rfl) (by kernel_rfl) (by kernel_rfl) (fun _ _ _ h => h) (fun L w => Iff.rfl) (fun L w h1 h2 => h2) (Or.inl ⟨by rfl, fun w hSw => by (try dsimp only at hSw); go_simp⟩) hS (fun hSb => ?_)
                  simp only [List.getElem_toArray, List.getElem_cons_zero, List.getElem_cons_succ, Act.put, List.setIfInBounds_toArray, List.set_cons_zero, List.set_cons_succ]
                  clear hS
                  refine till_take (i := 13) (v := .int .i64 (df : Int)) rfl (by kernel_rfl) (by kernel_rfl) (by kernel_rfl) (fun _ _ _ h => h) (fun L w => Iff.rfl) (Or.inl ⟨by rfl, fun w => by go_simp⟩) hSb (fun hS => ?_)
                  simp only [List.getElem_toArray, List.getElem_cons_zero, List.getElem_cons_succ, Act.put, List.setIfInBounds_toArray, List.set_cons_zero, List.set_cons_succ]
                  clear hSb
                  refine till_take (i := 14) (v := .int .i64 (df : Int)) rfl (by kernel_rfl) (by kernel_rfl) (by kernel_rfl) (fun _ _ _ h => h) (fun L w => Iff.rfl) (Or.inl ⟨by rfl, fun w => by go_simp⟩) hS (fun hSb => ?_)
                  simp only [List.getElem_toArray, List.getElem_cons_zero, List.getElem_cons_succ, Act.put, List.setIfInBounds_toArray, List.set_cons_zero, List.set_cons_succ]
                  clear hS
                  refine till_done (by kernel_rfl) ?_ _
                  clear hSb
                  clear C1
                  have cR := NW.out.cr hk (List.mem_cons_of_mem _ M0.out.2.1) PRk.out.1
                  have RW : Hid (Rdr W G w.heap.size A xn C xl p) := NW.out.rd hk
                  have EW : Hid (Sent W 18 E) := hE.out.below NW.out.st.bel
                  by_cases hp0 : p = xn
                  · have HP : Hid (p = xn) := hp0
                    have df0 : df = 0 := by rw [← Hdf.out, hp0]; omega
                    subst df0
                    clear hp0 edf
                    go_upto_region 48 with (first
                      | (go_at_call 26; refine (end_ok RW HP).mono ?_; rintro e w6 ⟨rfl, H6⟩))
                    have B6 : Hid (Below W.heap.size W w6) := by obtain ⟨j, hj⟩ := H6.out; rw [hj]; exact below_drewN (Below.refl _ _) j
                    have N6 : Hid (NowR w w6 ((q, oO x ab nb cb) :: E0) B D lab2 k ⟨xa, xn, xc, xl⟩ ⟨G, A, C, p, GM, p⟩) := NW.out.below B6.out
                    have c6 := N6.out.cr hk (List.mem_cons_of_mem _ M0.out.2.1) PRk.out.1
                    have R6 : Hid (Rdr w6 G w.heap.size A xn C xl p) := N6.out.rd hk
                    clear H6 cR
                    go_upto_region 49 with (first
                      | (go_at_call 27; refine (lft_n R6).mono ?_; rintro e w7 ⟨rfl, H7⟩; rw [Hdf.out]))
                    have FIN : Hid (∃ (D : Nat → Rd) (lab : Nat → Nat), Sr w w7 E0 B 2 D lab ∧ InvR Gs Ms D) := by
                      obtain ⟨j, hj⟩ := H7.out
                      rw [hj]
                      exact ⟨D, lab2, ((N6.out.st.below (below_drewN (Below.refl _ _) j)).less (fun y hy => List.mem_cons_of_mem _ hy)), I5.out⟩
                    clear N6 H7 c6
                    go_wp2
                    go_roundw
                    case rel => have hl := HL.out; obtain ⟨D2, l2, h8⟩ := FIN.out; exact ⟨i + 1, D2, l2, by omega, by go_num, h8⟩
                    case measure => have hl := HL.out; simp [intOf]; omega
                  · have HP : Hid (p < xn) := by show _ < _; omega
                    have dfp : (0 : Int) < (df : Int) := by have := Hdf.out; omega
                    have dfn : ¬ ((df : Int) = 0) := by omega
                    clear hp0 edf
                    go_upto_region 48 with (first
                      | (go_at_call 26; refine (end_bad RW HP EW (by omega)).mono ?_; rintro e w6 ⟨rfl, H6⟩))
                    have B6 : Hid (Below W.heap.size W w6) := by obtain ⟨j, hj⟩ := H6.out; rw [hj]; exact below_drewN (Below.refl _ _) j
                    have N6 : Hid (NowR w w6 ((q, oO x ab nb cb) :: E0) B D lab2 k ⟨xa, xn, xc, xl⟩ ⟨G, A, C, p, GM, p⟩) := NW.out.below B6.out
                    have c6 := N6.out.cr hk (List.mem_cons_of_mem _ M0.out.2.1) PRk.out.1
                    have R6 : Hid (Rdr w6 G w.heap.size A xn C xl p) := N6.out.rd hk
                    clear H6 cR
                    go_upto_region 49 with (first
                      | (go_at_call 27; refine (lft_n R6).mono ?_; rintro e w7 ⟨rfl, H7⟩; rw [Hdf.out]
                         have ce : w7.cell? ⟨1, 0, none⟩ = some (.iface 85 (.pointer (some (E 1)))) := by obtain ⟨j, hj⟩ := H7.out; rw [hj, cell_drewN]; exact (hE.out.below N6.out.st.bel).c 1 (by omega)
                         have EQ := neq_same w7 (E 1)))
                    have FIN : Hid (∃ (D : Nat → Rd) (lab : Nat → Nat), Sr w w7 E0 B 2 D lab ∧ InvR Gs Ms D) := by
                      obtain ⟨j, hj⟩ := H7.out
                      rw [hj]
                      exact ⟨D, lab2, ((N6.out.st.below (below_drewN (Below.refl _ _) j)).less (fun y hy => List.mem_cons_of_mem _ hy)), I5.out⟩
                    clear N6 H7 c6
                    go_wp2
                    go_roundw
                    case rel => have hl := HL.out; obtain ⟨D2, l2, h8⟩ := FIN.out; exact ⟨i + 1, D2, l2, by omega, by go_num, h8⟩
                    case measure => have hl := HL.out; simp [intOf]; omega
                · have i4 : ¬ (kd = 4) := h4
                  have FIN : Hid (∃ (D : Nat → Rd) (lab : Nat → Nat), Sr w w5 E0 B 2 D lab ∧ InvR Gs Ms D) := ⟨D, lab2, N5.out.st.less (fun y hy => List.mem_cons_of_mem _ hy), I5.out⟩
                  clear h4
                  go_wp2
                  go_roundw
                  case rel => have hl := HL.out; obtain ⟨D2, l2, h8⟩ := FIN.out; exact ⟨i + 1, D2, l2, by omega, by go_num, h8⟩
                  case measure => have hl := HL.out; simp [intOf]; omega
        · go_wp2
          go_ret
          exact ⟨rfl, HR.out.1.bel⟩
end Go.Proofs.YtnhnpkedkdefnaaDoor
