import Derived.Test.YtkdgakcmhnadfaaGreatDoorMGs
/- Gu -/
/- The document's Get, for all bytes. -/
/- errors turned -/
namespace Go.Proofs.YtkdgakcmhnadfaaGreatDoor
open Go.ChangeShapes Go.WideShapes Go.ChangeAt Go.RowKit
set_option maxRecDepth 20000
set_option linter.unusedVariables false
set_option linter.unusedSimpArgs false
theorem refhead_k {w : World} {a : Option Addr} {n c k : Nat} {F : List Nat} (hS : Hid (Sln w a n F)) (hc : Hid (a = none → c = 0)) (hnc : n ≤ c) (hk : Hid ((hdF F).1 = k)) (h0 : k ≠ 0) :
    Calls Tryz.prog 68 #[.slice a n c] w fun e w' => e = .returned (.tuple #[.agg (cs .i64 Z5), .int .i64 0, .int .i64 0, .int .i64 (k : Int)]) ∧ Hid (Below w.heap.size w w') := by
  refine (refHead_n hS hc hnc).mono ?_
  rintro e w' ⟨hb, ⟨x0, x1, x2, x3, x4, x5, x6, p, h1, h2⟩ | ⟨k', h1, h2, h3⟩⟩
  · have := hk.out
    rw [h1] at this
    exact absurd this.symm h0
  · have := hk.out
    rw [h2] at this
    rw [← this]
    exact ⟨h3, hb⟩
theorem refhead_ok {w : World} {a : Option Addr} {n c : Nat} {F : List Nat} {x0 x1 x2 x3 x4 x5 x6 p : Nat} (hS : Hid (Sln w a n F)) (hc : Hid (a = none → c = 0)) (hnc : n ≤ c) (h : Hid (hdF F = (0, [x0, x1, x2, x3, x4, x5, x6], p))) :
    Calls Tryz.prog 68 #[.slice a n c] w fun e w' => e = .returned (.tuple #[.agg (cs .i64 [x1, x2, x3, x4, x5]), .int .i64 (x6 : Int), .int .i64 (p : Int), .int .i64 0]) ∧ Hid (Below w.heap.size w w') := by
  refine (refHead_n hS hc hnc).mono ?_
  rintro e w' ⟨hb, ⟨y0, y1, y2, y3, y4, y5, y6, p', h1, h2⟩ | ⟨k', h1, h2, h3⟩⟩
  · rw [h.out] at h1
    simp only [Prod.mk.injEq, List.cons.injEq, and_true, true_and] at h1
    obtain ⟨⟨_, h4, h5, h6, h7, h8, h9⟩, h10⟩ := h1
    rw [h4, h5, h6, h7, h8, h9, h10]
    exact ⟨h2, hb⟩
  · rw [h.out] at h2
    exact absurd h2.symm h1
theorem pcs_full (z : Nat) : pcs (z + 32 * blks z) = blks z := by unfold pcs blks; omega
theorem ckn_full {z i : Nat} (h : i < blks z) : ckn (z + 32 * blks z) 64 i = min 32 (z - 32 * i) + 32 ∧ 64 * i + (min 32 (z - 32 * i) + 32) ≤ z + 32 * blks z := by unfold ckn blks at *; omega
theorem pbk_at {F : List Nat} {p z i : Nat} (hl : F.length - p = z + 32 * blks z) (hp : p ≤ F.length) (hi : i < blks z) : pbk (F.drop p) i = (F.drop (p + 64 * i)).take (min 32 (z - 32 * i)) := by
  have h1 := pb_len (F.drop p) (z + 32 * blks z) i (by simp; omega)
  have h2 := ckn_full hi
  unfold pbk
  rw [h1, h2.1]
  unfold pb
  rw [List.drop_drop, List.take_take]
  congr 1
  omega
theorem pbd_at {F : List Nat} {p z i : Nat} (hl : F.length - p = z + 32 * blks z) (hp : p ≤ F.length) (hi : i < blks z) : pbd (F.drop p) i = (F.drop (p + 64 * i + min 32 (z - 32 * i))).take 32 := by
  have h1 := pb_len (F.drop p) (z + 32 * blks z) i (by simp; omega)
  have h2 := ckn_full hi
  unfold pbd
  rw [h1, h2.1]
  unfold pb
  rw [List.drop_drop, List.drop_take, List.drop_drop]
  have e : min 32 (z - 32 * i) + 32 - 32 = min 32 (z - 32 * i) := by omega
  rw [e]
  by_cases h : 32 ≤ z - 32 * i
  · rw [Nat.min_eq_left h]
  · rw [Nat.min_eq_right (by omega)]
    have hb : i + 1 = blks z := by unfold blks at *; omega
    rw [List.take_of_length_le (by simp; omega), List.take_of_length_le (by simp; omega)]
def RgEnd (w : World) (F : List Nat) (p x1 x2 x3 x4 x5 x6 : Nat) (e : Ending) (w' : World) : Prop := Below w.heap.size w w' ∧
  (((∀ i, i < blks x6 → gdB (F.drop p) i = true) ∧ ∃ a' m c', e = .returned (.tuple #[.agg (cs .i64 [x1, x2, x3, x4, x5]), .slice a' m c', .int .i64 0]) ∧ Own w' w.heap.size a' m c' (shK (F.drop p) (blks x6))) ∨
   ((∃ i, i < blks x6 ∧ gdB (F.drop p) i = false) ∧ e = .returned (.tuple #[.agg (cs .i64 Z5), .slice none 0 0, .int .i64 6])))
set_option maxHeartbeats 2000000 in
theorem refget_bad {w : World} {a : Option Addr} {n c k : Nat} {F : List Nat} (hS : Hid (Sln w a n F)) (hc : Hid (a = none → c = 0)) (hnc : n ≤ c) (hk : Hid ((hdF F).1 = k)) (h0 : k ≠ 0) :
    Calls Tryz.prog 24 #[.slice a n c] w fun e w' => e = .returned (.tuple #[.agg (cs .i64 Z5), .slice none 0 0, .int .i64 (k : Int)]) ∧ Hid (Below w.heap.size w w') := by
  obtain ⟨W0, HW0⟩ : ∃ W0, Hid (w.alloc (.cells #[.int .i64 0, .int .i64 0, .int .i64 0, .int .i64 0, .int .i64 0] 45) = W0) := ⟨_, rfl⟩
  have T0 : Hid (Stp w W0) := by rw [← HW0.out]; exact Stp.first w
  have S0 : Hid (Sln W0 a n F) := hS.out.below T0.out.bel
  have i1 : ((k : Int) == 0) = false := by simp; exact h0
  have i2 : ((k : Int) != 0) = true := by simp; exact h0
  go_enter Tryz.func24, Tryz.ntmps24
  go_wp2_with (first
    | (go_at_call 68; rw [HW0.out]; refine (refhead_k S0 hc hnc hk h0).mono ?_; rintro e w1 ⟨rfl, H1⟩
       have T1 : Hid (Stp w w1) := T0.out.below H1.out
       have A1 : Hid (Arr .i64 45 (w1.alloc (.cells (cs .i64 Z5) 45)) w1.heap.size Z5) := Arr.new _ _ _ _
       obtain ⟨WX, HWX⟩ : ∃ WX, Hid ((w1.alloc (.cells (cs .i64 Z5) 45)).setRow w1.heap.size (cs .i64 Z5) = WX) := ⟨_, rfl⟩
       have TX : Hid (Stp w WX) := by rw [← HWX.out]; exact T1.out.below (below_arr w1 _ _ _ _)
       have AX : Hid (Arr .i64 45 WX w.heap.size Z5) := TX.out.out)
    | (refine wpList_st0 (k := .i64) (t := 45) (l := Z5) (l2 := Z5) (by rfl) (by rfl) 45 (.tmp 5) (.tmp 16) (by rfl) (by rfl) (by rfl) A1 sz25s (by rfl) ?_; refine (show _ = WX from HWX.out) ▸ ?_)
    | (refine wpList_st0 (k := .i64) (t := 45) (l := Z5) (l2 := Z5) (by rfl) (by rfl) 45 (.tmp 2) (.tmp 22) (by rfl) (by rfl) (by rfl) AX sz25s (by rfl) ?_))
  have FIN : Hid (Below w.heap.size w (WX.setRow w.heap.size (cs .i64 Z5))) := (Oth.setRow _).below TX.out.bel (Nat.le_refl _)
  refine bodyPost_ret (res_arr3 (by rfl) (by rfl) (AX.out.setRow Z5) und25s sz25s) rfl ?_
  exact ⟨rfl, FIN.out⟩
set_option maxHeartbeats 2000000 in
theorem refget_len {w : World} {a : Option Addr} {n c : Nat} {F : List Nat} {x0 x1 x2 x3 x4 x5 x6 p : Nat} (hS : Hid (Sln w a n F)) (hc : Hid (a = none → c = 0)) (hnc : n ≤ c) (h : Hid (hdF F = (0, [x0, x1, x2, x3, x4, x5, x6], p))) (hl : Hid (n - p ≠ x6 + 32 * blks x6)) :
    Calls Tryz.prog 24 #[.slice a n c] w fun e w' => e = .returned (.tuple #[.agg (cs .i64 Z5), .slice none 0 0, .int .i64 5]) ∧ Hid (Below w.heap.size w w') := by
  obtain ⟨W0, HW0⟩ : ∃ W0, Hid (w.alloc (.cells #[.int .i64 0, .int .i64 0, .int .i64 0, .int .i64 0, .int .i64 0] 45) = W0) := ⟨_, rfl⟩
  have T0 : Hid (Stp w W0) := by rw [← HW0.out]; exact Stp.first w
  have S0 : Hid (Sln W0 a n F) := hS.out.below T0.out.bel
  have x6b : x6 ≤ 1024 := hdF_six h.out
  have pn : p ≤ n := by have h5 := hdF_le h.out; have h6 := hS.out.len; omega
  have nb : n ≤ 140737488352256 := by rw [hS.out.len]; exact hS.out.sli.2.1
  obtain ⟨m, HMM⟩ : ∃ m, Hid (n - p = m) := ⟨_, rfl⟩
  obtain ⟨bq, HBQ⟩ : ∃ bq, Hid ((x6 + 31) / 32 = bq) := ⟨_, rfl⟩
  obtain ⟨bs, HBS⟩ : ∃ bs, Hid (x6 + 32 * ((x6 + 31) / 32) = bs) := ⟨_, rfl⟩
  have e1 : (n : Int) - (p : Int) = (m : Int) := by have := HMM.out; omega
  have e2 : ((x6 : Int) + 31) / 32 = (bq : Int) := by have := HBQ.out; omega
  have e3 : (x6 : Int) + 32 * (bq : Int) = (bs : Int) := by have := HBQ.out; have := HBS.out; omega
  have bqb : bq ≤ 32 := by have := HBQ.out; omega
  have i1 : ((m : Int) == (bs : Int)) = false := by have h7 := hl.out; unfold blks at h7; have h8 := HBS.out; have h9 := HMM.out; simp; omega
  have i2 : ((m : Int) != (bs : Int)) = true := by simp at i1 ⊢; exact i1
  go_enter Tryz.func24, Tryz.ntmps24
  go_wp2_with (first
    | (go_at_call 68; rw [HW0.out]; refine (refhead_ok S0 hc hnc h).mono ?_; rintro e w1 ⟨rfl, H1⟩
       have T1 : Hid (Stp w w1) := T0.out.below H1.out
       have A1 : Hid (Arr .i64 45 (w1.alloc (.cells (cs .i64 Z5) 45)) w1.heap.size Z5) := Arr.new _ _ _ _
       obtain ⟨WX, HWX⟩ : ∃ WX, Hid ((w1.alloc (.cells (cs .i64 Z5) 45)).setRow w1.heap.size (cs .i64 [x1, x2, x3, x4, x5]) = WX) := ⟨_, rfl⟩
       have TX : Hid (Stp w WX) := by rw [← HWX.out]; exact T1.out.below (below_arr w1 _ _ _ _)
       have AX : Hid (Arr .i64 45 WX w.heap.size Z5) := TX.out.out
       have AT : Hid (Arr .i64 45 WX w1.heap.size [x1, x2, x3, x4, x5]) := by rw [← HWX.out]; exact A1.out.setRow _)
    | (refine wpList_st0 (k := .i64) (t := 45) (l := Z5) (l2 := [x1, x2, x3, x4, x5]) (by rfl) (by rfl) 45 (.tmp 5) (.tmp 16) (by rfl) (by rfl) (by rfl) A1 sz25s (by rfl) ?_; refine (show _ = WX from HWX.out) ▸ ?_)
    | (refine wpList_st0 (k := .i64) (t := 45) (l := Z5) (l2 := Z5) (by rfl) (by rfl) 45 (.tmp 2) (.tmp 35) (by rfl) (by rfl) (by rfl) AX sz25s (by rfl) ?_))
  have FIN : Hid (Below w.heap.size w (WX.setRow w.heap.size (cs .i64 Z5))) := (Oth.setRow _).below TX.out.bel (Nat.le_refl _)
  refine bodyPost_ret (res_arr3 (by rfl) (by rfl) (AX.out.setRow Z5) und25s sz25s) rfl ?_
  exact ⟨rfl, FIN.out⟩
end Go.Proofs.YtkdgakcmhnadfaaGreatDoor

/- Gv -/
/- The document's Get behind a good head: the loop over the blocks. -/
/- errors turned -/
namespace Go.Proofs.YtkdgakcmhnadfaaGreatDoor
open Go.ChangeShapes Go.WideShapes Go.ChangeAt Go.RowKit
set_option maxRecDepth 20000
set_option linter.unusedVariables false
set_option linter.unusedSimpArgs false
/- while the blocks are gone over -/
structure Rg (w wr : World) (gs : Nat) (S5 : List Nat) (a : Option Addr) (n : Nat) (F : List Nat) (ao : Option Addr) (no co : Nat) (L : List Nat) : Prop where
  out : Arr .i64 45 wr w.heap.size Z5
  st : Arr .i64 45 wr gs S5
  gs1 : w.heap.size < gs
  sl : Sln wr a n F
  own : Own wr w.heap.size ao no co L
  ne : ∀ q, blkOf ao = some q → gs < q
  bel : Below w.heap.size w wr
theorem Rg.below {w wr w2 : World} {gs : Nat} {S5 : List Nat} {a : Option Addr} {n : Nat} {F : List Nat} {ao : Option Addr} {no co : Nat} {L : List Nat} (h : Rg w wr gs S5 a n F ao no co L) (hb : Below wr.heap.size wr w2) : Rg w w2 gs S5 a n F ao no co L :=
  ⟨h.out.below hb h.out.lt, h.st.below hb h.st.lt, h.gs1, h.sl.below hb, h.own.below hb, h.ne, h.bel.trans (hb.mono h.bel.size)⟩
theorem Rg.app {w wr : World} {gs : Nat} {S5 : List Nat} {a : Option Addr} {n : Nat} {F : List Nat} {ao : Option Addr} {no co : Nat} {L : List Nat} (h : Rg w wr gs S5 a n F ao no co L) (hd : ∀ b off, F ≠ [] → a = some ⟨b, off, none⟩ → b < w.heap.size) {a2 : Option Addr} {m c2 : Nat} {l2 : List Nat} (hS : Sln wr a2 m l2) (hc : a2 = none → c2 = 0) (hb : no + m ≤ 140737488352256) :
    ∃ a' c' w', Hid ((Builtin.append_ #[33, 33] 33 #[.slice ao no co, .slice a2 m c2]).run Tryz.prog wr = .ok (.slice a' (no + m) c') w') ∧ Rg w w' gs S5 a n F a' (no + m) c' (L ++ l2) := by
  obtain ⟨a', c', w', hrun, own', gr, new⟩ := app_any h.own hS hc hb h.bel.size
  have g1 := h.gs1
  have b : Below (gs + 1) wr w' := (Below.refl (gs + 1) wr).grown gr (by have := h.st.lt; omega) (fun j hj => by have := h.ne j hj; omega)
  refine ⟨a', c', w', hrun, ⟨h.out.below b (by omega), h.st.below b (by omega), g1, sln_block h.sl b (fun b off h1 h2 => by have := hd b off h1 h2; omega), own', ?_, h.bel.trans (b.mono (by omega))⟩⟩
  intro q hq
  rcases new q hq with h1 | h1
  · exact h.ne q h1
  · have := h.st.lt; omega
set_option maxHeartbeats 8000000 in
theorem refget_n {w : World} {a : Option Addr} {n c : Nat} {F : List Nat} {x0 x1 x2 x3 x4 x5 x6 p : Nat} (hS : Hid (Sln w a n F)) (hc : Hid (a = none → c = 0)) (hnc : n ≤ c) (h : Hid (hdF F = (0, [x0, x1, x2, x3, x4, x5, x6], p))) (hl : Hid (n - p = x6 + 32 * blks x6)) :
    Calls Tryz.prog 24 #[.slice a n c] w fun e w' => RgEnd w F p x1 x2 x3 x4 x5 x6 e w' := by
  obtain ⟨W0, HW0⟩ : ∃ W0, Hid (w.alloc (.cells #[.int .i64 0, .int .i64 0, .int .i64 0, .int .i64 0, .int .i64 0] 45) = W0) := ⟨_, rfl⟩
  have T0 : Hid (Stp w W0) := by rw [← HW0.out]; exact Stp.first w
  have S0 : Hid (Sln W0 a n F) := hS.out.below T0.out.bel
  have x6b : x6 ≤ 1024 := hdF_six h.out
  have pn : p ≤ n := by have h5 := hdF_le h.out; have h6 := hS.out.len; omega
  have nb : n ≤ 140737488352256 := by rw [hS.out.len]; exact hS.out.sli.2.1
  obtain ⟨m, HMM⟩ : ∃ m, Hid (n - p = m) := ⟨_, rfl⟩
  obtain ⟨bq, HBQ⟩ : ∃ bq, Hid ((x6 + 31) / 32 = bq) := ⟨_, rfl⟩
  obtain ⟨bs, HBS⟩ : ∃ bs, Hid (x6 + 32 * ((x6 + 31) / 32) = bs) := ⟨_, rfl⟩
  have e1 : (n : Int) - (p : Int) = (m : Int) := by have := HMM.out; omega
  have e2 : ((x6 : Int) + 31) / 32 = (bq : Int) := by have := HBQ.out; omega
  have e3 : (x6 : Int) + 32 * (bq : Int) = (bs : Int) := by have := HBQ.out; have := HBS.out; omega
  have bqb : bq ≤ 32 := by have := HBQ.out; omega
  have i1 : ((m : Int) == (bs : Int)) = true := by have h7 := hl.out; unfold blks at h7; have h8 := HBS.out; have h9 := HMM.out; simp; omega
  have i2 : ((m : Int) != (bs : Int)) = false := by simp at i1 ⊢; exact i1
  have LF : Hid (F.length - p = x6 + 32 * blks x6 ∧ p ≤ F.length ∧ n = F.length) := ⟨by rw [← hS.out.len]; exact hl.out, by rw [← hS.out.len]; exact pn, hS.out.len⟩
  have DA : Hid (∀ b off, F ≠ [] → a = some ⟨b, off, none⟩ → b < w.heap.size) := sli_lt hS.out
  go_enter Tryz.func24, Tryz.ntmps24
  go_upto_region 6 with (first
    | (go_at_call 68; rw [HW0.out]; refine (refhead_ok S0 hc hnc h).mono ?_; rintro e w1 ⟨rfl, H1⟩
       have T1 : Hid (Stp w w1) := T0.out.below H1.out
       have A1 : Hid (Arr .i64 45 (w1.alloc (.cells (cs .i64 Z5) 45)) w1.heap.size Z5) := Arr.new _ _ _ _
       obtain ⟨WX, HWX⟩ : ∃ WX, Hid ((w1.alloc (.cells (cs .i64 Z5) 45)).setRow w1.heap.size (cs .i64 [x1, x2, x3, x4, x5]) = WX) := ⟨_, rfl⟩
       have TX : Hid (Stp w WX) := by rw [← HWX.out]; exact T1.out.below (below_arr w1 _ _ _ _)
       have AX : Hid (Arr .i64 45 WX w.heap.size Z5) := TX.out.out
       have AT : Hid (Arr .i64 45 WX w1.heap.size [x1, x2, x3, x4, x5]) := by rw [← HWX.out]; exact A1.out.setRow _)
    | (refine wpList_st0 (k := .i64) (t := 45) (l := Z5) (l2 := [x1, x2, x3, x4, x5]) (by rfl) (by rfl) 45 (.tmp 5) (.tmp 16) (by rfl) (by rfl) (by rfl) A1 sz25s (by rfl) ?_; refine (show _ = WX from HWX.out) ▸ ?_))
  obtain ⟨gs, HGS⟩ : ∃ gs, Hid (w1.heap.size = gs) := ⟨_, rfl⟩
  have R1 : Hid (Rg w (WX.alloc (.cells #[] 5)) gs [x1, x2, x3, x4, x5] a n F (some ⟨WX.heap.size, 0, none⟩) 0 0 []) := by
    have b1 : Below WX.heap.size WX (WX.alloc (.cells #[] 5)) := (Below.refl _ _).alloc (Nat.le_refl _) _
    have g1 := T1.out.out.lt
    have g2 := AT.out.lt
    rw [← HGS.out]
    refine ⟨AX.out.below b1 AX.out.lt, AT.out.below b1 g2, g1, (hS.out.below TX.out.bel).below b1, (own_empty WX).base TX.out.bel.size, fun q hq => ?_, TX.out.bel.trans (b1.mono TX.out.bel.size)⟩
    cases hq
    exact g2
  clear T1 A1 HWX H1 e1 e2 e3 i1 i2
  go_wp2
  rw [HGS.out]
  clear HGS
  go_loopw [6, 7, 9] (fun tr tq tt wr => ∃ (i r q : Nat) (ao : Option Addr) (no co : Nat), tr = .int .i64 (r : Int) ∧ tq = .int .i64 (q : Int) ∧ tt = .slice ao no co ∧ r ≤ 1024 ∧ Hid (r = x6 - 32 * i ∧ i ≤ blks x6 ∧ (0 < r → q = p + 64 * i) ∧ no ≤ 32 * i ∧ Rg w wr gs [x1, x2, x3, x4, x5] a n F ao no co (shK (F.drop p) i) ∧ ∀ j, j < i → gdB (F.drop p) j = true)) (fun tr _ _ _ => (intOf tr).toNat)
  case atStart => exact ⟨0, x6, p, _, 0, 0, rfl, rfl, rfl, x6b, by omega, by omega, fun _ => by omega, by omega, R1.out, fun j hj => by omega⟩
  case round =>
    clear R1
    obtain ⟨i, r, q, ao, no, co, rfl, rfl, rfl, hr, HI⟩ := hrel
    have RI : Hid (Rg w wr gs [x1, x2, x3, x4, x5] a n F ao no co (shK (F.drop p) i)) := HI.out.2.2.2.2.1
    by_cases hlt : 0 < r
    · have i1 : (0 : Int) < (r : Int) := by omega
      have hib : i < blks x6 := by have h7 := HI.out.1; unfold blks; omega
      have hq : q = p + 64 * i := HI.out.2.2.1 hlt
      obtain ⟨z, HZ⟩ : ∃ z, Hid (min 32 (x6 - 32 * i) = z) := ⟨_, rfl⟩
      have hz1 : 1 ≤ z := by have h7 := HZ.out; have h8 := HI.out.1; omega
      have hz2 : z ≤ 32 := by have h7 := HZ.out; omega
      have hzr : z ≤ r := by have h7 := HZ.out; have h8 := HI.out.1; omega
      have hqz : q + (z + 32) ≤ n := by have h7 := (ckn_full hib).2; have h8 := HZ.out; have h9 := LF.out; rw [h8] at h7; omega
      have em : (if (32 : Int) < (r : Int) then (32 : Int) else (r : Int)) = (z : Int) := by have h7 := HZ.out; have h8 := HI.out.1; split <;> omega
      obtain ⟨u, HU⟩ : ∃ u, Hid (q + z = u) := ⟨_, rfl⟩
      obtain ⟨v, HV⟩ : ∃ v, Hid (q + z + 32 = v) := ⟨_, rfl⟩
      have eu : (q : Int) + (z : Int) = (u : Int) := by have := HU.out; omega
      have ev : (u : Int) + 32 = (v : Int) := by have := HU.out; have := HV.out; omega
      have ub : u ≤ n ∧ v ≤ n := by have := HU.out; have := HV.out; exact ⟨by omega, by omega⟩
      have wu : IntKind.i64.wrap (u : Int) = (u : Int) := by rw [IntKind.wrap_i64]; omega
      have wv8 : IntKind.i64.wrap (v : Int) = (v : Int) := by rw [IntKind.wrap_i64]; omega
      have hu1 : q ≤ u := by have := HU.out; omega
      have hu2 : u ≤ c := by have := HU.out; omega
      have hv1 : u ≤ v := by have := HU.out; have := HV.out; omega
      have hv2 : v ≤ c := by have := HV.out; omega
      have uq : u - q = z := by have := HU.out; omega
      have vu : v - u = 32 := by have := HU.out; have := HV.out; omega
      have cq : ¬ (c = q) := by omega
      have cu : ¬ (c = u) := by omega
      obtain ⟨P, HP⟩ : ∃ P, Hid (pbk (F.drop p) i = P) := ⟨_, rfl⟩
      obtain ⟨d2, HD⟩ : ∃ d2, Hid (pbd (F.drop p) i = d2) := ⟨_, rfl⟩
      have Fne : F ≠ [] := fun e => by have h7 := LF.out.2.2; rw [e] at h7; simp at h7; omega
      obtain ⟨b, off, hab, hbl, _⟩ := hS.out.sli.2.2.resolve_left Fne
      have SP : Hid (∀ W, Sln W a n F → Sln W (some ⟨b, off + q, none⟩) z P ∧ Sln W (some ⟨b, off + u, none⟩) 32 d2) := by
        intro W hW
        have k1 := slice_from hW (lo := q) (by omega) hnc
        have k2 := k1.take (k := z) (by omega)
        have k3 := slice_from hW (lo := u) (by have := HU.out; omega) hnc
        have k4 := k3.take (k := 32) (by have := HU.out; omega)
        rw [if_neg cq, hab] at k2
        rw [if_neg cu, hab] at k4
        have e4 : (some (⟨b, off, none⟩ : Addr)).map (·.add q) = some ⟨b, off + q, none⟩ := by simp [Addr.add]
        have e5 : (some (⟨b, off, none⟩ : Addr)).map (·.add u) = some ⟨b, off + u, none⟩ := by simp [Addr.add] <;> omega
        rw [e4] at k2
        rw [e5] at k4
        have e6 : (F.drop q).take z = P := by rw [← HP.out, pbk_at LF.out.1 LF.out.2.1 hib, HZ.out, hq]
        have e7 : (F.drop u).take 32 = d2 := by rw [← HD.out, pbd_at LF.out.1 LF.out.2.1 hib, HZ.out, ← hq, HU.out]
        rw [e6] at k2
        rw [e7] at k4
        exact ⟨k2, k4⟩
      have S1 : Hid (Sln wr (some ⟨b, off + q, none⟩) z P) := (SP.out wr RI.out.sl).1
      have Z1 : Hid ((some (⟨b, off + q, none⟩ : Addr)) = none → c - q = 0) := fun h => by cases h
      have HIB : Hid (i < blks x6 ∧ q = p + 64 * i) := ⟨hib, hq⟩
      have cqq : z ≤ c - q := by omega
      subst hab
      clear hq hib Fne hbl
      go_wp2_with (first
        | (go_at_call 52; refine (shrefsum_n _ (some ⟨b, off + q, none⟩) z (c - q) P S1 Z1).mono ?_; rintro e w5 ⟨dg, rfl, H5⟩
           have A5 : Hid (Arr .u8 89 (w5.alloc (.cells (cs .u8 Zb32) 89)) w5.heap.size Zb32) := Arr.new _ _ _ _
           have L5 : Hid (dg.length = 32 ∧ (∀ y ∈ dg, y < 256) ∧ dg = Gs.sum P) := by rw [H5.out.1]; exact ⟨sum_len _, sum_bytes _, rfl⟩
           obtain ⟨W6, HW6⟩ : ∃ W6, Hid ((w5.alloc (.cells (cs .u8 Zb32) 89)).setRow w5.heap.size (cs .u8 dg) = W6) := ⟨_, rfl⟩
           have A6 : Hid (Arr .u8 89 W6 w5.heap.size dg) := by rw [← HW6.out]; exact A5.out.setRow dg
           have b6 : Below wr.heap.size wr W6 := by rw [← HW6.out]; exact H5.out.2.trans ((below_arr w5 _ _ _ _).mono H5.out.2.size)
           have R6 : Hid (Rg w W6 gs [x1, x2, x3, x4, x5] (some ⟨b, off, none⟩) n F ao no co (shK (F.drop p) i)) := RI.out.below b6
           clear b6)
        | (refine wpList_st0 (t := 89) (l := Zb32) (l2 := dg) (by rfl) (by rfl) 89 (.tmp 12) (.tmp 48) (by rfl) (by rfl) (by rfl) A5 (by rw [L5.out.1]; exact sz25) (by rw [L5.out.1]; rfl) ?_; refine (show _ = W6 from HW6.out) ▸ ?_))
      obtain ⟨gd, HGD⟩ : ∃ gd, Hid (w5.heap.size = gd) := ⟨_, rfl⟩
      rw [HGD.out] at A6 ⊢
      have bdr : Below W6.heap.size W6 W6.drew := (Below.refl _ _).drew
      have R7 : Hid (Rg w W6.drew gs [x1, x2, x3, x4, x5] (some ⟨b, off, none⟩) n F ao no co (shK (F.drop p) i)) := R6.out.below bdr
      have SD := SP.out W6.drew R7.out.sl
      have AD : Arr .u8 89 W6.drew gd dg := A6.out
      have CV1 := conv_n (k := 32) (show Hid (Sln W6.drew (some ⟨gd, 0, none⟩) 32 dg) from arr_sln AD L5.out.1.symm L5.out.2.1 (by omega))
      have CV2 := conv_n (k := c - u) (show Hid (Sln W6.drew (some ⟨b, off + u, none⟩) 32 d2) from SD.2)
      have S0' := And.intro CV1 CV2
      obtain ⟨eb, HEB⟩ : ∃ eb, Hid (decide (dg = d2) = eb) := ⟨_, rfl⟩
      have BE : ((spell dg).toList == (spell d2).toList) = eb := by rw [spell_beq L5.out.2.1 SD.2.lt]; exact HEB.out
      have GD : Hid (gdB (F.drop p) i = eb) := by unfold gdB; rw [HP.out, HD.out, ← L5.out.2.2]; exact HEB.out
      have SQ : Hid (Sln W6.drew (some ⟨b, off + q, none⟩) z P) := SD.1
      clear CV1 CV2 SD AD R6 A6 A5 HW6 bdr H5 S1 Z1 HGD
      cases eb with
      | false =>
        refine wp_region_till (S := fun L W => (convert 33 9 (.slice (some ⟨gd, 0, none⟩) 32 32)).run Tryz.prog W = .ok (.string (spell dg)) W ∧ (convert 33 9 (.slice (some ⟨b, off + u, none⟩) 32 (c - u))).run Tryz.prog W = .ok (.string (spell d2)) W) (by kernel_rfl) S0' (fun hS => ?_)
        clear S0'
        refine till_take (i := 0) (v := .slice (some ⟨gd, 0, none⟩) 32 32) rfl (by kernel_rfl) (by kernel_rfl) (by kernel_rfl) (fun _ _ _ h => h) (fun L w => Iff.rfl) (Or.inl ⟨by rfl, fun w => by go_simp⟩) hS (fun hSb => ?_)
        simp only [List.getElem_toArray, List.getElem_cons_zero, List.getElem_cons_succ, Act.put, List.setIfInBounds_toArray, List.set_cons_zero, List.set_cons_succ]
        clear hS
        refine till_take (i := 2) (v := .slice (some ⟨b, off, none⟩) n c) rfl (by kernel_rfl) (by kernel_rfl) (by kernel_rfl) (fun _ _ _ h => h) (fun L w => Iff.rfl) (Or.inl ⟨by rfl, fun w => by go_simp⟩) hSb (fun hS => ?_)
        simp only [List.getElem_toArray, List.getElem_cons_zero, List.getElem_cons_succ, Act.put, List.setIfInBounds_toArray, List.set_cons_zero, List.set_cons_succ]
        clear hSb
        refine till_take (i := 3) (v := .int .i64 (q : Int)) rfl (by kernel_rfl) (by kernel_rfl) (by kernel_rfl) (fun _ _ _ h => h) (fun L w => Iff.rfl) (Or.inl ⟨by rfl, fun w => by go_simp⟩) hS (fun hSb => ?_)
        simp only [List.getElem_toArray, List.getElem_cons_zero, List.getElem_cons_succ, Act.put, List.setIfInBounds_toArray, List.set_cons_zero, List.set_cons_succ]
        clear hS
        refine till_take (i := 4) (v := .int .i64 (z : Int)) rfl (by kernel_rfl) (by kernel_rfl) (by kernel_rfl) (fun _ _ _ h => h) (fun L w => Iff.rfl) (Or.inl ⟨by rfl, fun w => by go_simp⟩) hSb (fun hS => ?_)
        simp only [List.getElem_toArray, List.getElem_cons_zero, List.getElem_cons_succ, Act.put, List.setIfInBounds_toArray, List.set_cons_zero, List.set_cons_succ]
        clear hSb
        refine till_take (i := 5) (v := .int .i64 (u : Int)) rfl (by kernel_rfl) (by kernel_rfl) (by kernel_rfl) (fun _ _ _ h => h) (fun L w => Iff.rfl) (Or.inl ⟨by rfl, fun w => by go_simp⟩) hS (fun hSb => ?_)
        simp only [List.getElem_toArray, List.getElem_cons_zero, List.getElem_cons_succ, Act.put, List.setIfInBounds_toArray, List.set_cons_zero, List.set_cons_succ]
        clear hS
        refine till_take (i := 6) (v := .int .i64 (q : Int)) rfl (by kernel_rfl) (by kernel_rfl) (by kernel_rfl) (fun _ _ _ h => h) (fun L w => Iff.rfl) (Or.inl ⟨by rfl, fun w => by go_simp⟩) hSb (fun hS => ?_)
        simp only [List.getElem_toArray, List.getElem_cons_zero, List.getElem_cons_succ, Act.put, List.setIfInBounds_toArray, List.set_cons_zero, List.set_cons_succ]
        clear hSb
        refine till_take (i := 7) (v := .int .i64 (z : Int)) rfl (by kernel_rfl) (by kernel_rfl) (by kernel_rfl) (fun _ _ _ h => h) (fun L w => Iff.rfl) (Or.inl ⟨by rfl, fun w => by go_simp⟩) hS (fun hSb => ?_)
        simp only [List.getElem_toArray, List.getElem_cons_zero, List.getElem_cons_succ, Act.put, List.setIfInBounds_toArray, List.set_cons_zero, List.set_cons_succ]
        clear hS
        refine till_take (i := 8) (v := .int .i64 (u : Int)) rfl (by kernel_rfl) (by kernel_rfl) (by kernel_rfl) (fun _ _ _ h => h) (fun L w => Iff.rfl) (Or.inl ⟨by rfl, fun w => by go_simp⟩) hSb (fun hS => ?_)
        simp only [List.getElem_toArray, List.getElem_cons_zero, List.getElem_cons_succ, Act.put, List.setIfInBounds_toArray, List.set_cons_zero, List.set_cons_succ]
        clear hSb
        refine till_take (i := 9) (v := .int .i64 (v : Int)) rfl (by kernel_rfl) (by kernel_rfl) (by kernel_rfl) (fun _ _ _ h => h) (fun L w => Iff.rfl) (Or.inl ⟨by rfl, fun w => by go_simp⟩) hS (fun hSb => ?_)
        simp only [List.getElem_toArray, List.getElem_cons_zero, List.getElem_cons_succ, Act.put, List.setIfInBounds_toArray, List.set_cons_zero, List.set_cons_succ]
        clear hS
        refine till_take (i := 10) (v := .slice (some ⟨b, off + u, none⟩) 32 (c - u)) rfl (by kernel_rfl) (by kernel_rfl) (by kernel_rfl) (fun _ _ _ h => h) (fun L w => Iff.rfl) (Or.inl ⟨by rfl, fun w => by go_simp⟩) hSb (fun hS => ?_)
        simp only [List.getElem_toArray, List.getElem_cons_zero, List.getElem_cons_succ, Act.put, List.setIfInBounds_toArray, List.set_cons_zero, List.set_cons_succ]
        clear hSb
        refine till_read (i := 1) (c := 12) (v := .string (spell dg)) (T := fun W => (convert 33 9 (.slice (some ⟨gd, 0, none⟩) 32 32)).run Tryz.prog W = .ok (.string (spell dg)) W) rfl rfl (by kernel_rfl) (by kernel_rfl) (by kernel_rfl) (by kernel_rfl) (by kernel_rfl) (fun _ _ _ h => h) (fun L w => Iff.rfl) (fun L w h1 h2 => h2.1) (Or.inl ⟨by rfl, fun w hSw => by (try dsimp only at hSw); go_simp⟩) hS (fun hSb => ?_)
        simp only [List.getElem_toArray, List.getElem_cons_zero, List.getElem_cons_succ, Act.put, List.setIfInBounds_toArray, List.set_cons_zero, List.set_cons_succ]
        clear hS
        refine till_read (i := 11) (c := 12) (v := .string (spell d2)) (T := fun W => (convert 33 9 (.slice (some ⟨b, off + u, none⟩) 32 (c - u))).run Tryz.prog W = .ok (.string (spell d2)) W) rfl rfl (by kernel_rfl) (by kernel_rfl) (by kernel_rfl) (by kernel_rfl) (by kernel_rfl) (fun _ _ _ h => h) (fun L w => Iff.rfl) (fun L w h1 h2 => h2.2) (Or.inl ⟨by rfl, fun w hSw => by (try dsimp only at hSw); go_simp⟩) hSb (fun hS => ?_)
        simp only [List.getElem_toArray, List.getElem_cons_zero, List.getElem_cons_succ, Act.put, List.setIfInBounds_toArray, List.set_cons_zero, List.set_cons_succ]
        clear hSb
        refine till_one (i := 12) (by kernel_rfl) rfl (fun K hK => ?_)
        simp only [List.getElem_toArray, List.getElem_cons_zero, List.getElem_cons_succ]
        rw [if_pos (by rfl)]
        go_simp
        refine hK.out _ _ (hS) (fun hSb => ?_)
        clear hK K
        try simp only [List.getElem_toArray, List.getElem_cons_zero, List.getElem_cons_succ, Act.put, List.setIfInBounds_toArray, List.set_cons_zero, List.set_cons_succ]
        clear hS
        refine till_done (by kernel_rfl) ?_ _
        clear hSb
        have A7 : Hid (Arr .i64 45 W6.drew w.heap.size Z5) := R7.out.out
        go_wp2_with (refine wpList_st0 (k := .i64) (t := 45) (l := Z5) (l2 := Z5) (by rfl) (by rfl) 45 (.tmp 2) (.tmp 62) (by rfl) (by rfl) (by rfl) A7 sz25s (by rfl) ?_)
        have FIN : RgEnd w F p x1 x2 x3 x4 x5 x6 (.returned (.tuple #[.agg (cs .i64 Z5), .slice none 0 0, .int .i64 6])) (W6.drew.setRow w.heap.size (cs .i64 Z5)) := ⟨(Oth.setRow _).below R7.out.bel (Nat.le_refl _), .inr ⟨⟨i, HIB.out.1, GD.out⟩, rfl⟩⟩
        refine bodyPost_ret (res_arr3 (by rfl) (by rfl) (A7.out.setRow Z5) und25s sz25s) rfl ?_
        exact FIN
      | true =>
        obtain ⟨a8, c8, W8, AP, R8⟩ := R7.out.app (c2 := c - q) DA.out SQ.out (by simp) (by have h7 := HI.out.2.2.2.1; have h8 := HIB.out.1; unfold blks at h8; omega)
        refine wp_region_till (S := fun L W => (convert 33 9 (.slice (some ⟨gd, 0, none⟩) 32 32)).run Tryz.prog W = .ok (.string (spell dg)) W ∧ (convert 33 9 (.slice (some ⟨b, off + u, none⟩) 32 (c - u))).run Tryz.prog W = .ok (.string (spell d2)) W) (by kernel_rfl) S0' (fun hS => ?_)
        clear S0'
        refine till_take (i := 0) (v := .slice (some ⟨gd, 0, none⟩) 32 32) rfl (by kernel_rfl) (by kernel_rfl) (by kernel_rfl) (fun _ _ _ h => h) (fun L w => Iff.rfl) (Or.inl ⟨by rfl, fun w => by go_simp⟩) hS (fun hSb => ?_)
        simp only [List.getElem_toArray, List.getElem_cons_zero, List.getElem_cons_succ, Act.put, List.setIfInBounds_toArray, List.set_cons_zero, List.set_cons_succ]
        clear hS
        refine till_take (i := 2) (v := .slice (some ⟨b, off, none⟩) n c) rfl (by kernel_rfl) (by kernel_rfl) (by kernel_rfl) (fun _ _ _ h => h) (fun L w => Iff.rfl) (Or.inl ⟨by rfl, fun w => by go_simp⟩) hSb (fun hS => ?_)
        simp only [List.getElem_toArray, List.getElem_cons_zero, List.getElem_cons_succ, Act.put, List.setIfInBounds_toArray, List.set_cons_zero, List.set_cons_succ]
        clear hSb
        refine till_take (i := 3) (v := .int .i64 (q : Int)) rfl (by kernel_rfl) (by kernel_rfl) (by kernel_rfl) (fun _ _ _ h => h) (fun L w => Iff.rfl) (Or.inl ⟨by rfl, fun w => by go_simp⟩) hS (fun hSb => ?_)
        simp only [List.getElem_toArray, List.getElem_cons_zero, List.getElem_cons_succ, Act.put, List.setIfInBounds_toArray, List.set_cons_zero, List.set_cons_succ]
        clear hS
        refine till_take (i := 4) (v := .int .i64 (z : Int)) rfl (by kernel_rfl) (by kernel_rfl) (by kernel_rfl) (fun _ _ _ h => h) (fun L w => Iff.rfl) (Or.inl ⟨by rfl, fun w => by go_simp⟩) hSb (fun hS => ?_)
        simp only [List.getElem_toArray, List.getElem_cons_zero, List.getElem_cons_succ, Act.put, List.setIfInBounds_toArray, List.set_cons_zero, List.set_cons_succ]
        clear hSb
        refine till_take (i := 5) (v := .int .i64 (u : Int)) rfl (by kernel_rfl) (by kernel_rfl) (by kernel_rfl) (fun _ _ _ h => h) (fun L w => Iff.rfl) (Or.inl ⟨by rfl, fun w => by go_simp⟩) hS (fun hSb => ?_)
        simp only [List.getElem_toArray, List.getElem_cons_zero, List.getElem_cons_succ, Act.put, List.setIfInBounds_toArray, List.set_cons_zero, List.set_cons_succ]
        clear hS
        refine till_take (i := 6) (v := .int .i64 (q : Int)) rfl (by kernel_rfl) (by kernel_rfl) (by kernel_rfl) (fun _ _ _ h => h) (fun L w => Iff.rfl) (Or.inl ⟨by rfl, fun w => by go_simp⟩) hSb (fun hS => ?_)
        simp only [List.getElem_toArray, List.getElem_cons_zero, List.getElem_cons_succ, Act.put, List.setIfInBounds_toArray, List.set_cons_zero, List.set_cons_succ]
        clear hSb
        refine till_take (i := 7) (v := .int .i64 (z : Int)) rfl (by kernel_rfl) (by kernel_rfl) (by kernel_rfl) (fun _ _ _ h => h) (fun L w => Iff.rfl) (Or.inl ⟨by rfl, fun w => by go_simp⟩) hS (fun hSb => ?_)
        simp only [List.getElem_toArray, List.getElem_cons_zero, List.getElem_cons_succ, Act.put, List.setIfInBounds_toArray, List.set_cons_zero, List.set_cons_succ]
        clear hS
        refine till_take (i := 8) (v := .int .i64 (u : Int)) rfl (by kernel_rfl) (by kernel_rfl) (by kernel_rfl) (fun _ _ _ h => h) (fun L w => Iff.rfl) (Or.inl ⟨by rfl, fun w => by go_simp⟩) hSb (fun hS => ?_)
        simp only [List.getElem_toArray, List.getElem_cons_zero, List.getElem_cons_succ, Act.put, List.setIfInBounds_toArray, List.set_cons_zero, List.set_cons_succ]
        clear hSb
        refine till_take (i := 9) (v := .int .i64 (v : Int)) rfl (by kernel_rfl) (by kernel_rfl) (by kernel_rfl) (fun _ _ _ h => h) (fun L w => Iff.rfl) (Or.inl ⟨by rfl, fun w => by go_simp⟩) hS (fun hSb => ?_)
        simp only [List.getElem_toArray, List.getElem_cons_zero, List.getElem_cons_succ, Act.put, List.setIfInBounds_toArray, List.set_cons_zero, List.set_cons_succ]
        clear hS
        refine till_take (i := 10) (v := .slice (some ⟨b, off + u, none⟩) 32 (c - u)) rfl (by kernel_rfl) (by kernel_rfl) (by kernel_rfl) (fun _ _ _ h => h) (fun L w => Iff.rfl) (Or.inl ⟨by rfl, fun w => by go_simp⟩) hSb (fun hS => ?_)
        simp only [List.getElem_toArray, List.getElem_cons_zero, List.getElem_cons_succ, Act.put, List.setIfInBounds_toArray, List.set_cons_zero, List.set_cons_succ]
        clear hSb
        refine till_read (i := 1) (c := 12) (v := .string (spell dg)) (T := fun W => (convert 33 9 (.slice (some ⟨gd, 0, none⟩) 32 32)).run Tryz.prog W = .ok (.string (spell dg)) W) rfl rfl (by kernel_rfl) (by kernel_rfl) (by kernel_rfl) (by kernel_rfl) (by kernel_rfl) (fun _ _ _ h => h) (fun L w => Iff.rfl) (fun L w h1 h2 => h2.1) (Or.inl ⟨by rfl, fun w hSw => by (try dsimp only at hSw); go_simp⟩) hS (fun hSb => ?_)
        simp only [List.getElem_toArray, List.getElem_cons_zero, List.getElem_cons_succ, Act.put, List.setIfInBounds_toArray, List.set_cons_zero, List.set_cons_succ]
        clear hS
        refine till_read (i := 11) (c := 12) (v := .string (spell d2)) (T := fun W => (convert 33 9 (.slice (some ⟨b, off + u, none⟩) 32 (c - u))).run Tryz.prog W = .ok (.string (spell d2)) W) rfl rfl (by kernel_rfl) (by kernel_rfl) (by kernel_rfl) (by kernel_rfl) (by kernel_rfl) (fun _ _ _ h => h) (fun L w => Iff.rfl) (fun L w h1 h2 => h2.2) (Or.inl ⟨by rfl, fun w hSw => by (try dsimp only at hSw); go_simp⟩) hSb (fun hS => ?_)
        simp only [List.getElem_toArray, List.getElem_cons_zero, List.getElem_cons_succ, Act.put, List.setIfInBounds_toArray, List.set_cons_zero, List.set_cons_succ]
        clear hSb
        refine till_one (i := 12) (by kernel_rfl) rfl (fun K hK => ?_)
        simp only [List.getElem_toArray, List.getElem_cons_zero, List.getElem_cons_succ]
        rw [if_pos (by rfl)]
        go_simp
        refine hK.out _ _ (hS) (fun hSb => ?_)
        clear hK K
        try simp only [List.getElem_toArray, List.getElem_cons_zero, List.getElem_cons_succ, Act.put, List.setIfInBounds_toArray, List.set_cons_zero, List.set_cons_succ]
        clear hS
        refine till_done (by kernel_rfl) ?_ _
        clear hSb
        have HR8 : Hid (Rg w W8 gs [x1, x2, x3, x4, x5] (some ⟨b, off, none⟩) n F a8 (no + z) c8 (shK (F.drop p) (i + 1))) := by rw [shK, HP.out]; exact R8
        have er : (r : Int) - (z : Int) = ((r - z : Nat) : Int) := by omega
        have eq8 : (q : Int) + ((z : Int) + 32) = (v : Int) := by have := HU.out; have := HV.out; omega
        clear R8
        go_wp2_with (at_builtin; refine wpList_app (by rfl) (.tmp 63) (.tmp 64) (by rfl) (by rfl) (by rfl) (by rfl) AP ?_)
        go_roundw
        case rel =>
          refine ⟨i + 1, r - z, v, a8, no + z, c8, by go_num, by go_num, rfl, by omega, ?_, ?_, ?_, ?_, HR8.out, ?_⟩
          · have h7 := HI.out.1; have h8 := HZ.out; omega
          · have h7 := HIB.out.1; omega
          · intro h9
            have h7 := HIB.out.2; have h8 := HZ.out; have h10 := HI.out.1; have h11 := HV.out
            omega
          · have h7 := HI.out.2.2.2.1; omega
          · intro j hj
            by_cases h9 : j = i
            · rw [h9]; exact GD.out
            · exact HI.out.2.2.2.2.2 j (by omega)
        case measure => simp [intOf]; omega
    · have hib : i = blks x6 := by have h7 := HI.out.1; have h8 := HI.out.2.1; unfold blks at h8 ⊢; omega
      have AO : Hid (Arr .i64 45 wr w.heap.size Z5) := RI.out.out
      have RGG : Hid (Rng .i64 wr gs 0 [x1, x2, x3, x4, x5]) := RI.out.st.rng
      have HIB : Hid (i = blks x6) := hib
      clear hib
      go_wp2_with (first
        | (refine wpList_ld (k := .i64) (by rfl) 45 (.tmp 5) (by rfl) (by rfl) RGG und25s sz25s ?_)
        | (refine wpList_st0 (k := .i64) (t := 45) (l := Z5) (l2 := [x1, x2, x3, x4, x5]) (by rfl) (by rfl) 45 (.tmp 2) (.tmp 73) (by rfl) (by rfl) (by rfl) AO sz25s (by rfl) ?_))
      have FIN : RgEnd w F p x1 x2 x3 x4 x5 x6 (.returned (.tuple #[.agg (cs .i64 [x1, x2, x3, x4, x5]), .slice ao no co, .int .i64 0])) (wr.setRow w.heap.size (cs .i64 [x1, x2, x3, x4, x5])) := by
        refine ⟨(Oth.setRow _).below RI.out.bel (Nat.le_refl _), .inl ⟨?_, ao, no, co, rfl, ?_⟩⟩
        · rw [← HIB.out]; exact HI.out.2.2.2.2.2
        · rw [← HIB.out]; exact RI.out.own.block (fun q hq => setRow_other wr w.heap.size q _ (by have h7 := RI.out.ne q hq; have h8 := RI.out.gs1; omega))
      refine bodyPost_ret (res_arr3 (by rfl) (by rfl) (AO.out.setRow [x1, x2, x3, x4, x5]) und25s sz25s) rfl ?_
      exact FIN
end Go.Proofs.YtkdgakcmhnadfaaGreatDoor
