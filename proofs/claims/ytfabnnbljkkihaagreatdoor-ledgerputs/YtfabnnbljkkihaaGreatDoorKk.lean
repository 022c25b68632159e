/- At (f40), Fold (f34), by Apply's contract. -/
import Derived.Test.YtfabnnbljkkihaaGreatDoorKj
import Derived.Test.YtfabnnbljkkihaaGreatDoorLf
namespace Go.Proofs.YtfabnnbljkkihaaGreatDoor
open Go.ChangeShapes Go.WideShapes Go.ChangeAt Go.RowKit
set_option maxRecDepth 20000
set_option linter.unusedVariables false
set_option linter.unusedSimpArgs false
/- what At's loop keeps: the box of the catalog, and what is known of it -/
structure AtL (w W : World) (g : Nat) (C : Array Value) (I : World → Nat → Array Value → Prop) (i : Nat) : Prop where
  b : W.heap[g + 1]? = some (.cells C 58 (0, 0))
  z : ∃ C4, W.heap[g]? = some (.cells C4 58 (0, 0)) ∧ 2 = C4.size
  i : I W i C
  a : Arr 2 C
  f : Below w.heap.size w W
  g : w.heap.size + 2 ≤ W.heap.size
set_option maxHeartbeats 8000000 in
theorem at_shell {w : World} {lo : Nat} {a : Option Addr} {n c m : Nat} {k : Int} {X : List Cx} {I : World → Nat → Array Value → Prop} (hA : Hid (Cms w lo a n X)) (hc : Hid (n ≤ c)) (hz : Hid (a = none → c = 0)) (hm : Hid ((m : Int) = max 0 (min k n)))
    (st : ∀ W W' i C, I W i C → (∀ q, w.heap.size + 2 ≤ q → q < W.heap.size → W'.heap[q]? = W.heap[q]?) → W.heap.size ≤ W'.heap.size → I W' i C)
    (i0 : ∀ W, Below w.heap.size w W → W.heap.size = w.heap.size + 2 → I W 0 #[.slice none 0 0, .slice none 0 0])
    (step : ∀ W i C x A, X[i]? = some x → i < m → Hid (A = (encX x).toArray) → Hid (Cms W lo a n X) → Hid (I W i C) → Hid (Arr 2 C) → Below w.heap.size w W → w.heap.size + 2 ≤ W.heap.size → Calls Tryz.prog 25 #[.agg C, .agg A] W fun e w' => ∃ C' R, e = .returned (.tuple #[.agg C', .agg R]) ∧ Hid (Arr 2 C' ∧ I w' (i + 1) C' ∧ Below W.heap.size W w')) :
    Calls Tryz.prog 40 #[.slice a n c, .int .i64 k] w fun e w' => ∃ C, e = .returned (.agg C) ∧ Hid (I w' m C ∧ Arr 2 C ∧ Below w.heap.size w w') := by
  have LX : Hid (n = X.length) := hA.out.len
  have hsz := hA.out.sz
  have hmn : m ≤ n := by have := hm.out; omega
  have ST : Hid _ := st
  have STEP : Hid _ := step
  obtain ⟨w1, Hw1⟩ : ∃ w1, Hid ((w.alloc (.cells #[.slice none 0 0, .slice none 0 0] 58)).alloc (.cells #[.slice none 0 0, .slice none 0 0] 58) = w1) := ⟨_, rfl⟩
  obtain ⟨g, Hg⟩ : ∃ g, Hid (w.heap.size = g) := ⟨_, rfl⟩
  have S1 : Hid (Bz 58 #[.slice none 0 0, .slice none 0 0] w w1 g #[.slice none 0 0, .slice none 0 0]) := by rw [← Hw1.out, ← Hg.out]; exact Bz.new _ _ _ _
  have z1 : Hid (w1.heap.size = w.heap.size + 2) := by rw [← Hw1.out]; show _ = _; simp
  have L1 : Hid (AtL w w1 g #[.slice none 0 0, .slice none 0 0] I 0) := ⟨S1.out.z, ⟨_, S1.out.b, rfl⟩, i0 w1 S1.out.f z1.out, ⟨rfl, by kernel_rfl⟩, S1.out.f, Nat.le_of_eq z1.out.symm⟩
  have LM : Hid ((max 0 (min k (n : Int))) = (m : Int)) := hm.out.symm
  clear st i0 step
  go_enter Tryz.func40, Tryz.ntmps40
  go_upto_region 2 with (fail)
  rw [Hw1.out, Hg.out]
  clear Hw1 z1 S1
  have hmx : max 0 (min k (n : Int)) = (m : Int) := LM.out
  have hmc : m ≤ c := Nat.le_trans hmn hc.out
  go_wp2
  clear hmx LM hm
  go_loopw [16] (fun t16 wr => ∃ (i : Nat) (C : Array Value), i ≤ m ∧ t16 = .int .i64 i ∧ Hid (AtL w wr g C I i)) (fun t16 _ => m - (intOf t16).toNat)
  case atStart => exact ⟨0, _, by omega, rfl, L1⟩
  case round =>
    clear L1
    obtain ⟨i, C, hi, rfl, HL⟩ := hrel
    have c2 : (Tryz.prog.info? 58).map (·.size) = some C.size := by rw [HL.out.a.1]; exact inz58
    by_cases hlt : i < m
    · have i3 : (i : Int) < (m : Int) := by omega
      have kx : i < X.length := by rw [← LX.out]; omega
      have HB : Hid (Below w.heap.size w wr) := HL.out.f
      have CW : Hid (Cms wr lo a n X) := hA.out.below HB.out
      obtain ⟨b1, o1, rfl, e1⟩ := CW.out.at_ kx
      obtain ⟨x, Hx⟩ : ∃ x, Hid (X[i] = x) := ⟨X[i], (rfl : X[i] = X[i])⟩
      rw [Hx.out] at e1
      have EX : Hid (X[i]? = some x) := by show _ = _; rw [← Hx.out]; exact List.getElem?_eq_getElem kx
      obtain ⟨A, HA⟩ : ∃ A, Hid (A = (encX x).toArray) := ⟨_, rfl⟩
      have a18 : A.size = 18 := encX_sz HA.out
      have AA : Hid (A.all (·.oneCell') = true) := encX_all HA.out
      have E1 : Hid (wr.rangeAt b1 (o1 + i * 18) (encX x)) := e1
      clear e1
      obtain ⟨w2, Hw2, K2⟩ := box_new wr A
      obtain ⟨g1, Hg1⟩ : ∃ g, Hid (wr.heap.size = g) := ⟨_, rfl⟩
      go_upto_region 5 with first
        | (refine wpList_ldA (by rfl) (.tmp 18) (by rfl) b1 (o1 + i * 18) (by rfl) HA.out E1.out ?_)
        | (refine wpList_store_row (by rfl) 29 (.tmp 7) (.tmp 19) (by rfl) wr.heap.size A (by rfl) (by rfl) 29 _ (heap_alloc_new wr _) (info29 a18) a18.symm AA.out ?_)
      rw [Hw2.out, Hg1.out]
      have k1 : Hid (w2.heap[g1]? = some (.cells A 29 (0, 0))) := by rw [← Hg1.out]; exact K2.out.1
      have B2 : Hid (Below wr.heap.size wr w2) := K2.out.2.1
      have kc2 : Hid (w2.heap[g + 1]? = some (.cells C 58 (0, 0))) := (B2.out.block _ (Array.getElem?_eq_some_iff.1 HL.out.b).1).trans HL.out.b
      have I2 : Hid (I w2 i C) := ST.out _ _ _ _ HL.out.i (fun q _ hq => B2.out.block q hq) B2.out.size
      have BW2 : Hid (Below w.heap.size w w2) := HB.out.trans (B2.out.mono HB.out.size)
      have G2 : Hid (w.heap.size + 2 ≤ w2.heap.size) := Nat.le_trans HL.out.g B2.out.size
      have CW2 : Hid (Cms w2 lo (some ⟨b1, o1, none⟩) n X) := CW.out.below B2.out
      have CA : Hid (Arr 2 C) := HL.out.a
      clear K2 Hw2 Hg1 E1
      go_wp2_with (first
        | (refine wpList_load_row (by rfl) 58 (.tmp 5) (by rfl) (g + 1) (by rfl) 58 C (0, 0) _ kc2.out Tryz.underlying58 rfl c2 ?_)
        | (refine wpList_load_row (by rfl) 29 (.tmp 7) (by rfl) g1 (by rfl) 29 A (0, 0) _ k1.out Tryz.underlying29 rfl (info29 a18) ?_)
        | (go_at_call 25; refine (STEP.out w2 i C x A EX.out hlt HA CW2 I2 CA BW2.out G2.out).mono ?_; rintro e w3 ⟨C', R, rfl, H3⟩
           have c3 : (Tryz.prog.info? 58).map (·.size) = some C'.size := (by rw [H3.out.1.1]; exact inz58)
           have C3S : Hid (C'.size = 2) := H3.out.1.1
           have C3A : Hid (C'.all (·.oneCell') = true) := H3.out.1.2
           have kc3 : Hid (w3.heap[g + 1]? = some (.cells C 58 (0, 0))) := (H3.out.2.2.block _ (Array.getElem?_eq_some_iff.1 kc2.out).1).trans kc2.out)
        | (refine wpList_store_row (by rfl) 58 (.tmp 5) (.tmp 24) (by rfl) (g + 1) C' (by rfl) (by rfl) 58 _ kc3.out c3 (by rw [C3S.out, CA.out.1]) C3A.out ?_))
      have FIN : Hid (AtL w (w3.setRow (g + 1) C') g C' I (i + 1)) := by
        obtain ⟨C4, f1, f2⟩ := HL.out.z
        have lg := Hg.out
        refine ⟨setRow_heap _ _ _ _ _ _ kc3.out, ⟨C4, (setRow_other _ _ _ _ (by omega)).trans ((H3.out.2.2.block _ ?_).trans ((B2.out.block _ (Array.getElem?_eq_some_iff.1 f1).1).trans f1)), f2⟩, ST.out _ _ _ _ H3.out.2.1 (fun q h1 _ => setRow_other _ _ _ _ (by omega)) (by rw [setRow_size]; exact Nat.le_refl _), H3.out.1, below_setRow (BW2.out.trans (H3.out.2.2.mono BW2.out.size)) (by omega) _, ?_⟩
        · have := G2.out; omega
        · rw [setRow_size]; exact Nat.le_trans G2.out H3.out.2.2.size
      go_roundw
      case rel => exact ⟨i + 1, C', by omega, by go_num, FIN⟩
      case measure => simp [intOf]; omega
    · have ein : i = m := by omega
      subst ein
      obtain ⟨C4, f1, f2⟩ := HL.out.z
      have F1 : Hid (wr.heap[g]? = some (.cells C4 58 (0, 0))) := f1
      have F2 : Hid (2 = C4.size) := f2
      have kc2 : Hid (wr.heap[g + 1]? = some (.cells C 58 (0, 0))) := HL.out.b
      have C3S : Hid (C.size = 2) := HL.out.a.1
      have C3A : Hid (C.all (·.oneCell') = true) := HL.out.a.2
      clear f1 f2
      go_wp2_with (first
        | (refine wpList_load_row (by rfl) 58 (.tmp 5) (by rfl) (g + 1) (by rfl) 58 C (0, 0) _ kc2.out Tryz.underlying58 rfl c2 ?_)
        | (refine wpList_store_row (by rfl) 58 (.tmp 4) (.tmp 27) (by rfl) g C (by rfl) (by rfl) 58 _ F1.out c2 (by rw [C3S.out]; exact F2.out.symm) C3A.out ?_))
      refine bodyPost_ret (results_cell_row Tryz.results40 _ _ g 58 C (0, 0) _ (by rfl) (setRow_heap _ _ _ _ _ _ F1.out) Tryz.underlying58 rfl c2) rfl ?_
      have lg := Hg.out
      exact ⟨C, rfl, ST.out _ _ _ _ HL.out.i (fun q h1 _ => setRow_other _ _ _ _ (by omega)) (by rw [setRow_size]; exact Nat.le_refl _), HL.out.a, below_setRow HL.out.f (by omega) _⟩
set_option maxHeartbeats 2000000 in
theorem fold_shell {w : World} {a : Option Addr} {n c : Nat} {Q : World → Array Value → Prop} (s2 : ∀ W W' C, Q W C → (∀ q, w.heap.size + 1 ≤ q → q < W.heap.size → W'.heap[q]? = W.heap[q]?) → W.heap.size ≤ W'.heap.size → Q W' C)
    (h40 : ∀ W, Below w.heap.size w W → W.heap.size = w.heap.size + 1 → Calls Tryz.prog 40 #[.slice a n c, .int .i64 n] W fun e w' => ∃ C, e = .returned (.agg C) ∧ Hid (Q w' C ∧ Arr 2 C ∧ Below W.heap.size W w')) :
    Calls Tryz.prog 34 #[.slice a n c] w fun e w' => ∃ C, e = .returned (.agg C) ∧ Hid (Q w' C ∧ Arr 2 C ∧ Below w.heap.size w w') := by
  obtain ⟨w1, Hw1⟩ : ∃ w1, Hid (w.alloc (.cells #[.slice none 0 0, .slice none 0 0] 58) = w1) := ⟨_, rfl⟩
  obtain ⟨g, Hg⟩ : ∃ g, Hid (w.heap.size = g) := ⟨_, rfl⟩
  have B1 : Hid (Below w.heap.size w w1) := by rw [← Hw1.out]; exact alloc1 w _
  have z1 : Hid (w1.heap.size = w.heap.size + 1) := by rw [← Hw1.out]; show _ = _; simp
  have k1 : Hid (w1.heap[g]? = some (.cells #[.slice none 0 0, .slice none 0 0] 58 (0, 0))) := by rw [← Hw1.out, ← Hg.out]; exact heap_alloc_new w _
  have S2 : Hid _ := s2
  have H40 : Hid _ := h40
  clear s2 h40
  go_enter Tryz.func34, Tryz.ntmps34
  go_upto_region 1 with (fail)
  rw [Hw1.out, Hg.out]
  clear Hw1
  go_wp2_with (first
    | (go_at_call 40; refine (H40.out w1 B1.out z1.out).mono ?_; rintro e w2 ⟨C, rfl, H2⟩
       have c2 : (Tryz.prog.info? 58).map (·.size) = some C.size := (by rw [H2.out.2.1.1]; exact inz58)
       have CS : Hid (C.size = 2) := H2.out.2.1.1
       have CA : Hid (C.all (·.oneCell') = true) := H2.out.2.1.2
       have k2 : Hid (w2.heap[g]? = some (.cells #[.slice none 0 0, .slice none 0 0] 58 (0, 0))) := (H2.out.2.2.block _ (Array.getElem?_eq_some_iff.1 k1.out).1).trans k1.out)
    | (refine wpList_store_row (by rfl) 58 (.tmp 2) (.tmp 6) (by rfl) g C (by rfl) (by rfl) 58 _ k2.out c2 (by rw [CS.out]; rfl) CA.out ?_))
  refine bodyPost_ret (results_cell_row Tryz.results34 _ _ g 58 C (0, 0) _ (by rfl) (setRow_heap _ _ _ _ _ _ k2.out) Tryz.underlying58 rfl c2) rfl ?_
  have lg := Hg.out
  exact ⟨C, rfl, S2.out _ _ _ H2.out.1 (fun q h1 _ => setRow_other _ _ _ _ (by omega)) (by rw [setRow_size]; exact Nat.le_refl _), H2.out.2.1, below_setRow (B1.out.trans (H2.out.2.2.mono B1.out.size)) (by omega) _⟩
end Go.Proofs.YtfabnnbljkkihaaGreatDoor
