/- The document's good pieces. -/
import Derived.Test.YtppibcambhmomaaDoorMh
import Derived.Test.YtppibcambhmomaaDoorMCn
namespace Go.Proofs.YtppibcambhmomaaDoor
open Go.ChangeShapes Go.WideShapes Go.ChangeAt Go.RowKit
set_option maxRecDepth 20000
set_option linter.unusedVariables false
set_option linter.unusedSimpArgs false
set_option maxHeartbeats 4000000 in
theorem refPiece_n (a b c s : Int) (t : ByteArray) (ht : t.size ≤ 281474976710656) (w : World) : Calls Tryd.prog 60 #[.agg #[.int .i64 a,.int .i64 b,.int .i64 c,.int .i64 s,.string t]] w fun e w' => e = .returned (.bool (gdP a b c s t)) ∧ Hid (Below w.heap.size w w') := by
  obtain ⟨n, Hn⟩ : ∃ n, Hid (t.size = n) := ⟨_, rfl⟩
  have hs0 : (t.size : Int) ≤ 281474976710656 := by omega
  rw [Hn.out] at ht
  obtain ⟨g, Hg⟩ : ∃ g, Hid (w.heap.size = g) := ⟨_, rfl⟩
  obtain ⟨w1, Hw1⟩ : ∃ w1, Hid (w.alloc (.cells #[.int .i64 a,.int .i64 b,.int .i64 c,.int .i64 s,.string t] 58) = w1) := ⟨_, rfl⟩
  have b1 : Hid (Below w.heap.size w w1) := by rw [← Hw1.out]; exact alloc1 w _
  have k1 : Hid (w1.heap[g]? = some (.cells #[.int .i64 a,.int .i64 b,.int .i64 c,.int .i64 s,.string t] 58 (0, 0))) := by rw [← Hw1.out, ← Hg.out]; exact heap_alloc_new w _
  have c0 : w1.cell? ⟨g, 0, none⟩ = some (.int .i64 a) := by simp [World.cell?, k1.out]
  have c1 : w1.cell? ⟨g, 1, none⟩ = some (.int .i64 b) := by simp [World.cell?, k1.out]
  have c2 : w1.cell? ⟨g, 2, none⟩ = some (.int .i64 c) := by simp [World.cell?, k1.out]
  obtain ⟨w2, Hw2⟩ : ∃ w2, Hid (w1.alloc (.cells #[.int .i64 a,.int .i64 b,.int .i64 c] 23) = w2) := ⟨_, rfl⟩
  have b2 : Hid (Below w1.heap.size w1 w2) := by rw [← Hw2.out]; exact alloc1 w1 _
  have k2 : w2.heap[g]? = some (.cells #[.int .i64 a,.int .i64 b,.int .i64 c,.int .i64 s,.string t] 58 (0, 0)) := (b2.out.block g (Array.getElem?_eq_some_iff.1 k1.out).1).trans k1.out
  have d3 : w2.cell? ⟨g, 3, none⟩ = some (.int .i64 s) := by simp [World.cell?, k2]
  have d4 : w2.cell? ⟨g, 4, none⟩ = some (.string t) := by simp [World.cell?, k2]
  have BB : Hid (Below w.heap.size w w2) := b1.out.trans (b2.out.mono b1.out.size)
  clear k2 b1 b2
  obtain ⟨t0, H0⟩ : ∃ t0, Hid (gdI a b c = t0) := ⟨_, rfl⟩
  obtain ⟨st, Hst⟩ : ∃ st, Hid ((t0 && (decide (0 ≤ s ∧ s ≤ 1024) && decide (t.size = 64))) = st) := ⟨_, rfl⟩
  have PE : Hid (gdP a b c s t = (st && evB dgB t n)) := by
    show gdP a b c s t = _
    unfold gdP gdE
    rw [← Hst.out, H0.out, ← Hn.out]
    cases t0 <;> cases decide (0 ≤ s ∧ s ≤ 1024) <;> cases decide (t.size = 64) <;> rfl
  have HH := Hst.out
  rcases (show t0 = false ∨ (t0 = true ∧ ¬ (0 ≤ s)) ∨ (t0 = true ∧ 0 ≤ s ∧ ¬ (s ≤ 1024)) ∨ (t0 = true ∧ 0 ≤ s ∧ s ≤ 1024 ∧ ¬ ((t.size : Int) = 64)) ∨ (t0 = true ∧ 0 ≤ s ∧ s ≤ 1024 ∧ (t.size : Int) = 64) by cases t0 <;> simp <;> omega) with rfl | ⟨rfl, h1⟩ | ⟨rfl, h1, h2⟩ | ⟨rfl, h1, h2, h3⟩ | ⟨rfl, h1, h2, h3⟩
  all_goals
    first
      | (have S0 : Hid (false = st) := by rw [← HH]; rfl)
      | (have S0 : Hid (false = st) := by rw [← HH, decide_eq_false (p := 0 ≤ s ∧ s ≤ 1024) (by omega)]; rfl)
      | (have S0 : Hid (false = st) := by
           have h4 : ¬ (t.size = 64) := by omega
           show false = st
           rw [← HH]
           simp [h4])
      | (have S0 : Hid (true = st) := by rw [← HH, decide_eq_true (p := 0 ≤ s ∧ s ≤ 1024) (by omega), decide_eq_true (p := t.size = 64) (by omega)]; rfl)
    clear HH Hst
    go_enter Tryd.func60, Tryd.ntmps60
    go_upto_region 1 with (fail)
    rw [Hw1.out, Hg.out]
    go_upto_region 2 with (go_at_call 20; refine (refGoodId_n a b c _).mono ?_; rintro e w0 ⟨rfl, h0⟩; rw [h0.out, H0.out, Hw2.out]; clear h0)
    clear c0 c1 c2 d3
    try clear h1
    try clear h2
    try (have H3 : Hid ((t.size : Int) = 64) := h3)
    try (have H3 : Hid (¬ ((t.size : Int) = 64)) := h3)
    try clear h3
    go_wp2
    go_loop [3, 4] (fun t3 t4 => ∃ i : Nat, i ≤ n ∧ t4 = .int .i64 (i : Int) ∧ t3 = .bool (st && evB dgB t i)) (fun _ t4 => n - (intOf t4).toNat)
    case atStart => exact ⟨0, by omega, rfl, by first | (rw [evB_zero, Bool.and_true, S0.out]) | (rw [evB_zero, Bool.and_true, ← S0.out]; simp [H3.out])⟩
    case round =>
      obtain ⟨i, hi, rfl, rfl⟩ := hrel
      clear S0
      by_cases hlt : i < n
      · have i1 : (i : Int) < (t.size : Int) := by rw [Hn.out]; omega
        obtain ⟨x, Hx⟩ : ∃ x, Hid (sb t i = x) := ⟨_, rfl⟩
        have ix : ∀ w, (Instr.index 9 (.string t) (.int .i64 (i : Int))).run Tryd.prog w = .ok (.int .u8 (x : Int)) w := fun w => by rw [← Hx.out]; exact sb_ix t i _ rfl (by rw [Hn.out]; exact hlt) w
        have SU : Hid ((st && evB dgB t (i + 1)) = ((st && evB dgB t i) && dgB x)) := by rw [← Hx.out, evB_succ, Bool.and_assoc]; exact (rfl : (_ : Bool) = _)
        rcases Bool.eq_false_or_eq_true (st && evB dgB t i) with hb | hb
        · have HB : Hid ((st && evB dgB t i) = true) := hb
          clear hb
          rw [HB.out]
          rcases (show ((48 : Int) ≤ (x : Int) ∧ (x : Int) ≤ 57) ∨ (¬ ((48 : Int) ≤ (x : Int)) ∧ ¬ ((97 : Int) ≤ (x : Int))) ∨ ((48 : Int) ≤ (x : Int) ∧ ¬ ((x : Int) ≤ 57) ∧ ¬ ((97 : Int) ≤ (x : Int))) ∨ ((48 : Int) ≤ (x : Int) ∧ ¬ ((x : Int) ≤ 57) ∧ (97 : Int) ≤ (x : Int) ∧ (x : Int) ≤ 102) ∨ ((48 : Int) ≤ (x : Int) ∧ ¬ ((x : Int) ≤ 57) ∧ (97 : Int) ≤ (x : Int) ∧ ¬ ((x : Int) ≤ 102)) by omega) with ⟨j1, j2⟩ | ⟨j1, j2⟩ | ⟨j1, j2, j3⟩ | ⟨j1, j2, j3, j4⟩ | ⟨j1, j2, j3, j4⟩
          all_goals
            first
              | have RV : Hid (dgB x = true) := decide_eq_true (by omega)
              | have RV : Hid (dgB x = false) := decide_eq_false (by omega)
            go_wp2
            go_round
            case rel => exact ⟨i + 1, by omega, by go_num, by rw [SU.out, HB.out, RV.out]; rfl⟩
            case measure => simp [intOf]; omega
        · have HB : Hid ((st && evB dgB t i) = false) := hb
          clear hb
          rw [HB.out]
          go_wp2
          go_round
          case rel => exact ⟨i + 1, by omega, by go_num, by rw [SU.out, HB.out, Bool.false_and]⟩
          case measure => simp [intOf]; omega
      · obtain rfl : i = n := by omega
        have i1 : ¬ ((i : Int) < (t.size : Int)) := by rw [Hn.out]; omega
        go_wp2
        go_ret
        rw [PE.out]
        exact ⟨rfl, BB.out⟩
end Go.Proofs.YtppibcambhmomaaDoor
