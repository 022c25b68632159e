/- Ballots: isNode, isLegal, Legal, Above, Half. -/
import Derived.Test.YtdfnjcjpblkmcaaDoorAb
import Derived.Test.YtdfnjcjpblkmcaaDoorVs
namespace Go.Proofs.YtdfnjcjpblkmcaaDoor
open Go.ChangeShapes Go.WideShapes Go.ChangeAt Go.RowKit
set_option maxRecDepth 20000
set_option linter.unusedVariables false
set_option linter.unusedSimpArgs false
def nod (n : Int) : Bool := decide (0 ≤ n ∧ n < 16)
def lgl (r n : Int) : Bool := decide (1 ≤ r ∧ r ≤ 1099511627776 ∧ 0 ≤ n ∧ n < 16)
def abv (r n r' n' : Int) : Bool := decide (r > r' ∨ r = r' ∧ n > n')
theorem isNode_n (n : Int) (w : World) : Calls Tryd.prog 24 #[.int .i64 n] w fun e w' => e = .returned (.bool (nod n)) ∧ w' = w := by
  by_cases h1 : 0 ≤ n
  · by_cases h2 : n < 16
    · have E : Hid (nod n = true) := decide_eq_true ⟨h1, h2⟩
      go_enter Tryd.func24, Tryd.ntmps24
      go_wp2
      go_ret
      exact ⟨retB E.out, rfl⟩
    · have E : Hid (nod n = false) := decide_eq_false (fun h => h2 h.2)
      go_enter Tryd.func24, Tryd.ntmps24
      go_wp2
      go_ret
      exact ⟨retB E.out, rfl⟩
  · have E : Hid (nod n = false) := decide_eq_false (fun h => h1 h.1)
    have h2 : ¬ (n ≥ 0) := h1
    go_enter Tryd.func24, Tryd.ntmps24
    go_wp2
    go_ret
    exact ⟨retB E.out, rfl⟩
theorem isLegal_n (r n : Int) (w : World) : Calls Tryd.prog 34 #[bal r n] w fun e w' => e = .returned (.bool (lgl r n)) ∧ Hid (Below w.heap.size w w') := by
  by_cases h1 : 1 ≤ r
  · by_cases h2 : r ≤ 1099511627776
    · have E : Hid (nod n = lgl r n) := by
        show decide _ = decide _
        exact decide_eq_decide.2 ⟨fun h => ⟨h1, h2, h⟩, fun h => h.2.2⟩
      go_enter Tryd.func34, Tryd.ntmps34
      go_wp2_with (go_at_call 24; refine (isNode_n n _).mono ?_; rintro e w1 ⟨rfl, h0⟩; rw [h0, E.out]; clear h0)
      go_ret
      exact ⟨rfl, alloc1 _ _⟩
    · have E : Hid (lgl r n = false) := decide_eq_false (fun h => h2 h.2.1)
      go_enter Tryd.func34, Tryd.ntmps34
      go_wp2
      go_ret
      exact ⟨retB E.out, alloc1 _ _⟩
  · have E : Hid (lgl r n = false) := decide_eq_false (fun h => h1 h.1)
    go_enter Tryd.func34, Tryd.ntmps34
    go_wp2
    go_ret
    exact ⟨retB E.out, alloc1 _ _⟩
theorem legal_n (r n : Int) (w : World) : Calls Tryd.prog 23 #[bal r n] w fun e w' => e = .returned (.bool (lgl r n)) ∧ Hid (Below w.heap.size w w') := by
  by_cases h1 : 1 ≤ r
  · by_cases h2 : r ≤ 1099511627776
    · by_cases h3 : 0 ≤ n
      · by_cases h4 : n ≤ 15
        · have E : Hid (lgl r n = true) := decide_eq_true ⟨h1, h2, h3, by omega⟩
          go_enter Tryd.func23, Tryd.ntmps23
          go_wp2
          go_ret
          exact ⟨retB E.out, alloc1 _ _⟩
        · have E : Hid (lgl r n = false) := decide_eq_false (fun h => h4 (by omega))
          go_enter Tryd.func23, Tryd.ntmps23
          go_wp2
          go_ret
          exact ⟨retB E.out, alloc1 _ _⟩
      · have E : Hid (lgl r n = false) := decide_eq_false (fun h => h3 h.2.2.1)
        go_enter Tryd.func23, Tryd.ntmps23
        go_wp2
        go_ret
        exact ⟨retB E.out, alloc1 _ _⟩
    · have E : Hid (lgl r n = false) := decide_eq_false (fun h => h2 h.2.1)
      go_enter Tryd.func23, Tryd.ntmps23
      go_wp2
      go_ret
      exact ⟨retB E.out, alloc1 _ _⟩
  · have E : Hid (lgl r n = false) := decide_eq_false (fun h => h1 h.1)
    go_enter Tryd.func23, Tryd.ntmps23
    go_wp2
    go_ret
    exact ⟨retB E.out, alloc1 _ _⟩
theorem above_n (r n r' n' : Int) (w : World) : Calls Tryd.prog 11 #[bal r n, bal r' n'] w fun e w' => e = .returned (.bool (abv r n r' n')) ∧ Hid (Below w.heap.size w w') := by
  by_cases h1 : r' < r
  · have E : Hid (abv r n r' n' = true) := decide_eq_true (.inl h1)
    go_enter Tryd.func11, Tryd.ntmps11
    go_wp2
    go_ret
    exact ⟨retB E.out, alloc2 _ _ _⟩
  · by_cases h2 : r = r'
    · subst h2
      by_cases h3 : n' < n
      · have E : Hid (abv r n r n' = true) := decide_eq_true (.inr ⟨rfl, h3⟩)
        go_enter Tryd.func11, Tryd.ntmps11
        go_wp2
        go_ret
        exact ⟨retB E.out, alloc2 _ _ _⟩
      · have E : Hid (abv r n r n' = false) := decide_eq_false (by omega)
        go_enter Tryd.func11, Tryd.ntmps11
        go_wp2
        go_ret
        exact ⟨retB E.out, alloc2 _ _ _⟩
    · have E : Hid (abv r n r' n' = false) := decide_eq_false (by omega)
      go_enter Tryd.func11, Tryd.ntmps11
      go_wp2
      go_ret
      exact ⟨retB E.out, alloc2 _ _ _⟩
theorem refAbove_n (r n r' n' : Int) (w : World) : Calls Tryd.prog 12 #[bal r n, bal r' n'] w fun e w' => e = .returned (.bool (abv r n r' n')) ∧ Hid (Below w.heap.size w w') := by
  by_cases h2 : r = r'
  · subst h2
    by_cases h3 : n' < n
    · have E : Hid (abv r n r n' = true) := decide_eq_true (.inr ⟨rfl, h3⟩)
      go_enter Tryd.func12, Tryd.ntmps12
      go_wp2
      go_ret
      exact ⟨retB E.out, alloc2 _ _ _⟩
    · have E : Hid (abv r n r n' = false) := decide_eq_false (by omega)
      go_enter Tryd.func12, Tryd.ntmps12
      go_wp2
      go_ret
      exact ⟨retB E.out, alloc2 _ _ _⟩
  · by_cases h1 : r' < r
    · have E : Hid (abv r n r' n' = true) := decide_eq_true (.inl h1)
      go_enter Tryd.func12, Tryd.ntmps12
      go_wp2
      go_ret
      exact ⟨retB E.out, alloc2 _ _ _⟩
    · have E : Hid (abv r n r' n' = false) := decide_eq_false (by omega)
      go_enter Tryd.func12, Tryd.ntmps12
      go_wp2
      go_ret
      exact ⟨retB E.out, alloc2 _ _ _⟩
theorem half_no {n : Int} (h : n < 1) (w : World) : Calls Tryd.prog 13 #[.int .i64 n] w fun e w' => e = .returned (.int .i64 0) ∧ w' = w := by
  go_enter Tryd.func13, Tryd.ntmps13
  go_wp2
  go_ret
  exact ⟨rfl, rfl⟩
theorem half_n {n : Int} (h : 1 ≤ n) (h2 : n ≤ 9223372036854775807) (w : World) : Calls Tryd.prog 13 #[.int .i64 n] w fun e w' => e = .returned (.int .i64 (n / 2 + 1)) ∧ w' = w := by
  have h3 : ¬ (n < 1) := by omega
  have t : n.tdiv 2 = n / 2 := Int.tdiv_eq_ediv_of_nonneg (by omega)
  have b1 : 0 ≤ n / 2 := by omega
  have b2 : n / 2 ≤ 4611686018427387903 := by omega
  go_enter Tryd.func13, Tryd.ntmps13
  go_wp2
  go_ret
  exact ⟨by first | rfl | (rw [t]; rfl) | (simp [t]; done), rfl⟩
end Go.Proofs.YtdfnjcjpblkmcaaDoor
