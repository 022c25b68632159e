/- What the document's own Legal and Size and the laws' own Num do. -/
import Derived.Test.YtokkjdgfhpocdabDoorEs
import Derived.Test.YtokkjdgfhpocdabDoorEi
namespace Go.Proofs.YtokkjdgfhpocdabDoor
open Go.ChangeShapes Go.WideShapes Go.ChangeAt Go.RowKit
set_option linter.unusedVariables false
set_option linter.unusedSimpArgs false
theorem legal_t (k m : Nat) (h1 : 1 ≤ m) (h2 : m ≤ k) (h3 : k + m ≤ 16) (w : World) :
    Calls Tryd.prog 6 #[.int .i64 (k : Int), .int .i64 (m : Int)] w fun e w' => e = .returned (.bool true) ∧ w' = w := by
  have i1 : (1 : Int) ≤ (m : Int) := by omega
  have i2 : (m : Int) ≤ (k : Int) := by omega
  have i3 : (k : Int) ≤ 16 := by omega
  have i4 : (k : Int) + (m : Int) ≤ 16 := by omega
  go_enter Tryd.func6, Tryd.ntmps6
  go_wp2
  go_ret
  exact ⟨rfl, rfl⟩
theorem legal_f (k m : Int) (hk : (Lit.int .i64 k).wf = true) (hm : (Lit.int .i64 m).wf = true) (h : ¬ Lgl k m) (w : World) :
    Calls Tryd.prog 6 #[.int .i64 k, .int .i64 m] w fun e w' => e = .returned (.bool false) ∧ w' = w := by
  have bk := bounds_i64 hk
  have bm := bounds_i64 hm
  unfold Lgl at h
  by_cases h1 : 1 ≤ m
  · by_cases h2 : m ≤ k
    · by_cases h3 : k ≤ 16
      · have h4 : 16 < k + m := by omega
        have hd : decide (k + m ≤ 16) = false := by simp; omega
        clear h
        go_enter Tryd.func6, Tryd.ntmps6
        go_wp2
        go_ret
        exact ⟨rfl, rfl⟩
      · have h3' : 16 < k := by omega
        clear h h3
        go_enter Tryd.func6, Tryd.ntmps6
        go_wp2
        go_ret
        exact ⟨rfl, rfl⟩
    · have h2' : k < m := by omega
      clear h h2
      go_enter Tryd.func6, Tryd.ntmps6
      go_wp2
      go_ret
      exact ⟨rfl, rfl⟩
  · have h1' : m < 1 := by omega
    clear h h1
    go_enter Tryd.func6, Tryd.ntmps6
    go_wp2
    go_ret
    exact ⟨rfl, rfl⟩
/- the order in which Num lists the errors -/
end Go.Proofs.YtokkjdgfhpocdabDoor
