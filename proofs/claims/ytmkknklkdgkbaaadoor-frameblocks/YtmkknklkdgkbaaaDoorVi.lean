/- The law WireSlips walked: it returns true, and changes nothing that was there. -/
import Derived.Test.YtmkknklkdgkbaaaDoorVh
namespace Go.Proofs.YtmkknklkdgkbaaaDoor
open Go.ChangeShapes Go.WideShapes Go.ChangeAt Go.RowKit
set_option maxRecDepth 20000
set_option linter.unusedVariables false
set_option linter.unusedSimpArgs false
/- the place that the law picks: below N -/
theorem pick_place (x : Int) (N : Nat) (hN : 0 < N) : ∃ (t : Int) (r : Nat), Int.tmod x (N : Int) = t ∧ -(N : Int) < t ∧ t < (N : Int) ∧ Int.tmod (t + (N : Int)) (N : Int) = (r : Int) ∧ r < N := by
  have h1 : Int.tmod x (N : Int) < (N : Int) := Int.tmod_lt_of_pos x (by omega)
  have h2 : -(N : Int) < Int.tmod x (N : Int) := by
    have := Int.tmod_lt_of_pos (-x) (show (0 : Int) < (N : Int) by omega)
    rw [Int.neg_tmod] at this
    omega
  have h3 : Int.tmod (Int.tmod x (N : Int) + (N : Int)) (N : Int) = (Int.tmod x (N : Int) + (N : Int)) % (N : Int) := Int.tmod_eq_emod_of_nonneg (by omega)
  have h4 : 0 ≤ (Int.tmod x (N : Int) + (N : Int)) % (N : Int) := Int.emod_nonneg _ (by omega)
  have h5 : (Int.tmod x (N : Int) + (N : Int)) % (N : Int) < (N : Int) := Int.emod_lt_of_pos _ (by omega)
  exact ⟨Int.tmod x (N : Int), ((Int.tmod x (N : Int) + (N : Int)) % (N : Int)).toNat, rfl, h2, h1, by rw [h3]; omega, by omega⟩
end Go.Proofs.YtmkknklkdgkbaaaDoor
