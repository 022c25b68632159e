/- What the document's own turning of a word does to a machine. -/
import Derived.Test.YtmkknklkdgkbaaaDoorSb
namespace Go.Proofs.YtmkknklkdgkbaaaDoor
open Go.ChangeShapes Go.WideShapes Go.ChangeAt Go.RowKit
set_option linter.unusedVariables false
set_option linter.unusedSimpArgs false
theorem refrot_z (x n : Nat) (z : Int) (hz : z = (n : Int)) (hx : x < 4294967296) (hn0 : 0 < n) (hn : n < 32) (w : World) :
    Calls Tryd.prog 53 #[.int .u32 (x : Int), .int .u64 z] w fun e w' => e = .returned (.int .u32 (Gs.rot n x : Nat)) ∧ w' = w := by
  subst hz
  go_enter Tryd.func53, Tryd.ntmps53
  go_wp2
  go_ret
  refine ⟨ret_int ?_, rfl⟩
  have h1 := u32_or_nat (x / 2 ^ n) (x * 2 ^ (32 - n) % 4294967296) (Nat.lt_of_le_of_lt (Nat.div_le_self _ _) hx) (Nat.mod_lt _ (by decide))
  unfold Gs.rot
  have e1 : ((x * 2 ^ (32 - n) % 4294967296 : Nat) : Int) = (x : Int) * 2 ^ (32 - n) % 4294967296 := by simp
  have e2 : ((x / 2 ^ n : Nat) : Int) = (x : Int) / 2 ^ n := by simp
  rw [e1, e2, Nat.or_comm] at h1
  exact h1
end Go.Proofs.YtmkknklkdgkbaaaDoor
