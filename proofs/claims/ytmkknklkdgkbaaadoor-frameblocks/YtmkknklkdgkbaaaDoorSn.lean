/- The constants of package sha, out of what a row lists. -/
import Derived.Test.YtmkknklkdgkbaaaDoorSd
import Derived.Lib.LaidTab
namespace Go.Proofs.YtmkknklkdgkbaaaDoor
open Go.ChangeShapes Go.WideShapes Go.ChangeAt Go.RowKit
set_option linter.unusedVariables false
theorem datum : (Rows.laid_bollard_sha_constants : DataW Unit) = Lib.tabData .u32 (Gs.K.map fun x : Nat => (x : Int)) := by rfl
theorem kst_of {W : World} (h : laidMet Tryd.prog [("bollard/sha.constants", Rows.laid_bollard_sha_constants)] W) : Kst W := by
  rw [datum] at h
  have T := Lib.tabIs_of_head (g := 19) (t := 127) (e := 91) (n := 64) (by kernel_rfl) (by kernel_rfl) Tryd.underlying127 Tryd.underlying91 (by kernel_rfl) (by kernel_rfl) h
  intro i hi
  have c := T.cell (g := 19) (by kernel_rfl) i (by rw [List.length_map]; exact hi)
  rw [c]
  have hk : i < Gs.K.length := hi
  have e : (Gs.K.map fun x : Nat => (x : Int)).getD i 0 = ((Gs.K.getD i 0 : Nat) : Int) := by
    simp [List.getD, List.getElem?_map, List.getElem?_eq_getElem hk]
  rw [e]
theorem kst_pos {W : World} (h : Kst W) : 19 < W.heap.size := cell_lt (h 0 (by omega))
end Go.Proofs.YtmkknklkdgkbaaaDoor
