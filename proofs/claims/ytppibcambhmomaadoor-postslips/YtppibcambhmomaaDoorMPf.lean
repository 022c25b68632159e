/- Read where it takes nothing; Read of all bytes. -/
import Derived.Test.YtppibcambhmomaaDoorMh
import Derived.Test.YtppibcambhmomaaDoorMKa
import Derived.Test.YtppibcambhmomaaDoorMPe
namespace Go.Proofs.YtppibcambhmomaaDoor
open Go.ChangeShapes Go.WideShapes Go.ChangeAt Go.RowKit
set_option maxRecDepth 20000
set_option linter.unusedVariables false
set_option linter.unusedSimpArgs false
theorem opn_err (l : List Nat) : (opn l).2 = 0 ∨ (opn l).2 = 5 ∨ (opn l).2 = 6 := by
  unfold opn
  split
  · exact .inr (.inl rfl)
  · split
    · exact .inl rfl
    · exact .inr (.inr rfl)
end Go.Proofs.YtppibcambhmomaaDoor
