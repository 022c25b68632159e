/- The law ShaSums walked, the document's own Sum by a contract that is handed in: it returns true, and changes nothing that was there. -/
import Derived.Test.YtmkknklkdgkbaaaDoorSj
namespace Go.Proofs.YtmkknklkdgkbaaaDoor
open Go.ChangeShapes Go.WideShapes Go.ChangeAt Go.RowKit
set_option linter.unusedVariables false
set_option linter.unusedSimpArgs false
/- what the document's Sum is to do -/
def RefSum : Prop := ∀ (w : World) (a : Option Addr) (n k : Nat) (l : List Nat), Hid (Sln w a n l) → Hid (a = none → k = 0) → Calls Tryd.prog 32 #[.slice a n k] w fun e w' => ∃ d, e = .returned (.agg (cs .u8 d)) ∧ Hid (d = Gs.sum l ∧ Below w.heap.size w w')
end Go.Proofs.YtmkknklkdgkbaaaDoor
