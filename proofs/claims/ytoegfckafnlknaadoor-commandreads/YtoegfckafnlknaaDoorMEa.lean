import Derived.Test.YtoegfckafnlknaaDoorMCh
import Derived.Test.YtoegfckafnlknaaDoorMYb
/- Ea -/
/- The document's bytes of numbers (nums, f41). -/
namespace Go.Proofs.YtoegfckafnlknaaDoor
open Go.ChangeShapes Go.WideShapes Go.ChangeAt Go.RowKit
set_option maxRecDepth 20000
set_option linter.unusedVariables false
set_option linter.unusedSimpArgs false
/- a row that grows: where it lay, it may be written -/
structure Gr (w W : World) (B : Nat) (a0 a : Option Addr) (n c : Nat) (L : List Nat) : Prop where
  own : Own W B a n c L
  ch : Ch w W (fun q => blkOf a0 = some q)
  nw : New w a0 a
theorem Gr.refl {w : World} {B : Nat} {a : Option Addr} {n c : Nat} {L : List Nat} (h : Own w B a n c L) : Gr w w B a a n c L := ⟨h, Ch.refl _ _, fun q hq => .inl hq⟩
end Go.Proofs.YtoegfckafnlknaaDoor
