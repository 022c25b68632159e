/-
  DERIVED. GIVEN WITH THE SEED: THE CARDS: each row of YtokkjdgfhpocdaaDoorRows.lean that lists a variable, with what it lists TIED to the program's text (the seventh form; the later family's looks); each row that meets fmt, with fmt's text TOLD by the authors' own Lean function (tested against real Go, not proved from fmt's source: count such statements apart). THE CARD IS WHAT COUNTS. Prove the row's statement (the work); the ties are given (YtokkjdgfhpocdaaDoorTie.lean); close each card by the builder's one call (the guide's Derived/Test/ToyasCard.lean, 'card_holds'). Laid BY PROGRAM, IN A SANDBOX (cutbox-door.mjs). By AI agents, Wed Nov 11 2026. No macro, syntax, notation, axiom, sorry.
-/
import Derived.Test.YtokkjdgfhpocdaaDoorRows
import GoSem.ClaimSeven
namespace Go.Proofs.YtokkjdgfhpocdaaDoor
namespace Rows

/-- THE TIED CARD OF 'bollardlaw02.RsSizes'. -/
def rsSizesCard : Claim7 := { stood := { row := rsSizesRow, standIns := [], harness := (true, "3e8112d483d638a559d949464c83daa46c4079f7a9a4d666af1ab4c2acf4a805"), looks := true }, kinds := [], alts := [], laidByText := true, laidKinds := [.sentinel, .sentinel, .sentinel, .sentinel, .sentinel, .sentinel, .sentinel, .sentinel, .sentinel, .sentinel, .sentinel, .sentinel, .sentinel, .sentinel, .sentinel, .sentinel, .sentinel, .sentinel], laidTests := true, laidLooks := .later }
def RsSizesCardSaid : Prop := Claim7.holds Tryd.pinned (.plain (OpenSpec.ofChange rsSizesSpec)) rsSizesCard

/-- THE TIED CARD OF 'bollardlaw02.RsEncodes'. -/
def rsEncodesCard : Claim7 := { stood := { row := rsEncodesRow, standIns := [], harness := (true, "3e8112d483d638a559d949464c83daa46c4079f7a9a4d666af1ab4c2acf4a805"), looks := true }, kinds := [], alts := [], laidByText := true, laidKinds := [.sentinel, .sentinel, .sentinel, .sentinel, .sentinel, .sentinel, .sentinel, .sentinel, .sentinel, .sentinel, .sentinel, .sentinel, .sentinel, .sentinel, .sentinel, .sentinel, .sentinel, .sentinel], laidTests := true, laidLooks := .later }
def RsEncodesCardSaid : Prop := Claim7.holds Tryd.pinned (.plain (OpenSpec.ofChange rsEncodesSpec)) rsEncodesCard

/-- THE TIED CARD OF 'bollardlaw02.RsDecodes'. -/
def rsDecodesCard : Claim7 := { stood := { row := rsDecodesRow, standIns := [], harness := (true, "3e8112d483d638a559d949464c83daa46c4079f7a9a4d666af1ab4c2acf4a805"), looks := true }, kinds := [], alts := [], laidByText := true, laidKinds := [.sentinel, .sentinel, .sentinel, .sentinel, .sentinel, .sentinel, .sentinel, .sentinel, .sentinel, .sentinel, .sentinel, .sentinel, .sentinel, .sentinel, .sentinel, .sentinel, .sentinel, .sentinel], laidTests := true, laidLooks := .later }
def RsDecodesCardSaid : Prop := Claim7.holds Tryd.pinned (.plain (OpenSpec.ofChange rsDecodesSpec)) rsDecodesCard

/-- THE TIED CARD OF 'bollardlaw02.RsAny'. -/
def rsAnyCard : Claim7 := { stood := { row := rsAnyRow, standIns := [], harness := (true, "3e8112d483d638a559d949464c83daa46c4079f7a9a4d666af1ab4c2acf4a805"), looks := true }, kinds := [], alts := [], laidByText := true, laidKinds := [.sentinel, .sentinel, .sentinel, .sentinel], laidTests := true, laidLooks := .later }
def RsAnyCardSaid : Prop := Claim7.holds Tryd.pinned (.plain (OpenSpec.ofChange rsAnySpec)) rsAnyCard

/-- THE TIED CARD OF 'bollardlaw02.RsLinear'. -/
def rsLinearCard : Claim7 := { stood := { row := rsLinearRow, standIns := [], harness := (true, "3e8112d483d638a559d949464c83daa46c4079f7a9a4d666af1ab4c2acf4a805"), looks := true }, kinds := [], alts := [], laidByText := true, laidKinds := [.sentinel, .sentinel, .sentinel, .sentinel], laidTests := true, laidLooks := .later }
def RsLinearCardSaid : Prop := Claim7.holds Tryd.pinned (.plain (OpenSpec.ofChange rsLinearSpec)) rsLinearCard

/-- THE TIED CARD OF 'bollardlaw02.RsFew'. -/
def rsFewCard : Claim7 := { stood := { row := rsFewRow, standIns := [], harness := (true, "3e8112d483d638a559d949464c83daa46c4079f7a9a4d666af1ab4c2acf4a805"), looks := true }, kinds := [], alts := [], laidByText := true, laidKinds := [.sentinel, .sentinel, .sentinel, .sentinel], laidTests := true, laidLooks := .later }
def RsFewCardSaid : Prop := Claim7.holds Tryd.pinned (.plain (OpenSpec.ofChange rsFewSpec)) rsFewCard

/-- THE SECOND FORM's CARD OF 'bollardlaw02.RsSizes'. -/
def rsSizesUptoCard : Claim7 := { stood := { row := rsSizesUptoRow, standIns := [], harness := (true, "3e8112d483d638a559d949464c83daa46c4079f7a9a4d666af1ab4c2acf4a805"), looks := true }, kinds := [], alts := [], laidByText := true, laidKinds := [.sentinel, .sentinel, .sentinel, .sentinel, .sentinel, .sentinel, .sentinel, .sentinel, .sentinel, .sentinel, .sentinel, .sentinel, .sentinel, .sentinel, .sentinel, .sentinel, .sentinel, .sentinel], laidTests := true, laidLooks := .later }
def RsSizesUptoCardSaid : Prop := Claim7.holds Tryd.pinned (.plain (OpenSpec.upto rsSizesSpec)) rsSizesUptoCard

/-- THE SECOND FORM's CARD OF 'bollardlaw02.RsEncodes'. -/
def rsEncodesUptoCard : Claim7 := { stood := { row := rsEncodesUptoRow, standIns := [], harness := (true, "3e8112d483d638a559d949464c83daa46c4079f7a9a4d666af1ab4c2acf4a805"), looks := true }, kinds := [], alts := [], laidByText := true, laidKinds := [.sentinel, .sentinel, .sentinel, .sentinel, .sentinel, .sentinel, .sentinel, .sentinel, .sentinel, .sentinel, .sentinel, .sentinel, .sentinel, .sentinel, .sentinel, .sentinel, .sentinel, .sentinel], laidTests := true, laidLooks := .later }
def RsEncodesUptoCardSaid : Prop := Claim7.holds Tryd.pinned (.plain (OpenSpec.upto rsEncodesSpec)) rsEncodesUptoCard

/-- THE SECOND FORM's CARD OF 'bollardlaw02.RsDecodes'. -/
def rsDecodesUptoCard : Claim7 := { stood := { row := rsDecodesUptoRow, standIns := [], harness := (true, "3e8112d483d638a559d949464c83daa46c4079f7a9a4d666af1ab4c2acf4a805"), looks := true }, kinds := [], alts := [], laidByText := true, laidKinds := [.sentinel, .sentinel, .sentinel, .sentinel, .sentinel, .sentinel, .sentinel, .sentinel, .sentinel, .sentinel, .sentinel, .sentinel, .sentinel, .sentinel, .sentinel, .sentinel, .sentinel, .sentinel], laidTests := true, laidLooks := .later }
def RsDecodesUptoCardSaid : Prop := Claim7.holds Tryd.pinned (.plain (OpenSpec.upto rsDecodesSpec)) rsDecodesUptoCard

/-- THE SECOND FORM's CARD OF 'bollardlaw02.RsAny'. -/
def rsAnyUptoCard : Claim7 := { stood := { row := rsAnyUptoRow, standIns := [], harness := (true, "3e8112d483d638a559d949464c83daa46c4079f7a9a4d666af1ab4c2acf4a805"), looks := true }, kinds := [], alts := [], laidByText := true, laidKinds := [.sentinel, .sentinel, .sentinel, .sentinel], laidTests := true, laidLooks := .later }
def RsAnyUptoCardSaid : Prop := Claim7.holds Tryd.pinned (.plain (OpenSpec.upto rsAnySpec)) rsAnyUptoCard

/-- THE SECOND FORM's CARD OF 'bollardlaw02.RsLinear'. -/
def rsLinearUptoCard : Claim7 := { stood := { row := rsLinearUptoRow, standIns := [], harness := (true, "3e8112d483d638a559d949464c83daa46c4079f7a9a4d666af1ab4c2acf4a805"), looks := true }, kinds := [], alts := [], laidByText := true, laidKinds := [.sentinel, .sentinel, .sentinel, .sentinel], laidTests := true, laidLooks := .later }
def RsLinearUptoCardSaid : Prop := Claim7.holds Tryd.pinned (.plain (OpenSpec.upto rsLinearSpec)) rsLinearUptoCard

/-- THE SECOND FORM's CARD OF 'bollardlaw02.RsFew'. -/
def rsFewUptoCard : Claim7 := { stood := { row := rsFewUptoRow, standIns := [], harness := (true, "3e8112d483d638a559d949464c83daa46c4079f7a9a4d666af1ab4c2acf4a805"), looks := true }, kinds := [], alts := [], laidByText := true, laidKinds := [.sentinel, .sentinel, .sentinel, .sentinel], laidTests := true, laidLooks := .later }
def RsFewUptoCardSaid : Prop := Claim7.holds Tryd.pinned (.plain (OpenSpec.upto rsFewSpec)) rsFewUptoCard
end Rows
end Go.Proofs.YtokkjdgfhpocdaaDoor
