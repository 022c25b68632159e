/-
  DERIVED. GIVEN WITH THE SEED: THE CARDS: each row of YtokkjdgfhpocdabDoorRows.lean that lists a variable, with what it lists TIED to the program's text (the seventh form; the later family's looks); each row that meets fmt, with fmt's text TOLD by the authors' own Lean function (tested against real Go, not proved from fmt's source: count such statements apart). THE CARD IS WHAT COUNTS. Prove the row's statement (the work); the ties are given (YtokkjdgfhpocdabDoorTie.lean); close each card by the builder's one call (the guide's Derived/Test/ToyasCard.lean, 'card_holds'). Laid BY PROGRAM, IN A SANDBOX (cutbox-door.mjs). By AI agents, Wed Nov 11 2026. No macro, syntax, notation, axiom, sorry.
-/
import Derived.Test.YtokkjdgfhpocdabDoorRows
import GoSem.ClaimSeven
namespace Go.Proofs.YtokkjdgfhpocdabDoor
namespace Rows

/-- THE TIED CARD OF 'bollardlaw02.RsSystematic'. -/
def rsSystematicCard : Claim7 := { stood := { row := rsSystematicRow, standIns := [], harness := (true, "e7288bc3959df45d00047c23a6a41947163a100ce4eaa43b6103cada153f69ea"), looks := false }, kinds := [], alts := [], laidByText := true, laidKinds := [.sentinel, .sentinel, .sentinel, .sentinel], laidTests := true, laidLooks := .later }
def RsSystematicCardSaid : Prop := Claim7.holds Tryd.pinned (.plain (OpenSpec.ofChange rsSystematicSpec)) rsSystematicCard

/-- THE SECOND FORM's CARD OF 'bollardlaw02.RsSystematic'. -/
def rsSystematicUptoCard : Claim7 := { stood := { row := rsSystematicUptoRow, standIns := [], harness := (true, "e7288bc3959df45d00047c23a6a41947163a100ce4eaa43b6103cada153f69ea"), looks := false }, kinds := [], alts := [], laidByText := true, laidKinds := [.sentinel, .sentinel, .sentinel, .sentinel], laidTests := true, laidLooks := .later }
def RsSystematicUptoCardSaid : Prop := Claim7.holds Tryd.pinned (.plain (OpenSpec.upto rsSystematicSpec)) rsSystematicUptoCard
end Rows
end Go.Proofs.YtokkjdgfhpocdabDoor
