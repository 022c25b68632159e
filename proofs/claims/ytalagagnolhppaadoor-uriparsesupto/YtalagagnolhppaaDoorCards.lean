/-
  DERIVED. GIVEN WITH THE SEED: THE CARDS: each row of YtalagagnolhppaaDoorRows.lean that lists a variable, with what it lists TIED to the program's text (the seventh form; the later family's looks); each row that meets fmt, with fmt's text TOLD by the authors' own Lean function (tested against real Go, not proved from fmt's source: count such statements apart). THE CARD IS WHAT COUNTS. Prove the row's statement (the work); the ties are given (YtalagagnolhppaaDoorTie.lean); close each card by the builder's one call (the guide's Derived/Test/ToyasCard.lean, 'card_holds'). Laid BY PROGRAM, IN A SANDBOX (cutbox-door.mjs). By AI agents, Wed Nov 11 2026. No macro, syntax, notation, axiom, sorry.
-/
import Derived.Test.YtalagagnolhppaaDoorRows
import GoSem.ClaimSeven
namespace Go.Proofs.YtalagagnolhppaaDoor
namespace Rows

/-- THE TIED CARD OF 'bollardlaw17.UriParses'. -/
def uriParsesCard : Claim7 := { stood := { row := uriParsesRow, standIns := [], harness := (true, "0c2b728d2a782059f3c67014cb5dfbf5795bb6b178f1901c8e289af60d6966a0"), looks := true }, kinds := [], alts := [], laidByText := true, laidKinds := [.sentinel], laidTests := true, laidLooks := .later }
def UriParsesCardSaid : Prop := Claim7.holds Tryd.pinned (.plain (OpenSpec.ofChange uriParsesSpec)) uriParsesCard

/-- THE TIED CARD OF 'bollardlaw17.UriWrites'. -/
def uriWritesCard : Claim7 := { stood := { row := uriWritesRow, standIns := [], harness := (true, "0c2b728d2a782059f3c67014cb5dfbf5795bb6b178f1901c8e289af60d6966a0"), looks := true }, kinds := [], alts := [], laidByText := true, laidKinds := [.sentinel], laidTests := true, laidLooks := .later }
def UriWritesCardSaid : Prop := Claim7.holds Tryd.pinned (.plain (OpenSpec.ofChange uriWritesSpec)) uriWritesCard

/-- THE TIED CARD OF 'bollardlaw17.UriBack'. -/
def uriBackCard : Claim7 := { stood := { row := uriBackRow, standIns := [], harness := (true, "0c2b728d2a782059f3c67014cb5dfbf5795bb6b178f1901c8e289af60d6966a0"), looks := true }, kinds := [], alts := [], laidByText := true, laidKinds := [.sentinel], laidTests := true, laidLooks := .later }
def UriBackCardSaid : Prop := Claim7.holds Tryd.pinned (.plain (OpenSpec.ofChange uriBackSpec)) uriBackCard

/-- THE TIED CARD OF 'bollardlaw17.UriTexts'. -/
def uriTextsCard : Claim7 := { stood := { row := uriTextsRow, standIns := [], harness := (true, "0c2b728d2a782059f3c67014cb5dfbf5795bb6b178f1901c8e289af60d6966a0"), looks := true }, kinds := [], alts := [], laidByText := true, laidKinds := [.sentinel], laidTests := true, laidLooks := .later }
def UriTextsCardSaid : Prop := Claim7.holds Tryd.pinned (.plain (OpenSpec.ofChange uriTextsSpec)) uriTextsCard

/-- THE TIED CARD OF 'bollardlaw17.UriPlain'. -/
def uriPlainCard : Claim7 := { stood := { row := uriPlainRow, standIns := [], harness := (true, "0c2b728d2a782059f3c67014cb5dfbf5795bb6b178f1901c8e289af60d6966a0"), looks := true }, kinds := [], alts := [], laidByText := true, laidKinds := [.sentinel], laidTests := true, laidLooks := .later }
def UriPlainCardSaid : Prop := Claim7.holds Tryd.pinned (.plain (OpenSpec.ofChange uriPlainSpec)) uriPlainCard

/-- THE SECOND FORM's CARD OF 'bollardlaw17.UriParses'. -/
def uriParsesUptoCard : Claim7 := { stood := { row := uriParsesUptoRow, standIns := [], harness := (true, "0c2b728d2a782059f3c67014cb5dfbf5795bb6b178f1901c8e289af60d6966a0"), looks := true }, kinds := [], alts := [], laidByText := true, laidKinds := [.sentinel], laidTests := true, laidLooks := .later }
def UriParsesUptoCardSaid : Prop := Claim7.holds Tryd.pinned (.plain (OpenSpec.upto uriParsesSpec)) uriParsesUptoCard

/-- THE SECOND FORM's CARD OF 'bollardlaw17.UriWrites'. -/
def uriWritesUptoCard : Claim7 := { stood := { row := uriWritesUptoRow, standIns := [], harness := (true, "0c2b728d2a782059f3c67014cb5dfbf5795bb6b178f1901c8e289af60d6966a0"), looks := true }, kinds := [], alts := [], laidByText := true, laidKinds := [.sentinel], laidTests := true, laidLooks := .later }
def UriWritesUptoCardSaid : Prop := Claim7.holds Tryd.pinned (.plain (OpenSpec.upto uriWritesSpec)) uriWritesUptoCard

/-- THE SECOND FORM's CARD OF 'bollardlaw17.UriBack'. -/
def uriBackUptoCard : Claim7 := { stood := { row := uriBackUptoRow, standIns := [], harness := (true, "0c2b728d2a782059f3c67014cb5dfbf5795bb6b178f1901c8e289af60d6966a0"), looks := true }, kinds := [], alts := [], laidByText := true, laidKinds := [.sentinel], laidTests := true, laidLooks := .later }
def UriBackUptoCardSaid : Prop := Claim7.holds Tryd.pinned (.plain (OpenSpec.upto uriBackSpec)) uriBackUptoCard

/-- THE SECOND FORM's CARD OF 'bollardlaw17.UriTexts'. -/
def uriTextsUptoCard : Claim7 := { stood := { row := uriTextsUptoRow, standIns := [], harness := (true, "0c2b728d2a782059f3c67014cb5dfbf5795bb6b178f1901c8e289af60d6966a0"), looks := true }, kinds := [], alts := [], laidByText := true, laidKinds := [.sentinel], laidTests := true, laidLooks := .later }
def UriTextsUptoCardSaid : Prop := Claim7.holds Tryd.pinned (.plain (OpenSpec.upto uriTextsSpec)) uriTextsUptoCard

/-- THE SECOND FORM's CARD OF 'bollardlaw17.UriPlain'. -/
def uriPlainUptoCard : Claim7 := { stood := { row := uriPlainUptoRow, standIns := [], harness := (true, "0c2b728d2a782059f3c67014cb5dfbf5795bb6b178f1901c8e289af60d6966a0"), looks := true }, kinds := [], alts := [], laidByText := true, laidKinds := [.sentinel], laidTests := true, laidLooks := .later }
def UriPlainUptoCardSaid : Prop := Claim7.holds Tryd.pinned (.plain (OpenSpec.upto uriPlainSpec)) uriPlainUptoCard
end Rows
end Go.Proofs.YtalagagnolhppaaDoor
