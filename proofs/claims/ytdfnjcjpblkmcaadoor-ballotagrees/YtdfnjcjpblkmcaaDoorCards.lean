/-
  DERIVED. GIVEN WITH THE SEED: THE CARDS: each row of YtdfnjcjpblkmcaaDoorRows.lean that lists a variable, with what it lists TIED to the program's text (the seventh form; the later family's looks); each row that meets fmt, with fmt's text TOLD by the authors' own Lean function (tested against real Go, not proved from fmt's source: count such statements apart). THE CARD IS WHAT COUNTS. Prove the row's statement (the work); the ties are given (YtdfnjcjpblkmcaaDoorTie.lean); close each card by the builder's one call (the guide's Derived/Test/ToyasCard.lean, 'card_holds'). Laid BY PROGRAM, IN A SANDBOX (cutbox-door.mjs). By AI agents, Wed Nov 11 2026. No macro, syntax, notation, axiom, sorry.
-/
import Derived.Test.YtdfnjcjpblkmcaaDoorRows
import GoSem.ClaimSeven
namespace Go.Proofs.YtdfnjcjpblkmcaaDoor
namespace Rows

/-- THE TIED CARD OF 'bollardlaw09.BallotPlays'. -/
def ballotPlaysCard : Claim7 := { stood := { row := ballotPlaysRow, standIns := [], harness := (true, "7dca86b87e1c1fbffe1bf62323a8ac5c3d596aaa8c5c4be13acdb14cf21e0bfa"), looks := true }, kinds := [], alts := [], laidByText := true, laidKinds := [.sentinel, .sentinel, .sentinel, .sentinel, .sentinel, .sentinel, .sentinel, .sentinel, .sentinel, .sentinel, .sentinel, .sentinel, .sentinel, .sentinel, .sentinel, .sentinel, .sentinel, .sentinel], laidTests := true, laidLooks := .later }
def BallotPlaysCardSaid : Prop := Claim7.holds Tryd.pinned (.plain (OpenSpec.ofChange ballotPlaysSpec)) ballotPlaysCard

/-- THE TIED CARD OF 'bollardlaw09.BallotNumbers'. -/
def ballotNumbersCard : Claim7 := { stood := { row := ballotNumbersRow, standIns := [], harness := (true, "7dca86b87e1c1fbffe1bf62323a8ac5c3d596aaa8c5c4be13acdb14cf21e0bfa"), looks := true }, kinds := [], alts := [], laidByText := true, laidKinds := [.sentinel, .sentinel], laidTests := true, laidLooks := .later }
def BallotNumbersCardSaid : Prop := Claim7.holds Tryd.pinned (.plain (OpenSpec.ofChange ballotNumbersSpec)) ballotNumbersCard

/-- THE TIED CARD OF 'bollardlaw09.BallotRises'. -/
def ballotRisesCard : Claim7 := { stood := { row := ballotRisesRow, standIns := [], harness := (true, "7dca86b87e1c1fbffe1bf62323a8ac5c3d596aaa8c5c4be13acdb14cf21e0bfa"), looks := true }, kinds := [], alts := [], laidByText := true, laidKinds := [.sentinel, .sentinel, .sentinel], laidTests := true, laidLooks := .later }
def BallotRisesCardSaid : Prop := Claim7.holds Tryd.pinned (.plain (OpenSpec.ofChange ballotRisesSpec)) ballotRisesCard

/-- THE TIED CARD OF 'bollardlaw09.BallotAgrees'. -/
def ballotAgreesCard : Claim7 := { stood := { row := ballotAgreesRow, standIns := [], harness := (true, "7dca86b87e1c1fbffe1bf62323a8ac5c3d596aaa8c5c4be13acdb14cf21e0bfa"), looks := true }, kinds := [], alts := [], laidByText := true, laidKinds := [.sentinel, .sentinel], laidTests := true, laidLooks := .later }
def BallotAgreesCardSaid : Prop := Claim7.holds Tryd.pinned (.plain (OpenSpec.ofChange ballotAgreesSpec)) ballotAgreesCard

/-- THE TIED CARD OF 'bollardlaw09.BallotKeeps'. -/
def ballotKeepsCard : Claim7 := { stood := { row := ballotKeepsRow, standIns := [], harness := (true, "7dca86b87e1c1fbffe1bf62323a8ac5c3d596aaa8c5c4be13acdb14cf21e0bfa"), looks := true }, kinds := [], alts := [], laidByText := true, laidKinds := [.sentinel, .sentinel, .sentinel, .sentinel, .sentinel, .sentinel, .sentinel, .sentinel, .sentinel, .sentinel, .sentinel, .sentinel, .sentinel, .sentinel, .sentinel, .sentinel, .sentinel, .sentinel], laidTests := true, laidLooks := .later }
def BallotKeepsCardSaid : Prop := Claim7.holds Tryd.pinned (.plain (OpenSpec.ofChange ballotKeepsSpec)) ballotKeepsCard

/-- THE SECOND FORM's CARD OF 'bollardlaw09.BallotPlays'. -/
def ballotPlaysUptoCard : Claim7 := { stood := { row := ballotPlaysUptoRow, standIns := [], harness := (true, "7dca86b87e1c1fbffe1bf62323a8ac5c3d596aaa8c5c4be13acdb14cf21e0bfa"), looks := true }, kinds := [], alts := [], laidByText := true, laidKinds := [.sentinel, .sentinel, .sentinel, .sentinel, .sentinel, .sentinel, .sentinel, .sentinel, .sentinel, .sentinel, .sentinel, .sentinel, .sentinel, .sentinel, .sentinel, .sentinel, .sentinel, .sentinel], laidTests := true, laidLooks := .later }
def BallotPlaysUptoCardSaid : Prop := Claim7.holds Tryd.pinned (.plain (OpenSpec.upto ballotPlaysSpec)) ballotPlaysUptoCard

/-- THE SECOND FORM's CARD OF 'bollardlaw09.BallotNumbers'. -/
def ballotNumbersUptoCard : Claim7 := { stood := { row := ballotNumbersUptoRow, standIns := [], harness := (true, "7dca86b87e1c1fbffe1bf62323a8ac5c3d596aaa8c5c4be13acdb14cf21e0bfa"), looks := true }, kinds := [], alts := [], laidByText := true, laidKinds := [.sentinel, .sentinel], laidTests := true, laidLooks := .later }
def BallotNumbersUptoCardSaid : Prop := Claim7.holds Tryd.pinned (.plain (OpenSpec.upto ballotNumbersSpec)) ballotNumbersUptoCard

/-- THE SECOND FORM's CARD OF 'bollardlaw09.BallotRises'. -/
def ballotRisesUptoCard : Claim7 := { stood := { row := ballotRisesUptoRow, standIns := [], harness := (true, "7dca86b87e1c1fbffe1bf62323a8ac5c3d596aaa8c5c4be13acdb14cf21e0bfa"), looks := true }, kinds := [], alts := [], laidByText := true, laidKinds := [.sentinel, .sentinel, .sentinel], laidTests := true, laidLooks := .later }
def BallotRisesUptoCardSaid : Prop := Claim7.holds Tryd.pinned (.plain (OpenSpec.upto ballotRisesSpec)) ballotRisesUptoCard

/-- THE SECOND FORM's CARD OF 'bollardlaw09.BallotAgrees'. -/
def ballotAgreesUptoCard : Claim7 := { stood := { row := ballotAgreesUptoRow, standIns := [], harness := (true, "7dca86b87e1c1fbffe1bf62323a8ac5c3d596aaa8c5c4be13acdb14cf21e0bfa"), looks := true }, kinds := [], alts := [], laidByText := true, laidKinds := [.sentinel, .sentinel], laidTests := true, laidLooks := .later }
def BallotAgreesUptoCardSaid : Prop := Claim7.holds Tryd.pinned (.plain (OpenSpec.upto ballotAgreesSpec)) ballotAgreesUptoCard

/-- THE SECOND FORM's CARD OF 'bollardlaw09.BallotKeeps'. -/
def ballotKeepsUptoCard : Claim7 := { stood := { row := ballotKeepsUptoRow, standIns := [], harness := (true, "7dca86b87e1c1fbffe1bf62323a8ac5c3d596aaa8c5c4be13acdb14cf21e0bfa"), looks := true }, kinds := [], alts := [], laidByText := true, laidKinds := [.sentinel, .sentinel, .sentinel, .sentinel, .sentinel, .sentinel, .sentinel, .sentinel, .sentinel, .sentinel, .sentinel, .sentinel, .sentinel, .sentinel, .sentinel, .sentinel, .sentinel, .sentinel], laidTests := true, laidLooks := .later }
def BallotKeepsUptoCardSaid : Prop := Claim7.holds Tryd.pinned (.plain (OpenSpec.upto ballotKeepsSpec)) ballotKeepsUptoCard
end Rows
end Go.Proofs.YtdfnjcjpblkmcaaDoor
