/-
  DERIVED. GIVEN WITH THE SEED: THE CARDS: each row of YtfabnnbljkkihaaGreatDoorRows.lean that lists a variable, with what it lists TIED to the program's text (the seventh form; the later family's looks); each row that meets fmt, with fmt's text TOLD by the authors' own Lean function (tested against real Go, not proved from fmt's source: count such statements apart). THE CARD IS WHAT COUNTS. Prove the row's statement (the work); the ties are given (YtfabnnbljkkihaaGreatDoorTie.lean); close each card by the builder's one call (the guide's Derived/Test/ToyasCard.lean, 'card_holds'). Laid BY PROGRAM, IN A SANDBOX (cutbox-door.mjs). By AI agents, Wed Nov 11 2026. No macro, syntax, notation, axiom, sorry.
-/
import Derived.Test.YtfabnnbljkkihaaGreatDoorRows
import GoSem.ClaimSeven
namespace Go.Proofs.YtfabnnbljkkihaaGreatDoor
namespace Rows

/-- THE TIED CARD OF 'bollardlaw12.LedgerPuts'. -/
def ledgerPutsCard : Claim7 := { stood := { row := ledgerPutsRow, standIns := [], harness := (true, "d96ba60b0f0304d770542bff6683ba088c1af124397ef0773ec722b7efaecdc4"), looks := true }, kinds := [], alts := [], laidByText := true, laidKinds := [.data, .data, .data, .data, .sentinel, .sentinel, .sentinel, .sentinel, .sentinel, .sentinel, .sentinel, .sentinel, .sentinel, .sentinel, .sentinel, .sentinel, .sentinel, .sentinel, .sentinel, .sentinel, .sentinel, .sentinel], laidTests := true, laidLooks := .later }
def LedgerPutsCardSaid : Prop := Claim7.holds Tryz.pinned (.plain (OpenSpec.ofChange ledgerPutsSpec)) ledgerPutsCard

/-- THE TIED CARD OF 'bollardlaw12.LedgerBegins'. -/
def ledgerBeginsCard : Claim7 := { stood := { row := ledgerBeginsRow, standIns := [], harness := (true, "d96ba60b0f0304d770542bff6683ba088c1af124397ef0773ec722b7efaecdc4"), looks := true }, kinds := [], alts := [], laidByText := true, laidKinds := [.data, .data, .data, .data, .sentinel], laidTests := true, laidLooks := .later }
def LedgerBeginsCardSaid : Prop := Claim7.holds Tryz.pinned (.plain (OpenSpec.ofChange ledgerBeginsSpec)) ledgerBeginsCard

/-- THE TIED CARD OF 'bollardlaw12.LedgerGrows'. -/
def ledgerGrowsCard : Claim7 := { stood := { row := ledgerGrowsRow, standIns := [], harness := (true, "d96ba60b0f0304d770542bff6683ba088c1af124397ef0773ec722b7efaecdc4"), looks := true }, kinds := [], alts := [], laidByText := true, laidKinds := [.data, .data, .data, .data, .sentinel, .sentinel], laidTests := true, laidLooks := .later }
def LedgerGrowsCardSaid : Prop := Claim7.holds Tryz.pinned (.plain (OpenSpec.ofChange ledgerGrowsSpec)) ledgerGrowsCard

/-- THE TIED CARD OF 'bollardlaw11.CatalogApart'. -/
def catalogApartCard : Claim7 := { stood := { row := catalogApartRow, standIns := [], harness := (true, "d96ba60b0f0304d770542bff6683ba088c1af124397ef0773ec722b7efaecdc4"), looks := true }, kinds := [], alts := [], laidByText := true, laidKinds := [.data, .data, .data, .data], laidTests := true, laidLooks := .later }
def CatalogApartCardSaid : Prop := Claim7.holds Tryz.pinned (.plain (OpenSpec.ofChange catalogApartSpec)) catalogApartCard

/-- THE TIED CARD OF 'bollardlaw11.CatalogBack'. -/
def catalogBackCard : Claim7 := { stood := { row := catalogBackRow, standIns := [], harness := (true, "d96ba60b0f0304d770542bff6683ba088c1af124397ef0773ec722b7efaecdc4"), looks := true }, kinds := [], alts := [], laidByText := true, laidKinds := [.data, .data, .data, .data], laidTests := true, laidLooks := .later }
def CatalogBackCardSaid : Prop := Claim7.holds Tryz.pinned (.plain (OpenSpec.ofChange catalogBackSpec)) catalogBackCard

/-- THE TIED CARD OF 'bollardlaw11.CatalogOrdered'. -/
def catalogOrderedCard : Claim7 := { stood := { row := catalogOrderedRow, standIns := [], harness := (true, "d96ba60b0f0304d770542bff6683ba088c1af124397ef0773ec722b7efaecdc4"), looks := true }, kinds := [], alts := [], laidByText := true, laidKinds := [.data, .data, .data, .data], laidTests := true, laidLooks := .later }
def CatalogOrderedCardSaid : Prop := Claim7.holds Tryz.pinned (.plain (OpenSpec.ofChange catalogOrderedSpec)) catalogOrderedCard

/-- THE SECOND FORM's CARD OF 'bollardlaw12.LedgerPuts'. -/
def ledgerPutsUptoCard : Claim7 := { stood := { row := ledgerPutsUptoRow, standIns := [], harness := (true, "d96ba60b0f0304d770542bff6683ba088c1af124397ef0773ec722b7efaecdc4"), looks := true }, kinds := [], alts := [], laidByText := true, laidKinds := [.data, .data, .data, .data, .sentinel, .sentinel, .sentinel, .sentinel, .sentinel, .sentinel, .sentinel, .sentinel, .sentinel, .sentinel, .sentinel, .sentinel, .sentinel, .sentinel, .sentinel, .sentinel, .sentinel, .sentinel], laidTests := true, laidLooks := .later }
def LedgerPutsUptoCardSaid : Prop := Claim7.holds Tryz.pinned (.plain (OpenSpec.upto ledgerPutsSpec)) ledgerPutsUptoCard

/-- THE SECOND FORM's CARD OF 'bollardlaw12.LedgerBegins'. -/
def ledgerBeginsUptoCard : Claim7 := { stood := { row := ledgerBeginsUptoRow, standIns := [], harness := (true, "d96ba60b0f0304d770542bff6683ba088c1af124397ef0773ec722b7efaecdc4"), looks := true }, kinds := [], alts := [], laidByText := true, laidKinds := [.data, .data, .data, .data, .sentinel], laidTests := true, laidLooks := .later }
def LedgerBeginsUptoCardSaid : Prop := Claim7.holds Tryz.pinned (.plain (OpenSpec.upto ledgerBeginsSpec)) ledgerBeginsUptoCard

/-- THE SECOND FORM's CARD OF 'bollardlaw12.LedgerGrows'. -/
def ledgerGrowsUptoCard : Claim7 := { stood := { row := ledgerGrowsUptoRow, standIns := [], harness := (true, "d96ba60b0f0304d770542bff6683ba088c1af124397ef0773ec722b7efaecdc4"), looks := true }, kinds := [], alts := [], laidByText := true, laidKinds := [.data, .data, .data, .data, .sentinel, .sentinel], laidTests := true, laidLooks := .later }
def LedgerGrowsUptoCardSaid : Prop := Claim7.holds Tryz.pinned (.plain (OpenSpec.upto ledgerGrowsSpec)) ledgerGrowsUptoCard

/-- THE SECOND FORM's CARD OF 'bollardlaw11.CatalogApart'. -/
def catalogApartUptoCard : Claim7 := { stood := { row := catalogApartUptoRow, standIns := [], harness := (true, "d96ba60b0f0304d770542bff6683ba088c1af124397ef0773ec722b7efaecdc4"), looks := true }, kinds := [], alts := [], laidByText := true, laidKinds := [.data, .data, .data, .data], laidTests := true, laidLooks := .later }
def CatalogApartUptoCardSaid : Prop := Claim7.holds Tryz.pinned (.plain (OpenSpec.upto catalogApartSpec)) catalogApartUptoCard

/-- THE SECOND FORM's CARD OF 'bollardlaw11.CatalogBack'. -/
def catalogBackUptoCard : Claim7 := { stood := { row := catalogBackUptoRow, standIns := [], harness := (true, "d96ba60b0f0304d770542bff6683ba088c1af124397ef0773ec722b7efaecdc4"), looks := true }, kinds := [], alts := [], laidByText := true, laidKinds := [.data, .data, .data, .data], laidTests := true, laidLooks := .later }
def CatalogBackUptoCardSaid : Prop := Claim7.holds Tryz.pinned (.plain (OpenSpec.upto catalogBackSpec)) catalogBackUptoCard

/-- THE SECOND FORM's CARD OF 'bollardlaw11.CatalogOrdered'. -/
def catalogOrderedUptoCard : Claim7 := { stood := { row := catalogOrderedUptoRow, standIns := [], harness := (true, "d96ba60b0f0304d770542bff6683ba088c1af124397ef0773ec722b7efaecdc4"), looks := true }, kinds := [], alts := [], laidByText := true, laidKinds := [.data, .data, .data, .data], laidTests := true, laidLooks := .later }
def CatalogOrderedUptoCardSaid : Prop := Claim7.holds Tryz.pinned (.plain (OpenSpec.upto catalogOrderedSpec)) catalogOrderedUptoCard
end Rows
end Go.Proofs.YtfabnnbljkkihaaGreatDoor
