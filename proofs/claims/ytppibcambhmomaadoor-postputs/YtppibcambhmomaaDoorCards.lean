/-
  DERIVED. GIVEN WITH THE SEED: THE CARDS: each row of YtppibcambhmomaaDoorRows.lean that lists a variable, with what it lists TIED to the program's text (the seventh form; the later family's looks); each row that meets fmt, with fmt's text TOLD by the authors' own Lean function (tested against real Go, not proved from fmt's source: count such statements apart). THE CARD IS WHAT COUNTS. Prove the row's statement (the work); the ties are given (YtppibcambhmomaaDoorTie.lean); close each card by the builder's one call (the guide's Derived/Test/ToyasCard.lean, 'card_holds'). Laid BY PROGRAM, IN A SANDBOX (cutbox-door.mjs). By AI agents, Wed Nov 11 2026. No macro, syntax, notation, axiom, sorry.
-/
import Derived.Test.YtppibcambhmomaaDoorRows
import GoSem.ClaimSeven
namespace Go.Proofs.YtppibcambhmomaaDoor
namespace Rows

/-- THE TIED CARD OF 'bollardlaw15.PostPuts'. -/
def postPutsCard : Claim7 := { stood := { row := postPutsRow, standIns := [], harness := (true, "75f7509bd79865b6beb48f24d88747a8e0148b2c496bec80a6f895b931305198"), looks := true }, kinds := [], alts := [], laidByText := true, laidKinds := [.sentinel, .sentinel, .sentinel, .sentinel, .sentinel], laidTests := true, laidLooks := .later }
def PostPutsCardSaid : Prop := Claim7.holds Tryd.pinned (.plain (OpenSpec.ofChange postPutsSpec)) postPutsCard

/-- THE TIED CARD OF 'bollardlaw15.PostSlips'. -/
def postSlipsCard : Claim7 := { stood := { row := postSlipsRow, standIns := [], harness := (true, "75f7509bd79865b6beb48f24d88747a8e0148b2c496bec80a6f895b931305198"), looks := true }, kinds := [], alts := [], laidByText := true, laidKinds := [.sentinel, .sentinel, .sentinel, .sentinel, .sentinel], laidTests := true, laidLooks := .later }
def PostSlipsCardSaid : Prop := Claim7.holds Tryd.pinned (.plain (OpenSpec.ofChange postSlipsSpec)) postSlipsCard

/-- THE TIED CARD OF 'bollardlaw15.PostUnlike'. -/
def postUnlikeCard : Claim7 := { stood := { row := postUnlikeRow, standIns := [], harness := (true, "75f7509bd79865b6beb48f24d88747a8e0148b2c496bec80a6f895b931305198"), looks := true }, kinds := [], alts := [], laidByText := true, laidKinds := [.sentinel, .sentinel, .sentinel, .sentinel, .sentinel], laidTests := true, laidLooks := .later }
def PostUnlikeCardSaid : Prop := Claim7.holds Tryd.pinned (.plain (OpenSpec.ofChange postUnlikeSpec)) postUnlikeCard

/-- THE SECOND FORM's CARD OF 'bollardlaw15.PostPuts'. -/
def postPutsUptoCard : Claim7 := { stood := { row := postPutsUptoRow, standIns := [], harness := (true, "75f7509bd79865b6beb48f24d88747a8e0148b2c496bec80a6f895b931305198"), looks := true }, kinds := [], alts := [], laidByText := true, laidKinds := [.sentinel, .sentinel, .sentinel, .sentinel, .sentinel], laidTests := true, laidLooks := .later }
def PostPutsUptoCardSaid : Prop := Claim7.holds Tryd.pinned (.plain (OpenSpec.upto postPutsSpec)) postPutsUptoCard

/-- THE SECOND FORM's CARD OF 'bollardlaw15.PostSlips'. -/
def postSlipsUptoCard : Claim7 := { stood := { row := postSlipsUptoRow, standIns := [], harness := (true, "75f7509bd79865b6beb48f24d88747a8e0148b2c496bec80a6f895b931305198"), looks := true }, kinds := [], alts := [], laidByText := true, laidKinds := [.sentinel, .sentinel, .sentinel, .sentinel, .sentinel], laidTests := true, laidLooks := .later }
def PostSlipsUptoCardSaid : Prop := Claim7.holds Tryd.pinned (.plain (OpenSpec.upto postSlipsSpec)) postSlipsUptoCard

/-- THE SECOND FORM's CARD OF 'bollardlaw15.PostUnlike'. -/
def postUnlikeUptoCard : Claim7 := { stood := { row := postUnlikeUptoRow, standIns := [], harness := (true, "75f7509bd79865b6beb48f24d88747a8e0148b2c496bec80a6f895b931305198"), looks := true }, kinds := [], alts := [], laidByText := true, laidKinds := [.sentinel, .sentinel, .sentinel, .sentinel, .sentinel], laidTests := true, laidLooks := .later }
def PostUnlikeUptoCardSaid : Prop := Claim7.holds Tryd.pinned (.plain (OpenSpec.upto postUnlikeSpec)) postUnlikeUptoCard
end Rows
end Go.Proofs.YtppibcambhmomaaDoor
