/-
  DERIVED. GIVEN WITH THE SEED: THE CARDS: each row of YtmjcnlpjnbcfjacGreatDoorRows.lean that lists a variable, with what it lists TIED to the program's text (the seventh form; the later family's looks); each row that meets fmt, with fmt's text TOLD by the authors' own Lean function (tested against real Go, not proved from fmt's source: count such statements apart). THE CARD IS WHAT COUNTS. Prove the row's statement (the work); the ties are given (YtmjcnlpjnbcfjacGreatDoorTie.lean); close each card by the builder's one call (the guide's Derived/Test/ToyasCard.lean, 'card_holds'). Laid BY PROGRAM, IN A SANDBOX (cutbox-door.mjs). By AI agents, Wed Nov 11 2026. No macro, syntax, notation, axiom, sorry.
-/
import Derived.Test.YtmjcnlpjnbcfjacGreatDoorRows
import GoSem.ClaimSeven
namespace Go.Proofs.YtmjcnlpjnbcfjacGreatDoor
namespace Rows

/-- THE TIED CARD OF 'tallylaw1.RollTells'. -/
def rollTellsCard : Claim7 := { stood := { row := rollTellsRow, standIns := [], harness := (true, "d9f4afb42c466c72b9e2f33d8f376a033307a789d19ec38e15f445dbee2e8e9e"), looks := true }, kinds := [], alts := [], laidByText := true, laidKinds := [.handle], laidTests := true, laidLooks := .later }
def RollTellsCardSaid : Prop := Claim7.holds Tryz.pinned (.plain (OpenSpec.ofChange rollTellsSpec)) rollTellsCard

/-- THE SECOND FORM's CARD OF 'tallylaw1.RollTells'. -/
def rollTellsUptoCard : Claim7 := { stood := { row := rollTellsUptoRow, standIns := [], harness := (true, "d9f4afb42c466c72b9e2f33d8f376a033307a789d19ec38e15f445dbee2e8e9e"), looks := true }, kinds := [], alts := [], laidByText := true, laidKinds := [.handle], laidTests := true, laidLooks := .later }
def RollTellsUptoCardSaid : Prop := Claim7.holds Tryz.pinned (.plain (OpenSpec.upto rollTellsSpec)) rollTellsUptoCard
end Rows
end Go.Proofs.YtmjcnlpjnbcfjacGreatDoor
