/-
  DERIVED. GIVEN WITH THE SEED: THE CARDS: each row of YtfemjinbfebejaaGreatDoorRows.lean that lists a variable, with what it lists TIED to the program's text (the seventh form; the later family's looks); each row that meets fmt, with fmt's text TOLD by the authors' own Lean function (tested against real Go, not proved from fmt's source: count such statements apart). THE CARD IS WHAT COUNTS. Prove the row's statement (the work); the ties are given (YtfemjinbfebejaaGreatDoorTie.lean); close each card by the builder's one call (the guide's Derived/Test/ToyasCard.lean, 'card_holds'). Laid BY PROGRAM, IN A SANDBOX (cutbox-door.mjs). By AI agents, Wed Nov 11 2026. No macro, syntax, notation, axiom, sorry.
-/
import Derived.Test.YtfemjinbfebejaaGreatDoorRows
import GoSem.ClaimSeven
namespace Go.Proofs.YtfemjinbfebejaaGreatDoor
namespace Rows

/-- THE TIED CARD OF 'tallylaw4.SpreadBack'. -/
def spreadBackCard : Claim7 := { stood := { row := spreadBackRow, standIns := [], harness := (true, "d51cd94d3bce39b1a4217699b0a7220a6a108231f737939e779219902f9c4b62"), looks := true }, kinds := [], alts := [], laidByText := true, laidKinds := [.data, .data, .data, .sentinel, .sentinel], laidTests := true, laidLooks := .later }
def SpreadBackCardSaid : Prop := Claim7.holds Tryz.pinned (.plain (OpenSpec.ofChange spreadBackSpec)) spreadBackCard

/-- THE SECOND FORM's CARD OF 'tallylaw4.SpreadBack'. -/
def spreadBackUptoCard : Claim7 := { stood := { row := spreadBackUptoRow, standIns := [], harness := (true, "d51cd94d3bce39b1a4217699b0a7220a6a108231f737939e779219902f9c4b62"), looks := true }, kinds := [], alts := [], laidByText := true, laidKinds := [.data, .data, .data, .sentinel, .sentinel], laidTests := true, laidLooks := .later }
def SpreadBackUptoCardSaid : Prop := Claim7.holds Tryz.pinned (.plain (OpenSpec.upto spreadBackSpec)) spreadBackUptoCard
end Rows
end Go.Proofs.YtfemjinbfebejaaGreatDoor
