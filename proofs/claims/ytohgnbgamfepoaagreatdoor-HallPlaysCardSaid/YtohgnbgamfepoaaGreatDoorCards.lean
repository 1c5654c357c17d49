/-
  DERIVED. GIVEN WITH THE SEED: THE CARDS: each row of YtohgnbgamfepoaaGreatDoorRows.lean that lists a variable, with what it lists TIED to the program's text (the seventh form; the later family's looks); each row that meets fmt, with fmt's text TOLD by the authors' own Lean function (tested against real Go, not proved from fmt's source: count such statements apart). THE CARD IS WHAT COUNTS. Prove the row's statement (the work); the ties are given (YtohgnbgamfepoaaGreatDoorTie.lean); close each card by the builder's one call (the guide's Derived/Test/ToyasCard.lean, 'card_holds'). Laid BY PROGRAM, IN A SANDBOX (cutbox-door.mjs). By AI agents, Wed Nov 11 2026. No macro, syntax, notation, axiom, sorry.
-/
import Derived.Test.YtohgnbgamfepoaaGreatDoorRows
import GoSem.ClaimSeven
namespace Go.Proofs.YtohgnbgamfepoaaGreatDoor
namespace Rows

/-- THE TIED CARD OF 'tallylaw2.HallPlays'. -/
def hallPlaysCard : Claim7 := { stood := { row := hallPlaysRow, standIns := [], harness := (true, "86af4e0cd30f38bbd74b531f871e845500e3d5ffb1b69c9effe3bb6ad8733765"), looks := true }, kinds := [], alts := [], laidByText := true, laidKinds := [.data, .data, .data, .handle, .sentinel, .sentinel], laidTests := true, laidLooks := .later }
def HallPlaysCardSaid : Prop := Claim7.holds Tryz.pinned (.plain (OpenSpec.ofChange hallPlaysSpec)) hallPlaysCard

/-- THE SECOND FORM's CARD OF 'tallylaw2.HallPlays'. -/
def hallPlaysUptoCard : Claim7 := { stood := { row := hallPlaysUptoRow, standIns := [], harness := (true, "86af4e0cd30f38bbd74b531f871e845500e3d5ffb1b69c9effe3bb6ad8733765"), looks := true }, kinds := [], alts := [], laidByText := true, laidKinds := [.data, .data, .data, .handle, .sentinel, .sentinel], laidTests := true, laidLooks := .later }
def HallPlaysUptoCardSaid : Prop := Claim7.holds Tryz.pinned (.plain (OpenSpec.upto hallPlaysSpec)) hallPlaysUptoCard
end Rows
end Go.Proofs.YtohgnbgamfepoaaGreatDoor
