/-
  DERIVED. GIVEN WITH THE SEED: THE CARDS: each row of YtnlfpaopfloklaaGreatDoorRows.lean that lists a variable, with what it lists TIED to the program's text (the seventh form; the later family's looks); each row that meets fmt, with fmt's text TOLD by the authors' own Lean function (tested against real Go, not proved from fmt's source: count such statements apart). THE CARD IS WHAT COUNTS. Prove the row's statement (the work); the ties are given (YtnlfpaopfloklaaGreatDoorTie.lean); close each card by the builder's one call (the guide's Derived/Test/ToyasCard.lean, 'card_holds'). Laid BY PROGRAM, IN A SANDBOX (cutbox-door.mjs). By AI agents, Wed Nov 11 2026. No macro, syntax, notation, axiom, sorry.
-/
import Derived.Test.YtnlfpaopfloklaaGreatDoorRows
import GoSem.ClaimSeven
namespace Go.Proofs.YtnlfpaopfloklaaGreatDoor
namespace Rows

/-- THE TIED CARD OF 'tallylaw2.HallSame'. -/
def hallSameCard : Claim7 := { stood := { row := hallSameRow, standIns := [], harness := (true, "c309b13673ffaba98bbcc1f3f37d17172358786e6615f59961bb58fc7a178c9d"), looks := true }, kinds := [], alts := [], laidByText := true, laidKinds := [.data, .data, .data, .sentinel, .sentinel], laidTests := true, laidLooks := .later }
def HallSameCardSaid : Prop := Claim7.holds Tryz.pinned (.plain (OpenSpec.ofChange hallSameSpec)) hallSameCard

/-- THE SECOND FORM's CARD OF 'tallylaw2.HallSame'. -/
def hallSameUptoCard : Claim7 := { stood := { row := hallSameUptoRow, standIns := [], harness := (true, "c309b13673ffaba98bbcc1f3f37d17172358786e6615f59961bb58fc7a178c9d"), looks := true }, kinds := [], alts := [], laidByText := true, laidKinds := [.data, .data, .data, .sentinel, .sentinel], laidTests := true, laidLooks := .later }
def HallSameUptoCardSaid : Prop := Claim7.holds Tryz.pinned (.plain (OpenSpec.upto hallSameSpec)) hallSameUptoCard
end Rows
end Go.Proofs.YtnlfpaopfloklaaGreatDoor
