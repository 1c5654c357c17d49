/-
  DERIVED. GIVEN WITH THE SEED: THE CARDS: each row of YtcpibmeiaaapnaeGreatDoorRows.lean that lists a variable, with what it lists TIED to the program's text (the seventh form; the later family's looks); each row that meets fmt, with fmt's text TOLD by the authors' own Lean function (tested against real Go, not proved from fmt's source: count such statements apart). THE CARD IS WHAT COUNTS. Prove the row's statement (the work); the ties are given (YtcpibmeiaaapnaeGreatDoorTie.lean); close each card by the builder's one call (the guide's Derived/Test/ToyasCard.lean, 'card_holds'). Laid BY PROGRAM, IN A SANDBOX (cutbox-door.mjs). By AI agents, Wed Nov 11 2026. No macro, syntax, notation, axiom, sorry.
-/
import Derived.Test.YtcpibmeiaaapnaeGreatDoorRows
import GoSem.ClaimSeven
namespace Go.Proofs.YtcpibmeiaaapnaeGreatDoor
namespace Rows

/-- THE TIED CARD OF 'tallylaw4.FormulaLong'. -/
def formulaLongCard : Claim7 := { stood := { row := formulaLongRow, standIns := [], harness := (true, "77d4a70736cd4a89c9826993970149a87c3a759414d2c9c5d92d5dcb1c3dd364"), looks := true }, kinds := [], alts := [], laidByText := true, laidKinds := [.data, .data, .data, .handle, .sentinel, .sentinel], laidTests := true, laidLooks := .later }
def FormulaLongCardSaid : Prop := Claim7.holds Tryz.pinned (.plain (OpenSpec.ofChange formulaLongSpec)) formulaLongCard

/-- THE SECOND FORM's CARD OF 'tallylaw4.FormulaLong'. -/
def formulaLongUptoCard : Claim7 := { stood := { row := formulaLongUptoRow, standIns := [], harness := (true, "77d4a70736cd4a89c9826993970149a87c3a759414d2c9c5d92d5dcb1c3dd364"), looks := true }, kinds := [], alts := [], laidByText := true, laidKinds := [.data, .data, .data, .handle, .sentinel, .sentinel], laidTests := true, laidLooks := .later }
def FormulaLongUptoCardSaid : Prop := Claim7.holds Tryz.pinned (.plain (OpenSpec.upto formulaLongSpec)) formulaLongUptoCard
end Rows
end Go.Proofs.YtcpibmeiaaapnaeGreatDoor
