/-
  DERIVED. GIVEN WITH THE SEED: THE CARDS: each row of YtaodedckffjpgagGreatDoorRows.lean that lists a variable, with what it lists TIED to the program's text (the seventh form; the later family's looks); each row that meets fmt, with fmt's text TOLD by the authors' own Lean function (tested against real Go, not proved from fmt's source: count such statements apart). THE CARD IS WHAT COUNTS. Prove the row's statement (the work); the ties are given (YtaodedckffjpgagGreatDoorTie.lean); close each card by the builder's one call (the guide's Derived/Test/ToyasCard.lean, 'card_holds'). Laid BY PROGRAM, IN A SANDBOX (cutbox-door.mjs). By AI agents, Wed Nov 11 2026. No macro, syntax, notation, axiom, sorry.
-/
import Derived.Test.YtaodedckffjpgagGreatDoorRows
import GoSem.ClaimSeven
namespace Go.Proofs.YtaodedckffjpgagGreatDoor
namespace Rows

/-- THE TIED CARD OF 'tallylaw4.CalcEmpty'. -/
def calcEmptyCard : Claim7 := { stood := { row := calcEmptyRow, standIns := [], harness := (true, "d352e83ea0b40b79ce845dcef1a2d7e77bdc79aed08c0bb45393730470aa98e2"), looks := true }, kinds := [], alts := [], laidByText := true, laidKinds := [.data, .data, .data, .sentinel, .sentinel], laidTests := true, laidLooks := .later }
def CalcEmptyCardSaid : Prop := Claim7.holds Tryz.pinned (.plain (OpenSpec.ofChange calcEmptySpec)) calcEmptyCard

/-- THE TIED CARD OF 'tallylaw2.CalcEach'. -/
def calcEachCard : Claim7 := { stood := { row := calcEachRow, standIns := [], harness := (true, "d352e83ea0b40b79ce845dcef1a2d7e77bdc79aed08c0bb45393730470aa98e2"), looks := true }, kinds := [], alts := [], laidByText := true, laidKinds := [.data, .data, .data, .sentinel, .sentinel], laidTests := true, laidLooks := .later }
def CalcEachCardSaid : Prop := Claim7.holds Tryz.pinned (.plain (OpenSpec.ofChange calcEachSpec)) calcEachCard

/-- THE SECOND FORM's CARD OF 'tallylaw4.CalcEmpty'. -/
def calcEmptyUptoCard : Claim7 := { stood := { row := calcEmptyUptoRow, standIns := [], harness := (true, "d352e83ea0b40b79ce845dcef1a2d7e77bdc79aed08c0bb45393730470aa98e2"), looks := true }, kinds := [], alts := [], laidByText := true, laidKinds := [.data, .data, .data, .sentinel, .sentinel], laidTests := true, laidLooks := .later }
def CalcEmptyUptoCardSaid : Prop := Claim7.holds Tryz.pinned (.plain (OpenSpec.upto calcEmptySpec)) calcEmptyUptoCard

/-- THE SECOND FORM's CARD OF 'tallylaw2.CalcEach'. -/
def calcEachUptoCard : Claim7 := { stood := { row := calcEachUptoRow, standIns := [], harness := (true, "d352e83ea0b40b79ce845dcef1a2d7e77bdc79aed08c0bb45393730470aa98e2"), looks := true }, kinds := [], alts := [], laidByText := true, laidKinds := [.data, .data, .data, .sentinel, .sentinel], laidTests := true, laidLooks := .later }
def CalcEachUptoCardSaid : Prop := Claim7.holds Tryz.pinned (.plain (OpenSpec.upto calcEachSpec)) calcEachUptoCard
end Rows
end Go.Proofs.YtaodedckffjpgagGreatDoor
