/-
  DERIVED. GIVEN WITH THE SEED: THE CARDS: each row of YtmmpanbkmpdnkahGreatDoorRows.lean that lists a variable, with what it lists TIED to the program's text (the seventh form; the later family's looks); each row that meets fmt, with fmt's text TOLD by the authors' own Lean function (tested against real Go, not proved from fmt's source: count such statements apart). THE CARD IS WHAT COUNTS. Prove the row's statement (the work); the ties are given (YtmmpanbkmpdnkahGreatDoorTie.lean); close each card by the builder's one call (the guide's Derived/Test/ToyasCard.lean, 'card_holds'). Laid BY PROGRAM, IN A SANDBOX (cutbox-door.mjs). By AI agents, Wed Nov 11 2026. No macro, syntax, notation, axiom, sorry.
-/
import Derived.Test.YtmmpanbkmpdnkahGreatDoorRows
import GoSem.ClaimSeven
namespace Go.Proofs.YtmmpanbkmpdnkahGreatDoor
namespace Rows

/-- THE TIED CARD OF 'tallylaw4.HallCounts'. -/
def hallCountsCard : Claim7 := { stood := { row := hallCountsRow, standIns := [], harness := (true, "93e187dab51760bd901561b15d4dc20f88d347b9eb898b7a957535b3bf28df5a"), looks := true }, kinds := [], alts := [], laidByText := true, laidKinds := [.data, .data, .data, .sentinel, .sentinel], laidTests := true, laidLooks := .later }
def HallCountsCardSaid : Prop := Claim7.holds Tryz.pinned (.plain (OpenSpec.ofChange hallCountsSpec)) hallCountsCard

/-- THE TIED CARD OF 'tallylaw2.HallPlays'. -/
def hallPlaysCard : Claim7 := { stood := { row := hallPlaysRow, standIns := [], harness := (true, "93e187dab51760bd901561b15d4dc20f88d347b9eb898b7a957535b3bf28df5a"), looks := true }, kinds := [], alts := [], laidByText := true, laidKinds := [.data, .data, .data, .handle, .sentinel, .sentinel], laidTests := true, laidLooks := .later }
def HallPlaysCardSaid : Prop := Claim7.holds Tryz.pinned (.plain (OpenSpec.ofChange hallPlaysSpec)) hallPlaysCard

/-- THE TIED CARD OF 'tallytop.TopWays'. -/
def topWaysCard : Claim7 := { stood := { row := topWaysRow, standIns := [], harness := (true, "93e187dab51760bd901561b15d4dc20f88d347b9eb898b7a957535b3bf28df5a"), looks := true }, kinds := [], alts := [], laidByText := true, laidKinds := [.data, .data, .data, .sentinel, .sentinel], laidTests := true, laidLooks := .later }
def TopWaysCardSaid : Prop := Claim7.holds Tryz.pinned (.plain (OpenSpec.ofChange topWaysSpec)) topWaysCard

/-- THE TIED CARD OF 'tallylaw3.GridTells'. -/
def gridTellsCard : Claim7 := { stood := { row := gridTellsRow, standIns := [], harness := (true, "93e187dab51760bd901561b15d4dc20f88d347b9eb898b7a957535b3bf28df5a"), looks := true }, kinds := [], alts := [], laidByText := true, laidKinds := [.data, .data, .data, .handle, .sentinel, .sentinel], laidTests := true, laidLooks := .later }
def GridTellsCardSaid : Prop := Claim7.holds Tryz.pinned (.plain (OpenSpec.ofChange gridTellsSpec)) gridTellsCard

/-- THE TIED CARD OF 'tallylaw3.GridTurns'. -/
def gridTurnsCard : Claim7 := { stood := { row := gridTurnsRow, standIns := [], harness := (true, "93e187dab51760bd901561b15d4dc20f88d347b9eb898b7a957535b3bf28df5a"), looks := true }, kinds := [], alts := [], laidByText := true, laidKinds := [.data, .data, .data, .sentinel, .sentinel], laidTests := true, laidLooks := .later }
def GridTurnsCardSaid : Prop := Claim7.holds Tryz.pinned (.plain (OpenSpec.ofChange gridTurnsSpec)) gridTurnsCard

/-- THE TIED CARD OF 'tallylaw4.GridWide'. -/
def gridWideCard : Claim7 := { stood := { row := gridWideRow, standIns := [], harness := (true, "93e187dab51760bd901561b15d4dc20f88d347b9eb898b7a957535b3bf28df5a"), looks := true }, kinds := [], alts := [], laidByText := true, laidKinds := [.data, .data, .data, .sentinel, .sentinel], laidTests := true, laidLooks := .later }
def GridWideCardSaid : Prop := Claim7.holds Tryz.pinned (.plain (OpenSpec.ofChange gridWideSpec)) gridWideCard

/-- THE SECOND FORM's CARD OF 'tallylaw4.HallCounts'. -/
def hallCountsUptoCard : Claim7 := { stood := { row := hallCountsUptoRow, standIns := [], harness := (true, "93e187dab51760bd901561b15d4dc20f88d347b9eb898b7a957535b3bf28df5a"), looks := true }, kinds := [], alts := [], laidByText := true, laidKinds := [.data, .data, .data, .sentinel, .sentinel], laidTests := true, laidLooks := .later }
def HallCountsUptoCardSaid : Prop := Claim7.holds Tryz.pinned (.plain (OpenSpec.upto hallCountsSpec)) hallCountsUptoCard

/-- THE SECOND FORM's CARD OF 'tallylaw2.HallPlays'. -/
def hallPlaysUptoCard : Claim7 := { stood := { row := hallPlaysUptoRow, standIns := [], harness := (true, "93e187dab51760bd901561b15d4dc20f88d347b9eb898b7a957535b3bf28df5a"), looks := true }, kinds := [], alts := [], laidByText := true, laidKinds := [.data, .data, .data, .handle, .sentinel, .sentinel], laidTests := true, laidLooks := .later }
def HallPlaysUptoCardSaid : Prop := Claim7.holds Tryz.pinned (.plain (OpenSpec.upto hallPlaysSpec)) hallPlaysUptoCard

/-- THE SECOND FORM's CARD OF 'tallytop.TopWays'. -/
def topWaysUptoCard : Claim7 := { stood := { row := topWaysUptoRow, standIns := [], harness := (true, "93e187dab51760bd901561b15d4dc20f88d347b9eb898b7a957535b3bf28df5a"), looks := true }, kinds := [], alts := [], laidByText := true, laidKinds := [.data, .data, .data, .sentinel, .sentinel], laidTests := true, laidLooks := .later }
def TopWaysUptoCardSaid : Prop := Claim7.holds Tryz.pinned (.plain (OpenSpec.upto topWaysSpec)) topWaysUptoCard

/-- THE SECOND FORM's CARD OF 'tallylaw3.GridTells'. -/
def gridTellsUptoCard : Claim7 := { stood := { row := gridTellsUptoRow, standIns := [], harness := (true, "93e187dab51760bd901561b15d4dc20f88d347b9eb898b7a957535b3bf28df5a"), looks := true }, kinds := [], alts := [], laidByText := true, laidKinds := [.data, .data, .data, .handle, .sentinel, .sentinel], laidTests := true, laidLooks := .later }
def GridTellsUptoCardSaid : Prop := Claim7.holds Tryz.pinned (.plain (OpenSpec.upto gridTellsSpec)) gridTellsUptoCard

/-- THE SECOND FORM's CARD OF 'tallylaw3.GridTurns'. -/
def gridTurnsUptoCard : Claim7 := { stood := { row := gridTurnsUptoRow, standIns := [], harness := (true, "93e187dab51760bd901561b15d4dc20f88d347b9eb898b7a957535b3bf28df5a"), looks := true }, kinds := [], alts := [], laidByText := true, laidKinds := [.data, .data, .data, .sentinel, .sentinel], laidTests := true, laidLooks := .later }
def GridTurnsUptoCardSaid : Prop := Claim7.holds Tryz.pinned (.plain (OpenSpec.upto gridTurnsSpec)) gridTurnsUptoCard

/-- THE SECOND FORM's CARD OF 'tallylaw4.GridWide'. -/
def gridWideUptoCard : Claim7 := { stood := { row := gridWideUptoRow, standIns := [], harness := (true, "93e187dab51760bd901561b15d4dc20f88d347b9eb898b7a957535b3bf28df5a"), looks := true }, kinds := [], alts := [], laidByText := true, laidKinds := [.data, .data, .data, .sentinel, .sentinel], laidTests := true, laidLooks := .later }
def GridWideUptoCardSaid : Prop := Claim7.holds Tryz.pinned (.plain (OpenSpec.upto gridWideSpec)) gridWideUptoCard
end Rows
end Go.Proofs.YtmmpanbkmpdnkahGreatDoor
