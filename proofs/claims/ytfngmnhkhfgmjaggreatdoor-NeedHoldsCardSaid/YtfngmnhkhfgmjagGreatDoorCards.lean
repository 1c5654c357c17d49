/-
  DERIVED. GIVEN WITH THE SEED: THE CARDS: each row of YtfngmnhkhfgmjagGreatDoorRows.lean that lists a variable, with what it lists TIED to the program's text (the seventh form; the later family's looks); each row that meets fmt, with fmt's text TOLD by the authors' own Lean function (tested against real Go, not proved from fmt's source: count such statements apart). THE CARD IS WHAT COUNTS. Prove the row's statement (the work); the ties are given (YtfngmnhkhfgmjagGreatDoorTie.lean); close each card by the builder's one call (the guide's Derived/Test/ToyasCard.lean, 'card_holds'). Laid BY PROGRAM, IN A SANDBOX (cutbox-door.mjs). By AI agents, Wed Nov 11 2026. No macro, syntax, notation, axiom, sorry.
-/
import Derived.Test.YtfngmnhkhfgmjagGreatDoorRows
import GoSem.ClaimSeven
namespace Go.Proofs.YtfngmnhkhfgmjagGreatDoor
namespace Rows

/-- THE TIED CARD OF 'tallylaw4.CalcEmpty'. -/
def calcEmptyCard : Claim7 := { stood := { row := calcEmptyRow, standIns := [], harness := (true, "935a7610d1b52f643850ceaa417010dd89ed808a1892875a7c48d4cddcdce9b7"), looks := true }, kinds := [], alts := [], laidByText := true, laidKinds := [.data, .data, .data, .sentinel, .sentinel], laidTests := true, laidLooks := .later }
def CalcEmptyCardSaid : Prop := Claim7.holds Tryz.pinned (.plain (OpenSpec.ofChange calcEmptySpec)) calcEmptyCard

/-- THE TIED CARD OF 'tallylaw2.CalcEach'. -/
def calcEachCard : Claim7 := { stood := { row := calcEachRow, standIns := [], harness := (true, "935a7610d1b52f643850ceaa417010dd89ed808a1892875a7c48d4cddcdce9b7"), looks := true }, kinds := [], alts := [], laidByText := true, laidKinds := [.data, .data, .data, .sentinel, .sentinel], laidTests := true, laidLooks := .later }
def CalcEachCardSaid : Prop := Claim7.holds Tryz.pinned (.plain (OpenSpec.ofChange calcEachSpec)) calcEachCard

/-- THE TIED CARD OF 'tallylaw2.NeedTells'. -/
def needTellsCard : Claim7 := { stood := { row := needTellsRow, standIns := [], harness := (true, "935a7610d1b52f643850ceaa417010dd89ed808a1892875a7c48d4cddcdce9b7"), looks := true }, kinds := [], alts := [], laidByText := true, laidKinds := [.data, .data, .data, .handle, .sentinel, .sentinel], laidTests := true, laidLooks := .later }
def NeedTellsCardSaid : Prop := Claim7.holds Tryz.pinned (.plain (OpenSpec.ofChange needTellsSpec)) needTellsCard

/-- THE TIED CARD OF 'tallylaw2.NeedHolds'. -/
def needHoldsCard : Claim7 := { stood := { row := needHoldsRow, standIns := [], harness := (true, "935a7610d1b52f643850ceaa417010dd89ed808a1892875a7c48d4cddcdce9b7"), looks := true }, kinds := [], alts := [], laidByText := true, laidKinds := [.data, .data, .data, .sentinel, .sentinel], laidTests := true, laidLooks := .later }
def NeedHoldsCardSaid : Prop := Claim7.holds Tryz.pinned (.plain (OpenSpec.ofChange needHoldsSpec)) needHoldsCard

/-- THE TIED CARD OF 'tallylaw4.NeedCorner'. -/
def needCornerCard : Claim7 := { stood := { row := needCornerRow, standIns := [], harness := (true, "935a7610d1b52f643850ceaa417010dd89ed808a1892875a7c48d4cddcdce9b7"), looks := true }, kinds := [], alts := [], laidByText := true, laidKinds := [.data, .data, .data, .sentinel, .sentinel], laidTests := true, laidLooks := .later }
def NeedCornerCardSaid : Prop := Claim7.holds Tryz.pinned (.plain (OpenSpec.ofChange needCornerSpec)) needCornerCard

/-- THE TIED CARD OF 'tallylaw2.HallSame'. -/
def hallSameCard : Claim7 := { stood := { row := hallSameRow, standIns := [], harness := (true, "935a7610d1b52f643850ceaa417010dd89ed808a1892875a7c48d4cddcdce9b7"), looks := true }, kinds := [], alts := [], laidByText := true, laidKinds := [.data, .data, .data, .sentinel, .sentinel], laidTests := true, laidLooks := .later }
def HallSameCardSaid : Prop := Claim7.holds Tryz.pinned (.plain (OpenSpec.ofChange hallSameSpec)) hallSameCard

/-- THE SECOND FORM's CARD OF 'tallylaw4.CalcEmpty'. -/
def calcEmptyUptoCard : Claim7 := { stood := { row := calcEmptyUptoRow, standIns := [], harness := (true, "935a7610d1b52f643850ceaa417010dd89ed808a1892875a7c48d4cddcdce9b7"), looks := true }, kinds := [], alts := [], laidByText := true, laidKinds := [.data, .data, .data, .sentinel, .sentinel], laidTests := true, laidLooks := .later }
def CalcEmptyUptoCardSaid : Prop := Claim7.holds Tryz.pinned (.plain (OpenSpec.upto calcEmptySpec)) calcEmptyUptoCard

/-- THE SECOND FORM's CARD OF 'tallylaw2.CalcEach'. -/
def calcEachUptoCard : Claim7 := { stood := { row := calcEachUptoRow, standIns := [], harness := (true, "935a7610d1b52f643850ceaa417010dd89ed808a1892875a7c48d4cddcdce9b7"), looks := true }, kinds := [], alts := [], laidByText := true, laidKinds := [.data, .data, .data, .sentinel, .sentinel], laidTests := true, laidLooks := .later }
def CalcEachUptoCardSaid : Prop := Claim7.holds Tryz.pinned (.plain (OpenSpec.upto calcEachSpec)) calcEachUptoCard

/-- THE SECOND FORM's CARD OF 'tallylaw2.NeedTells'. -/
def needTellsUptoCard : Claim7 := { stood := { row := needTellsUptoRow, standIns := [], harness := (true, "935a7610d1b52f643850ceaa417010dd89ed808a1892875a7c48d4cddcdce9b7"), looks := true }, kinds := [], alts := [], laidByText := true, laidKinds := [.data, .data, .data, .handle, .sentinel, .sentinel], laidTests := true, laidLooks := .later }
def NeedTellsUptoCardSaid : Prop := Claim7.holds Tryz.pinned (.plain (OpenSpec.upto needTellsSpec)) needTellsUptoCard

/-- THE SECOND FORM's CARD OF 'tallylaw2.NeedHolds'. -/
def needHoldsUptoCard : Claim7 := { stood := { row := needHoldsUptoRow, standIns := [], harness := (true, "935a7610d1b52f643850ceaa417010dd89ed808a1892875a7c48d4cddcdce9b7"), looks := true }, kinds := [], alts := [], laidByText := true, laidKinds := [.data, .data, .data, .sentinel, .sentinel], laidTests := true, laidLooks := .later }
def NeedHoldsUptoCardSaid : Prop := Claim7.holds Tryz.pinned (.plain (OpenSpec.upto needHoldsSpec)) needHoldsUptoCard

/-- THE SECOND FORM's CARD OF 'tallylaw4.NeedCorner'. -/
def needCornerUptoCard : Claim7 := { stood := { row := needCornerUptoRow, standIns := [], harness := (true, "935a7610d1b52f643850ceaa417010dd89ed808a1892875a7c48d4cddcdce9b7"), looks := true }, kinds := [], alts := [], laidByText := true, laidKinds := [.data, .data, .data, .sentinel, .sentinel], laidTests := true, laidLooks := .later }
def NeedCornerUptoCardSaid : Prop := Claim7.holds Tryz.pinned (.plain (OpenSpec.upto needCornerSpec)) needCornerUptoCard

/-- THE SECOND FORM's CARD OF 'tallylaw2.HallSame'. -/
def hallSameUptoCard : Claim7 := { stood := { row := hallSameUptoRow, standIns := [], harness := (true, "935a7610d1b52f643850ceaa417010dd89ed808a1892875a7c48d4cddcdce9b7"), looks := true }, kinds := [], alts := [], laidByText := true, laidKinds := [.data, .data, .data, .sentinel, .sentinel], laidTests := true, laidLooks := .later }
def HallSameUptoCardSaid : Prop := Claim7.holds Tryz.pinned (.plain (OpenSpec.upto hallSameSpec)) hallSameUptoCard
end Rows
end Go.Proofs.YtfngmnhkhfgmjagGreatDoor
