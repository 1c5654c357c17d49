/-
  DERIVED. GIVEN WITH THE SEED: THE CARDS: each row of YtigkeokacagabafGreatDoorRows.lean that lists a variable, with what it lists TIED to the program's text (the seventh form; the later family's looks); each row that meets fmt, with fmt's text TOLD by the authors' own Lean function (tested against real Go, not proved from fmt's source: count such statements apart). THE CARD IS WHAT COUNTS. Prove the row's statement (the work); the ties are given (YtigkeokacagabafGreatDoorTie.lean); close each card by the builder's one call (the guide's Derived/Test/ToyasCard.lean, 'card_holds'). Laid BY PROGRAM, IN A SANDBOX (cutbox-door.mjs). By AI agents, Wed Nov 11 2026. No macro, syntax, notation, axiom, sorry.
-/
import Derived.Test.YtigkeokacagabafGreatDoorRows
import GoSem.ClaimSeven
namespace Go.Proofs.YtigkeokacagabafGreatDoor
namespace Rows

/-- THE TIED CARD OF 'tallylaw2.RulesOrder'. -/
def rulesOrderCard : Claim7 := { stood := { row := rulesOrderRow, standIns := [], harness := (true, "ab0b219bb6515d76e4fdc9f05250af507b0735aa821f31e435cd5466e6a9bafd"), looks := true }, kinds := [], alts := [], laidByText := true, laidKinds := [.data, .data, .data, .sentinel, .sentinel], laidTests := true, laidLooks := .later }
def RulesOrderCardSaid : Prop := Claim7.holds Tryz.pinned (.plain (OpenSpec.ofChange rulesOrderSpec)) rulesOrderCard

/-- THE TIED CARD OF 'tallylaw4.RulesRing'. -/
def rulesRingCard : Claim7 := { stood := { row := rulesRingRow, standIns := [], harness := (true, "ab0b219bb6515d76e4fdc9f05250af507b0735aa821f31e435cd5466e6a9bafd"), looks := true }, kinds := [], alts := [], laidByText := true, laidKinds := [.data, .data, .data, .handle, .sentinel, .sentinel], laidTests := true, laidLooks := .later }
def RulesRingCardSaid : Prop := Claim7.holds Tryz.pinned (.plain (OpenSpec.ofChange rulesRingSpec)) rulesRingCard

/-- THE TIED CARD OF 'tallylaw2.SolveTells'. -/
def solveTellsCard : Claim7 := { stood := { row := solveTellsRow, standIns := [], harness := (true, "ab0b219bb6515d76e4fdc9f05250af507b0735aa821f31e435cd5466e6a9bafd"), looks := true }, kinds := [], alts := [], laidByText := true, laidKinds := [.data, .data, .data, .handle, .sentinel, .sentinel], laidTests := true, laidLooks := .later }
def SolveTellsCardSaid : Prop := Claim7.holds Tryz.pinned (.plain (OpenSpec.ofChange solveTellsSpec)) solveTellsCard

/-- THE TIED CARD OF 'tallylaw2.SolveRolls'. -/
def solveRollsCard : Claim7 := { stood := { row := solveRollsRow, standIns := [], harness := (true, "ab0b219bb6515d76e4fdc9f05250af507b0735aa821f31e435cd5466e6a9bafd"), looks := true }, kinds := [], alts := [], laidByText := true, laidKinds := [.data, .data, .data, .sentinel, .sentinel], laidTests := true, laidLooks := .later }
def SolveRollsCardSaid : Prop := Claim7.holds Tryz.pinned (.plain (OpenSpec.ofChange solveRollsSpec)) solveRollsCard

/-- THE TIED CARD OF 'tallylaw4.SolveFirst'. -/
def solveFirstCard : Claim7 := { stood := { row := solveFirstRow, standIns := [], harness := (true, "ab0b219bb6515d76e4fdc9f05250af507b0735aa821f31e435cd5466e6a9bafd"), looks := true }, kinds := [], alts := [], laidByText := true, laidKinds := [.data, .data, .data, .sentinel, .sentinel], laidTests := true, laidLooks := .later }
def SolveFirstCardSaid : Prop := Claim7.holds Tryz.pinned (.plain (OpenSpec.ofChange solveFirstSpec)) solveFirstCard

/-- THE TIED CARD OF 'tallylaw2.CalcTells'. -/
def calcTellsCard : Claim7 := { stood := { row := calcTellsRow, standIns := [], harness := (true, "ab0b219bb6515d76e4fdc9f05250af507b0735aa821f31e435cd5466e6a9bafd"), looks := true }, kinds := [], alts := [], laidByText := true, laidKinds := [.data, .data, .data, .handle, .sentinel, .sentinel], laidTests := true, laidLooks := .later }
def CalcTellsCardSaid : Prop := Claim7.holds Tryz.pinned (.plain (OpenSpec.ofChange calcTellsSpec)) calcTellsCard

/-- THE SECOND FORM's CARD OF 'tallylaw2.RulesOrder'. -/
def rulesOrderUptoCard : Claim7 := { stood := { row := rulesOrderUptoRow, standIns := [], harness := (true, "ab0b219bb6515d76e4fdc9f05250af507b0735aa821f31e435cd5466e6a9bafd"), looks := true }, kinds := [], alts := [], laidByText := true, laidKinds := [.data, .data, .data, .sentinel, .sentinel], laidTests := true, laidLooks := .later }
def RulesOrderUptoCardSaid : Prop := Claim7.holds Tryz.pinned (.plain (OpenSpec.upto rulesOrderSpec)) rulesOrderUptoCard

/-- THE SECOND FORM's CARD OF 'tallylaw4.RulesRing'. -/
def rulesRingUptoCard : Claim7 := { stood := { row := rulesRingUptoRow, standIns := [], harness := (true, "ab0b219bb6515d76e4fdc9f05250af507b0735aa821f31e435cd5466e6a9bafd"), looks := true }, kinds := [], alts := [], laidByText := true, laidKinds := [.data, .data, .data, .handle, .sentinel, .sentinel], laidTests := true, laidLooks := .later }
def RulesRingUptoCardSaid : Prop := Claim7.holds Tryz.pinned (.plain (OpenSpec.upto rulesRingSpec)) rulesRingUptoCard

/-- THE SECOND FORM's CARD OF 'tallylaw2.SolveTells'. -/
def solveTellsUptoCard : Claim7 := { stood := { row := solveTellsUptoRow, standIns := [], harness := (true, "ab0b219bb6515d76e4fdc9f05250af507b0735aa821f31e435cd5466e6a9bafd"), looks := true }, kinds := [], alts := [], laidByText := true, laidKinds := [.data, .data, .data, .handle, .sentinel, .sentinel], laidTests := true, laidLooks := .later }
def SolveTellsUptoCardSaid : Prop := Claim7.holds Tryz.pinned (.plain (OpenSpec.upto solveTellsSpec)) solveTellsUptoCard

/-- THE SECOND FORM's CARD OF 'tallylaw2.SolveRolls'. -/
def solveRollsUptoCard : Claim7 := { stood := { row := solveRollsUptoRow, standIns := [], harness := (true, "ab0b219bb6515d76e4fdc9f05250af507b0735aa821f31e435cd5466e6a9bafd"), looks := true }, kinds := [], alts := [], laidByText := true, laidKinds := [.data, .data, .data, .sentinel, .sentinel], laidTests := true, laidLooks := .later }
def SolveRollsUptoCardSaid : Prop := Claim7.holds Tryz.pinned (.plain (OpenSpec.upto solveRollsSpec)) solveRollsUptoCard

/-- THE SECOND FORM's CARD OF 'tallylaw4.SolveFirst'. -/
def solveFirstUptoCard : Claim7 := { stood := { row := solveFirstUptoRow, standIns := [], harness := (true, "ab0b219bb6515d76e4fdc9f05250af507b0735aa821f31e435cd5466e6a9bafd"), looks := true }, kinds := [], alts := [], laidByText := true, laidKinds := [.data, .data, .data, .sentinel, .sentinel], laidTests := true, laidLooks := .later }
def SolveFirstUptoCardSaid : Prop := Claim7.holds Tryz.pinned (.plain (OpenSpec.upto solveFirstSpec)) solveFirstUptoCard

/-- THE SECOND FORM's CARD OF 'tallylaw2.CalcTells'. -/
def calcTellsUptoCard : Claim7 := { stood := { row := calcTellsUptoRow, standIns := [], harness := (true, "ab0b219bb6515d76e4fdc9f05250af507b0735aa821f31e435cd5466e6a9bafd"), looks := true }, kinds := [], alts := [], laidByText := true, laidKinds := [.data, .data, .data, .handle, .sentinel, .sentinel], laidTests := true, laidLooks := .later }
def CalcTellsUptoCardSaid : Prop := Claim7.holds Tryz.pinned (.plain (OpenSpec.upto calcTellsSpec)) calcTellsUptoCard
end Rows
end Go.Proofs.YtigkeokacagabafGreatDoor
