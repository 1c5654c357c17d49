/-
  DERIVED. GIVEN WITH THE SEED: THE CARDS: each row of YtpnfmpbgjkhicaeGreatDoorRows.lean that lists a variable, with what it lists TIED to the program's text (the seventh form; the later family's looks); each row that meets fmt, with fmt's text TOLD by the authors' own Lean function (tested against real Go, not proved from fmt's source: count such statements apart). THE CARD IS WHAT COUNTS. Prove the row's statement (the work); the ties are given (YtpnfmpbgjkhicaeGreatDoorTie.lean); close each card by the builder's one call (the guide's Derived/Test/ToyasCard.lean, 'card_holds'). Laid BY PROGRAM, IN A SANDBOX (cutbox-door.mjs). By AI agents, Wed Nov 11 2026. No macro, syntax, notation, axiom, sorry.
-/
import Derived.Test.YtpnfmpbgjkhicaeGreatDoorRows
import GoSem.ClaimSeven
namespace Go.Proofs.YtpnfmpbgjkhicaeGreatDoor
namespace Rows

/-- THE TIED CARD OF 'tallylaw4.FormulaLong'. -/
def formulaLongCard : Claim7 := { stood := { row := formulaLongRow, standIns := [], harness := (true, "f783f766610d0dc4fe08cfd08a6a5a0a49446b894f9db2dfc8f1feb7118aba5f"), looks := true }, kinds := [], alts := [], laidByText := true, laidKinds := [.data, .data, .data, .handle, .sentinel, .sentinel], laidTests := true, laidLooks := .later }
def FormulaLongCardSaid : Prop := Claim7.holds Tryz.pinned (.plain (OpenSpec.ofChange formulaLongSpec)) formulaLongCard

/-- THE TIED CARD OF 'tallylaw2.FormulaBack'. -/
def formulaBackCard : Claim7 := { stood := { row := formulaBackRow, standIns := [], harness := (true, "f783f766610d0dc4fe08cfd08a6a5a0a49446b894f9db2dfc8f1feb7118aba5f"), looks := true }, kinds := [], alts := [], laidByText := true, laidKinds := [.data, .data, .data, .sentinel, .sentinel], laidTests := true, laidLooks := .later }
def FormulaBackCardSaid : Prop := Claim7.holds Tryz.pinned (.plain (OpenSpec.ofChange formulaBackSpec)) formulaBackCard

/-- THE TIED CARD OF 'tallylaw4.ReckonNumbers'. -/
def reckonNumbersCard : Claim7 := { stood := { row := reckonNumbersRow, standIns := [], harness := (true, "f783f766610d0dc4fe08cfd08a6a5a0a49446b894f9db2dfc8f1feb7118aba5f"), looks := true }, kinds := [], alts := [], laidByText := true, laidKinds := [.data, .data, .data, .sentinel, .sentinel], laidTests := true, laidLooks := .later }
def ReckonNumbersCardSaid : Prop := Claim7.holds Tryz.pinned (.plain (OpenSpec.ofChange reckonNumbersSpec)) reckonNumbersCard

/-- THE TIED CARD OF 'tallylaw2.RulesTell'. -/
def rulesTellCard : Claim7 := { stood := { row := rulesTellRow, standIns := [], harness := (true, "f783f766610d0dc4fe08cfd08a6a5a0a49446b894f9db2dfc8f1feb7118aba5f"), looks := true }, kinds := [], alts := [], laidByText := true, laidKinds := [.data, .data, .data, .handle, .sentinel, .sentinel], laidTests := true, laidLooks := .later }
def RulesTellCardSaid : Prop := Claim7.holds Tryz.pinned (.plain (OpenSpec.ofChange rulesTellSpec)) rulesTellCard

/-- THE SECOND FORM's CARD OF 'tallylaw4.FormulaLong'. -/
def formulaLongUptoCard : Claim7 := { stood := { row := formulaLongUptoRow, standIns := [], harness := (true, "f783f766610d0dc4fe08cfd08a6a5a0a49446b894f9db2dfc8f1feb7118aba5f"), looks := true }, kinds := [], alts := [], laidByText := true, laidKinds := [.data, .data, .data, .handle, .sentinel, .sentinel], laidTests := true, laidLooks := .later }
def FormulaLongUptoCardSaid : Prop := Claim7.holds Tryz.pinned (.plain (OpenSpec.upto formulaLongSpec)) formulaLongUptoCard

/-- THE SECOND FORM's CARD OF 'tallylaw2.FormulaBack'. -/
def formulaBackUptoCard : Claim7 := { stood := { row := formulaBackUptoRow, standIns := [], harness := (true, "f783f766610d0dc4fe08cfd08a6a5a0a49446b894f9db2dfc8f1feb7118aba5f"), looks := true }, kinds := [], alts := [], laidByText := true, laidKinds := [.data, .data, .data, .sentinel, .sentinel], laidTests := true, laidLooks := .later }
def FormulaBackUptoCardSaid : Prop := Claim7.holds Tryz.pinned (.plain (OpenSpec.upto formulaBackSpec)) formulaBackUptoCard

/-- THE SECOND FORM's CARD OF 'tallylaw4.ReckonNumbers'. -/
def reckonNumbersUptoCard : Claim7 := { stood := { row := reckonNumbersUptoRow, standIns := [], harness := (true, "f783f766610d0dc4fe08cfd08a6a5a0a49446b894f9db2dfc8f1feb7118aba5f"), looks := true }, kinds := [], alts := [], laidByText := true, laidKinds := [.data, .data, .data, .sentinel, .sentinel], laidTests := true, laidLooks := .later }
def ReckonNumbersUptoCardSaid : Prop := Claim7.holds Tryz.pinned (.plain (OpenSpec.upto reckonNumbersSpec)) reckonNumbersUptoCard

/-- THE SECOND FORM's CARD OF 'tallylaw2.RulesTell'. -/
def rulesTellUptoCard : Claim7 := { stood := { row := rulesTellUptoRow, standIns := [], harness := (true, "f783f766610d0dc4fe08cfd08a6a5a0a49446b894f9db2dfc8f1feb7118aba5f"), looks := true }, kinds := [], alts := [], laidByText := true, laidKinds := [.data, .data, .data, .handle, .sentinel, .sentinel], laidTests := true, laidLooks := .later }
def RulesTellUptoCardSaid : Prop := Claim7.holds Tryz.pinned (.plain (OpenSpec.upto rulesTellSpec)) rulesTellUptoCard
end Rows
end Go.Proofs.YtpnfmpbgjkhicaeGreatDoor
