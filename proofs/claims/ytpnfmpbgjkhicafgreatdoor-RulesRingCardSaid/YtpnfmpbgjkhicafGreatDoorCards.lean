/-
  DERIVED. GIVEN WITH THE SEED: THE CARDS: each row of YtpnfmpbgjkhicafGreatDoorRows.lean that lists a variable, with what it lists TIED to the program's text (the seventh form; the later family's looks); each row that meets fmt, with fmt's text TOLD by the authors' own Lean function (tested against real Go, not proved from fmt's source: count such statements apart). THE CARD IS WHAT COUNTS. Prove the row's statement (the work); the ties are given (YtpnfmpbgjkhicafGreatDoorTie.lean); close each card by the builder's one call (the guide's Derived/Test/ToyasCard.lean, 'card_holds'). Laid BY PROGRAM, IN A SANDBOX (cutbox-door.mjs). By AI agents, Wed Nov 11 2026. No macro, syntax, notation, axiom, sorry.
-/
import Derived.Test.YtpnfmpbgjkhicafGreatDoorRows
import GoSem.ClaimSeven
namespace Go.Proofs.YtpnfmpbgjkhicafGreatDoor
namespace Rows

/-- THE TIED CARD OF 'tallylaw2.RulesOrder'. -/
def rulesOrderCard : Claim7 := { stood := { row := rulesOrderRow, standIns := [], harness := (true, "ab607cbbfa1076102d68840232b7ca6b89a7d6598d239cfa8276f9ec871c7bfc"), looks := true }, kinds := [], alts := [], laidByText := true, laidKinds := [.data, .data, .data, .sentinel, .sentinel], laidTests := true, laidLooks := .later }
def RulesOrderCardSaid : Prop := Claim7.holds Tryz.pinned (.plain (OpenSpec.ofChange rulesOrderSpec)) rulesOrderCard

/-- THE TIED CARD OF 'tallylaw4.RulesRing'. -/
def rulesRingCard : Claim7 := { stood := { row := rulesRingRow, standIns := [], harness := (true, "ab607cbbfa1076102d68840232b7ca6b89a7d6598d239cfa8276f9ec871c7bfc"), looks := true }, kinds := [], alts := [], laidByText := true, laidKinds := [.data, .data, .data, .handle, .sentinel, .sentinel], laidTests := true, laidLooks := .later }
def RulesRingCardSaid : Prop := Claim7.holds Tryz.pinned (.plain (OpenSpec.ofChange rulesRingSpec)) rulesRingCard

/-- THE SECOND FORM's CARD OF 'tallylaw2.RulesOrder'. -/
def rulesOrderUptoCard : Claim7 := { stood := { row := rulesOrderUptoRow, standIns := [], harness := (true, "ab607cbbfa1076102d68840232b7ca6b89a7d6598d239cfa8276f9ec871c7bfc"), looks := true }, kinds := [], alts := [], laidByText := true, laidKinds := [.data, .data, .data, .sentinel, .sentinel], laidTests := true, laidLooks := .later }
def RulesOrderUptoCardSaid : Prop := Claim7.holds Tryz.pinned (.plain (OpenSpec.upto rulesOrderSpec)) rulesOrderUptoCard

/-- THE SECOND FORM's CARD OF 'tallylaw4.RulesRing'. -/
def rulesRingUptoCard : Claim7 := { stood := { row := rulesRingUptoRow, standIns := [], harness := (true, "ab607cbbfa1076102d68840232b7ca6b89a7d6598d239cfa8276f9ec871c7bfc"), looks := true }, kinds := [], alts := [], laidByText := true, laidKinds := [.data, .data, .data, .handle, .sentinel, .sentinel], laidTests := true, laidLooks := .later }
def RulesRingUptoCardSaid : Prop := Claim7.holds Tryz.pinned (.plain (OpenSpec.upto rulesRingSpec)) rulesRingUptoCard
end Rows
end Go.Proofs.YtpnfmpbgjkhicafGreatDoor
