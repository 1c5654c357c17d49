/-
  DERIVED. GIVEN WITH THE SEED: THE CARDS: each row of YtglekooldbeklaaGreatDoorRows.lean that lists a variable, with what it lists TIED to the program's text (the seventh form; the later family's looks); each row that meets fmt, with fmt's text TOLD by the authors' own Lean function (tested against real Go, not proved from fmt's source: count such statements apart). THE CARD IS WHAT COUNTS. Prove the row's statement (the work); the ties are given (YtglekooldbeklaaGreatDoorTie.lean); close each card by the builder's one call (the guide's Derived/Test/ToyasCard.lean, 'card_holds'). Laid BY PROGRAM, IN A SANDBOX (cutbox-door.mjs). By AI agents, Wed Nov 11 2026. No macro, syntax, notation, axiom, sorry.
-/
import Derived.Test.YtglekooldbeklaaGreatDoorRows
import GoSem.ClaimSeven
namespace Go.Proofs.YtglekooldbeklaaGreatDoor
namespace Rows

/-- THE TIED CARD OF 'tallylaw3.ChangeKeeps'. -/
def changeKeepsCard : Claim7 := { stood := { row := changeKeepsRow, standIns := [], harness := (true, "ffba2180c9b7aa6e895e454686b76fa855e472898a816c25120c715c03f931ac"), looks := true }, kinds := [], alts := [], laidByText := true, laidKinds := [.data, .data, .data, .handle, .sentinel, .sentinel], laidTests := true, laidLooks := .later }
def ChangeKeepsCardSaid : Prop := Claim7.holds Tryz.pinned (.plain (OpenSpec.ofChange changeKeepsSpec)) changeKeepsCard

/-- THE TIED CARD OF 'tallylaw4.ChangeGrows'. -/
def changeGrowsCard : Claim7 := { stood := { row := changeGrowsRow, standIns := [], harness := (true, "ffba2180c9b7aa6e895e454686b76fa855e472898a816c25120c715c03f931ac"), looks := true }, kinds := [], alts := [], laidByText := true, laidKinds := [.data, .data, .data, .sentinel, .sentinel], laidTests := true, laidLooks := .later }
def ChangeGrowsCardSaid : Prop := Claim7.holds Tryz.pinned (.plain (OpenSpec.ofChange changeGrowsSpec)) changeGrowsCard

/-- THE SECOND FORM's CARD OF 'tallylaw3.ChangeKeeps'. -/
def changeKeepsUptoCard : Claim7 := { stood := { row := changeKeepsUptoRow, standIns := [], harness := (true, "ffba2180c9b7aa6e895e454686b76fa855e472898a816c25120c715c03f931ac"), looks := true }, kinds := [], alts := [], laidByText := true, laidKinds := [.data, .data, .data, .handle, .sentinel, .sentinel], laidTests := true, laidLooks := .later }
def ChangeKeepsUptoCardSaid : Prop := Claim7.holds Tryz.pinned (.plain (OpenSpec.upto changeKeepsSpec)) changeKeepsUptoCard

/-- THE SECOND FORM's CARD OF 'tallylaw4.ChangeGrows'. -/
def changeGrowsUptoCard : Claim7 := { stood := { row := changeGrowsUptoRow, standIns := [], harness := (true, "ffba2180c9b7aa6e895e454686b76fa855e472898a816c25120c715c03f931ac"), looks := true }, kinds := [], alts := [], laidByText := true, laidKinds := [.data, .data, .data, .sentinel, .sentinel], laidTests := true, laidLooks := .later }
def ChangeGrowsUptoCardSaid : Prop := Claim7.holds Tryz.pinned (.plain (OpenSpec.upto changeGrowsSpec)) changeGrowsUptoCard
end Rows
end Go.Proofs.YtglekooldbeklaaGreatDoor
