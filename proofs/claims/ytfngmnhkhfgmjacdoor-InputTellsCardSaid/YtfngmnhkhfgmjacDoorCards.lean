/-
  DERIVED. GIVEN WITH THE SEED: THE CARDS: each row of YtfngmnhkhfgmjacDoorRows.lean that lists a variable, with what it lists TIED to the program's text (the seventh form; the later family's looks); each row that meets fmt, with fmt's text TOLD by the authors' own Lean function (tested against real Go, not proved from fmt's source: count such statements apart). THE CARD IS WHAT COUNTS. Prove the row's statement (the work); the ties are given (YtfngmnhkhfgmjacDoorTie.lean); close each card by the builder's one call (the guide's Derived/Test/ToyasCard.lean, 'card_holds'). Laid BY PROGRAM, IN A SANDBOX (cutbox-door.mjs). By AI agents, Wed Nov 11 2026. No macro, syntax, notation, axiom, sorry.
-/
import Derived.Test.YtfngmnhkhfgmjacDoorRows
import GoSem.ClaimSeven
namespace Go.Proofs.YtfngmnhkhfgmjacDoor
namespace Rows

/-- THE TIED CARD OF 'tallylaw4.OutlineFull'. -/
def outlineFullCard : Claim7 := { stood := { row := outlineFullRow, standIns := [], harness := (true, "a1bbac41ad76eeaf74013ae122850de1216ecd5f9989f26549c65bbdff409429"), looks := true }, kinds := [], alts := [], laidByText := true, laidKinds := [.handle], laidTests := true, laidLooks := .later }
def OutlineFullCardSaid : Prop := Claim7.holds Tryd.pinned (.plain (OpenSpec.ofChange outlineFullSpec)) outlineFullCard

/-- THE TIED CARD OF 'tallylaw4.PlaceCounts'. -/
def placeCountsCard : Claim7 := { stood := { row := placeCountsRow, standIns := [], harness := (true, "a1bbac41ad76eeaf74013ae122850de1216ecd5f9989f26549c65bbdff409429"), looks := true }, kinds := [], alts := [], laidByText := true, laidKinds := [.handle], laidTests := true, laidLooks := .later }
def PlaceCountsCardSaid : Prop := Claim7.holds Tryd.pinned (.plain (OpenSpec.ofChange placeCountsSpec)) placeCountsCard

/-- THE TIED CARD OF 'tallylaw1.InputTells'. -/
def inputTellsCard : Claim7 := { stood := { row := inputTellsRow, standIns := [], harness := (true, "a1bbac41ad76eeaf74013ae122850de1216ecd5f9989f26549c65bbdff409429"), looks := true }, kinds := [], alts := [], laidByText := true, laidKinds := [.handle], laidTests := true, laidLooks := .later }
def InputTellsCardSaid : Prop := Claim7.holds Tryd.pinned (.plain (OpenSpec.ofChange inputTellsSpec)) inputTellsCard

/-- THE TIED CARD OF 'tallylaw4.InputMany'. -/
def inputManyCard : Claim7 := { stood := { row := inputManyRow, standIns := [], harness := (true, "a1bbac41ad76eeaf74013ae122850de1216ecd5f9989f26549c65bbdff409429"), looks := true }, kinds := [], alts := [], laidByText := true, laidKinds := [.handle], laidTests := true, laidLooks := .later }
def InputManyCardSaid : Prop := Claim7.holds Tryd.pinned (.plain (OpenSpec.ofChange inputManySpec)) inputManyCard

/-- THE SECOND FORM's CARD OF 'tallylaw4.OutlineFull'. -/
def outlineFullUptoCard : Claim7 := { stood := { row := outlineFullUptoRow, standIns := [], harness := (true, "a1bbac41ad76eeaf74013ae122850de1216ecd5f9989f26549c65bbdff409429"), looks := true }, kinds := [], alts := [], laidByText := true, laidKinds := [.handle], laidTests := true, laidLooks := .later }
def OutlineFullUptoCardSaid : Prop := Claim7.holds Tryd.pinned (.plain (OpenSpec.upto outlineFullSpec)) outlineFullUptoCard

/-- THE SECOND FORM's CARD OF 'tallylaw4.PlaceCounts'. -/
def placeCountsUptoCard : Claim7 := { stood := { row := placeCountsUptoRow, standIns := [], harness := (true, "a1bbac41ad76eeaf74013ae122850de1216ecd5f9989f26549c65bbdff409429"), looks := true }, kinds := [], alts := [], laidByText := true, laidKinds := [.handle], laidTests := true, laidLooks := .later }
def PlaceCountsUptoCardSaid : Prop := Claim7.holds Tryd.pinned (.plain (OpenSpec.upto placeCountsSpec)) placeCountsUptoCard

/-- THE SECOND FORM's CARD OF 'tallylaw1.InputTells'. -/
def inputTellsUptoCard : Claim7 := { stood := { row := inputTellsUptoRow, standIns := [], harness := (true, "a1bbac41ad76eeaf74013ae122850de1216ecd5f9989f26549c65bbdff409429"), looks := true }, kinds := [], alts := [], laidByText := true, laidKinds := [.handle], laidTests := true, laidLooks := .later }
def InputTellsUptoCardSaid : Prop := Claim7.holds Tryd.pinned (.plain (OpenSpec.upto inputTellsSpec)) inputTellsUptoCard

/-- THE SECOND FORM's CARD OF 'tallylaw4.InputMany'. -/
def inputManyUptoCard : Claim7 := { stood := { row := inputManyUptoRow, standIns := [], harness := (true, "a1bbac41ad76eeaf74013ae122850de1216ecd5f9989f26549c65bbdff409429"), looks := true }, kinds := [], alts := [], laidByText := true, laidKinds := [.handle], laidTests := true, laidLooks := .later }
def InputManyUptoCardSaid : Prop := Claim7.holds Tryd.pinned (.plain (OpenSpec.upto inputManySpec)) inputManyUptoCard
end Rows
end Go.Proofs.YtfngmnhkhfgmjacDoor
