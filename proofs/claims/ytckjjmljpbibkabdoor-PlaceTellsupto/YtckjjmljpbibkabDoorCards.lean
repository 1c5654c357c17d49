/-
  DERIVED. GIVEN WITH THE SEED: THE CARDS: each row of YtckjjmljpbibkabDoorRows.lean that lists a variable, with what it lists TIED to the program's text (the seventh form; the later family's looks); each row that meets fmt, with fmt's text TOLD by the authors' own Lean function (tested against real Go, not proved from fmt's source: count such statements apart). THE CARD IS WHAT COUNTS. Prove the row's statement (the work); the ties are given (YtckjjmljpbibkabDoorTie.lean); close each card by the builder's one call (the guide's Derived/Test/ToyasCard.lean, 'card_holds'). Laid BY PROGRAM, IN A SANDBOX (cutbox-door.mjs). By AI agents, Wed Nov 11 2026. No macro, syntax, notation, axiom, sorry.
-/
import Derived.Test.YtckjjmljpbibkabDoorRows
import GoSem.ClaimSeven
namespace Go.Proofs.YtckjjmljpbibkabDoor
namespace Rows

/-- THE TIED CARD OF 'tallylaw1.TreeTells'. -/
def treeTellsCard : Claim7 := { stood := { row := treeTellsRow, standIns := [], harness := (true, "5a34f483ca1b872af1de5597b695bc50b8318472bd22d9d5d64f8e5265feab75"), looks := true }, kinds := [], alts := [], laidByText := true, laidKinds := [.handle], laidTests := true, laidLooks := .later }
def TreeTellsCardSaid : Prop := Claim7.holds Tryd.pinned (.plain (OpenSpec.ofChange treeTellsSpec)) treeTellsCard

/-- THE TIED CARD OF 'tallylaw4.TreeLine'. -/
def treeLineCard : Claim7 := { stood := { row := treeLineRow, standIns := [], harness := (true, "5a34f483ca1b872af1de5597b695bc50b8318472bd22d9d5d64f8e5265feab75"), looks := true }, kinds := [], alts := [], laidByText := true, laidKinds := [.handle], laidTests := true, laidLooks := .later }
def TreeLineCardSaid : Prop := Claim7.holds Tryd.pinned (.plain (OpenSpec.ofChange treeLineSpec)) treeLineCard

/-- THE TIED CARD OF 'tallylaw1.PlaceTells'. -/
def placeTellsCard : Claim7 := { stood := { row := placeTellsRow, standIns := [], harness := (true, "5a34f483ca1b872af1de5597b695bc50b8318472bd22d9d5d64f8e5265feab75"), looks := true }, kinds := [], alts := [], laidByText := true, laidKinds := [.data, .handle, .pinned], laidTests := true, laidLooks := .later }
def PlaceTellsCardSaid : Prop := Claim7.holds Tryd.pinned (.plain (OpenSpec.ofChange placeTellsSpec)) placeTellsCard

/-- THE TIED CARD OF 'tallylaw1.PlaceBack'. -/
def placeBackCard : Claim7 := { stood := { row := placeBackRow, standIns := [], harness := (true, "5a34f483ca1b872af1de5597b695bc50b8318472bd22d9d5d64f8e5265feab75"), looks := true }, kinds := [], alts := [], laidByText := true, laidKinds := [.data, .pinned], laidTests := true, laidLooks := .later }
def PlaceBackCardSaid : Prop := Claim7.holds Tryd.pinned (.plain (OpenSpec.ofChange placeBackSpec)) placeBackCard

/-- THE SECOND FORM's CARD OF 'tallylaw1.TreeTells'. -/
def treeTellsUptoCard : Claim7 := { stood := { row := treeTellsUptoRow, standIns := [], harness := (true, "5a34f483ca1b872af1de5597b695bc50b8318472bd22d9d5d64f8e5265feab75"), looks := true }, kinds := [], alts := [], laidByText := true, laidKinds := [.handle], laidTests := true, laidLooks := .later }
def TreeTellsUptoCardSaid : Prop := Claim7.holds Tryd.pinned (.plain (OpenSpec.upto treeTellsSpec)) treeTellsUptoCard

/-- THE SECOND FORM's CARD OF 'tallylaw4.TreeLine'. -/
def treeLineUptoCard : Claim7 := { stood := { row := treeLineUptoRow, standIns := [], harness := (true, "5a34f483ca1b872af1de5597b695bc50b8318472bd22d9d5d64f8e5265feab75"), looks := true }, kinds := [], alts := [], laidByText := true, laidKinds := [.handle], laidTests := true, laidLooks := .later }
def TreeLineUptoCardSaid : Prop := Claim7.holds Tryd.pinned (.plain (OpenSpec.upto treeLineSpec)) treeLineUptoCard

/-- THE SECOND FORM's CARD OF 'tallylaw1.PlaceTells'. -/
def placeTellsUptoCard : Claim7 := { stood := { row := placeTellsUptoRow, standIns := [], harness := (true, "5a34f483ca1b872af1de5597b695bc50b8318472bd22d9d5d64f8e5265feab75"), looks := true }, kinds := [], alts := [], laidByText := true, laidKinds := [.data, .handle, .pinned], laidTests := true, laidLooks := .later }
def PlaceTellsUptoCardSaid : Prop := Claim7.holds Tryd.pinned (.plain (OpenSpec.upto placeTellsSpec)) placeTellsUptoCard

/-- THE SECOND FORM's CARD OF 'tallylaw1.PlaceBack'. -/
def placeBackUptoCard : Claim7 := { stood := { row := placeBackUptoRow, standIns := [], harness := (true, "5a34f483ca1b872af1de5597b695bc50b8318472bd22d9d5d64f8e5265feab75"), looks := true }, kinds := [], alts := [], laidByText := true, laidKinds := [.data, .pinned], laidTests := true, laidLooks := .later }
def PlaceBackUptoCardSaid : Prop := Claim7.holds Tryd.pinned (.plain (OpenSpec.upto placeBackSpec)) placeBackUptoCard
end Rows
end Go.Proofs.YtckjjmljpbibkabDoor
