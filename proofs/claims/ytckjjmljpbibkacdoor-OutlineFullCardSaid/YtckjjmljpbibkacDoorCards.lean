/-
  DERIVED. GIVEN WITH THE SEED: THE CARDS: each row of YtckjjmljpbibkacDoorRows.lean that lists a variable, with what it lists TIED to the program's text (the seventh form; the later family's looks); each row that meets fmt, with fmt's text TOLD by the authors' own Lean function (tested against real Go, not proved from fmt's source: count such statements apart). THE CARD IS WHAT COUNTS. Prove the row's statement (the work); the ties are given (YtckjjmljpbibkacDoorTie.lean); close each card by the builder's one call (the guide's Derived/Test/ToyasCard.lean, 'card_holds'). Laid BY PROGRAM, IN A SANDBOX (cutbox-door.mjs). By AI agents, Wed Nov 11 2026. No macro, syntax, notation, axiom, sorry.
-/
import Derived.Test.YtckjjmljpbibkacDoorRows
import GoSem.ClaimSeven
namespace Go.Proofs.YtckjjmljpbibkacDoor
namespace Rows

/-- THE TIED CARD OF 'tallylaw4.OutlineFull'. -/
def outlineFullCard : Claim7 := { stood := { row := outlineFullRow, standIns := [], harness := (true, "8a4ea10f6611dd68d02d3d52ee5e69d70c2875ec89eb21ef8c90064f6cf334c8"), looks := true }, kinds := [], alts := [], laidByText := true, laidKinds := [.handle], laidTests := true, laidLooks := .later }
def OutlineFullCardSaid : Prop := Claim7.holds Tryd.pinned (.plain (OpenSpec.ofChange outlineFullSpec)) outlineFullCard

/-- THE TIED CARD OF 'tallylaw4.PlaceCounts'. -/
def placeCountsCard : Claim7 := { stood := { row := placeCountsRow, standIns := [], harness := (true, "8a4ea10f6611dd68d02d3d52ee5e69d70c2875ec89eb21ef8c90064f6cf334c8"), looks := true }, kinds := [], alts := [], laidByText := true, laidKinds := [.handle], laidTests := true, laidLooks := .later }
def PlaceCountsCardSaid : Prop := Claim7.holds Tryd.pinned (.plain (OpenSpec.ofChange placeCountsSpec)) placeCountsCard

/-- THE SECOND FORM's CARD OF 'tallylaw4.OutlineFull'. -/
def outlineFullUptoCard : Claim7 := { stood := { row := outlineFullUptoRow, standIns := [], harness := (true, "8a4ea10f6611dd68d02d3d52ee5e69d70c2875ec89eb21ef8c90064f6cf334c8"), looks := true }, kinds := [], alts := [], laidByText := true, laidKinds := [.handle], laidTests := true, laidLooks := .later }
def OutlineFullUptoCardSaid : Prop := Claim7.holds Tryd.pinned (.plain (OpenSpec.upto outlineFullSpec)) outlineFullUptoCard

/-- THE SECOND FORM's CARD OF 'tallylaw4.PlaceCounts'. -/
def placeCountsUptoCard : Claim7 := { stood := { row := placeCountsUptoRow, standIns := [], harness := (true, "8a4ea10f6611dd68d02d3d52ee5e69d70c2875ec89eb21ef8c90064f6cf334c8"), looks := true }, kinds := [], alts := [], laidByText := true, laidKinds := [.handle], laidTests := true, laidLooks := .later }
def PlaceCountsUptoCardSaid : Prop := Claim7.holds Tryd.pinned (.plain (OpenSpec.upto placeCountsSpec)) placeCountsUptoCard
end Rows
end Go.Proofs.YtckjjmljpbibkacDoor
