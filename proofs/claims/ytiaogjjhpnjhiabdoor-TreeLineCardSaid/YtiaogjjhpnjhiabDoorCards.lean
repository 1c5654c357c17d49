/-
  DERIVED. GIVEN WITH THE SEED: THE CARDS: each row of YtiaogjjhpnjhiabDoorRows.lean that lists a variable, with what it lists TIED to the program's text (the seventh form; the later family's looks); each row that meets fmt, with fmt's text TOLD by the authors' own Lean function (tested against real Go, not proved from fmt's source: count such statements apart). THE CARD IS WHAT COUNTS. Prove the row's statement (the work); the ties are given (YtiaogjjhpnjhiabDoorTie.lean); close each card by the builder's one call (the guide's Derived/Test/ToyasCard.lean, 'card_holds'). Laid BY PROGRAM, IN A SANDBOX (cutbox-door.mjs). By AI agents, Wed Nov 11 2026. No macro, syntax, notation, axiom, sorry.
-/
import Derived.Test.YtiaogjjhpnjhiabDoorRows
import GoSem.ClaimSeven
namespace Go.Proofs.YtiaogjjhpnjhiabDoor
namespace Rows

/-- THE TIED CARD OF 'tallylaw1.TreeTells'. -/
def treeTellsCard : Claim7 := { stood := { row := treeTellsRow, standIns := [], harness := (true, "12f471fd1485aef304c4b34f8bd6643b13d338c04217643bf2a122f266d4af58"), looks := true }, kinds := [], alts := [], laidByText := true, laidKinds := [.handle], laidTests := true, laidLooks := .later }
def TreeTellsCardSaid : Prop := Claim7.holds Tryd.pinned (.plain (OpenSpec.ofChange treeTellsSpec)) treeTellsCard

/-- THE TIED CARD OF 'tallylaw4.TreeLine'. -/
def treeLineCard : Claim7 := { stood := { row := treeLineRow, standIns := [], harness := (true, "12f471fd1485aef304c4b34f8bd6643b13d338c04217643bf2a122f266d4af58"), looks := true }, kinds := [], alts := [], laidByText := true, laidKinds := [.handle], laidTests := true, laidLooks := .later }
def TreeLineCardSaid : Prop := Claim7.holds Tryd.pinned (.plain (OpenSpec.ofChange treeLineSpec)) treeLineCard

/-- THE SECOND FORM's CARD OF 'tallylaw1.TreeTells'. -/
def treeTellsUptoCard : Claim7 := { stood := { row := treeTellsUptoRow, standIns := [], harness := (true, "12f471fd1485aef304c4b34f8bd6643b13d338c04217643bf2a122f266d4af58"), looks := true }, kinds := [], alts := [], laidByText := true, laidKinds := [.handle], laidTests := true, laidLooks := .later }
def TreeTellsUptoCardSaid : Prop := Claim7.holds Tryd.pinned (.plain (OpenSpec.upto treeTellsSpec)) treeTellsUptoCard

/-- THE SECOND FORM's CARD OF 'tallylaw4.TreeLine'. -/
def treeLineUptoCard : Claim7 := { stood := { row := treeLineUptoRow, standIns := [], harness := (true, "12f471fd1485aef304c4b34f8bd6643b13d338c04217643bf2a122f266d4af58"), looks := true }, kinds := [], alts := [], laidByText := true, laidKinds := [.handle], laidTests := true, laidLooks := .later }
def TreeLineUptoCardSaid : Prop := Claim7.holds Tryd.pinned (.plain (OpenSpec.upto treeLineSpec)) treeLineUptoCard
end Rows
end Go.Proofs.YtiaogjjhpnjhiabDoor
