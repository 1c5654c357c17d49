/-
  DERIVED. GIVEN WITH THE SEED: THE CARDS: each row of YtmjcnlpjnbcfjadGreatDoorRows.lean that lists a variable, with what it lists TIED to the program's text (the seventh form; the later family's looks); each row that meets fmt, with fmt's text TOLD by the authors' own Lean function (tested against real Go, not proved from fmt's source: count such statements apart). THE CARD IS WHAT COUNTS. Prove the row's statement (the work); the ties are given (YtmjcnlpjnbcfjadGreatDoorTie.lean); close each card by the builder's one call (the guide's Derived/Test/ToyasCard.lean, 'card_holds'). Laid BY PROGRAM, IN A SANDBOX (cutbox-door.mjs). By AI agents, Wed Nov 11 2026. No macro, syntax, notation, axiom, sorry.
-/
import Derived.Test.YtmjcnlpjnbcfjadGreatDoorRows
import GoSem.ClaimSeven
namespace Go.Proofs.YtmjcnlpjnbcfjadGreatDoor
namespace Rows

/-- THE TIED CARD OF 'tallylaw1.FoldTells'. -/
def foldTellsCard : Claim7 := { stood := { row := foldTellsRow, standIns := [], harness := (true, "abd64a4bc81ffdb783bde553f7c9108106b64c80d8655a5dd751e0d29562619e"), looks := true }, kinds := [], alts := [], laidByText := true, laidKinds := [.handle], laidTests := true, laidLooks := .later }
def FoldTellsCardSaid : Prop := Claim7.holds Tryz.pinned (.plain (OpenSpec.ofChange foldTellsSpec)) foldTellsCard

/-- THE SECOND FORM's CARD OF 'tallylaw1.FoldTells'. -/
def foldTellsUptoCard : Claim7 := { stood := { row := foldTellsUptoRow, standIns := [], harness := (true, "abd64a4bc81ffdb783bde553f7c9108106b64c80d8655a5dd751e0d29562619e"), looks := true }, kinds := [], alts := [], laidByText := true, laidKinds := [.handle], laidTests := true, laidLooks := .later }
def FoldTellsUptoCardSaid : Prop := Claim7.holds Tryz.pinned (.plain (OpenSpec.upto foldTellsSpec)) foldTellsUptoCard
end Rows
end Go.Proofs.YtmjcnlpjnbcfjadGreatDoor
