/-
  DERIVED. GIVEN WITH THE SEED: THE CARDS: each row of YtbhanigcjdegjaaGreatDoorRows.lean that lists a variable, with what it lists TIED to the program's text (the seventh form; the later family's looks); each row that meets fmt, with fmt's text TOLD by the authors' own Lean function (tested against real Go, not proved from fmt's source: count such statements apart). THE CARD IS WHAT COUNTS. Prove the row's statement (the work); the ties are given (YtbhanigcjdegjaaGreatDoorTie.lean); close each card by the builder's one call (the guide's Derived/Test/ToyasCard.lean, 'card_holds'). Laid BY PROGRAM, IN A SANDBOX (cutbox-door.mjs). By AI agents, Wed Nov 11 2026. No macro, syntax, notation, axiom, sorry.
-/
import Derived.Test.YtbhanigcjdegjaaGreatDoorRows
import GoSem.ClaimSeven
namespace Go.Proofs.YtbhanigcjdegjaaGreatDoor
namespace Rows

/-- THE TIED CARD OF 'tallylaw3.SpreadSums'. -/
def spreadSumsCard : Claim7 := { stood := { row := spreadSumsRow, standIns := [], harness := (true, "b3221ca4f440c646fe6c578eebb00046e301a8bd696328d3bc244cf6c1d56d94"), looks := true }, kinds := [], alts := [], laidByText := true, laidKinds := [.data, .data, .data, .sentinel, .sentinel], laidTests := true, laidLooks := .later }
def SpreadSumsCardSaid : Prop := Claim7.holds Tryz.pinned (.plain (OpenSpec.ofChange spreadSumsSpec)) spreadSumsCard

/-- THE SECOND FORM's CARD OF 'tallylaw3.SpreadSums'. -/
def spreadSumsUptoCard : Claim7 := { stood := { row := spreadSumsUptoRow, standIns := [], harness := (true, "b3221ca4f440c646fe6c578eebb00046e301a8bd696328d3bc244cf6c1d56d94"), looks := true }, kinds := [], alts := [], laidByText := true, laidKinds := [.data, .data, .data, .sentinel, .sentinel], laidTests := true, laidLooks := .later }
def SpreadSumsUptoCardSaid : Prop := Claim7.holds Tryz.pinned (.plain (OpenSpec.upto spreadSumsSpec)) spreadSumsUptoCard
end Rows
end Go.Proofs.YtbhanigcjdegjaaGreatDoor
