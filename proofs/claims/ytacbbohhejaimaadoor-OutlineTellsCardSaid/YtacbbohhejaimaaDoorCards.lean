/-
  DERIVED. GIVEN WITH THE SEED: THE CARDS: each row of YtacbbohhejaimaaDoorRows.lean that lists a variable, with what it lists TIED to the program's text (the seventh form; the later family's looks); each row that meets fmt, with fmt's text TOLD by the authors' own Lean function (tested against real Go, not proved from fmt's source: count such statements apart). THE CARD IS WHAT COUNTS. Prove the row's statement (the work); the ties are given (YtacbbohhejaimaaDoorTie.lean); close each card by the builder's one call (the guide's Derived/Test/ToyasCard.lean, 'card_holds'). Laid BY PROGRAM, IN A SANDBOX (cutbox-door.mjs). By AI agents, Wed Nov 11 2026. No macro, syntax, notation, axiom, sorry.
-/
import Derived.Test.YtacbbohhejaimaaDoorRows
import GoSem.ClaimSeven
namespace Go.Proofs.YtacbbohhejaimaaDoor
namespace Rows

/-- THE TIED CARD OF 'tallylaw1.CellTells'. -/
def cellTellsCard : Claim7 := { stood := { row := cellTellsRow, standIns := [], harness := (true, "86a452a7acdb849b5907573b62a55db44fd7eae73c2495f4425e84feca9fce6e"), looks := true }, kinds := [], alts := [], laidByText := true, laidKinds := [.data, .data, .data, .handle, .sentinel, .sentinel], laidTests := true, laidLooks := .later }
def CellTellsCardSaid : Prop := Claim7.holds Tryd.pinned (.plain (OpenSpec.ofChange cellTellsSpec)) cellTellsCard

/-- THE TIED CARD OF 'tallylaw1.CellAdds'. -/
def cellAddsCard : Claim7 := { stood := { row := cellAddsRow, standIns := [], harness := (true, "86a452a7acdb849b5907573b62a55db44fd7eae73c2495f4425e84feca9fce6e"), looks := true }, kinds := [], alts := [], laidByText := true, laidKinds := [.data, .data, .data, .sentinel, .sentinel], laidTests := true, laidLooks := .later }
def CellAddsCardSaid : Prop := Claim7.holds Tryd.pinned (.plain (OpenSpec.ofChange cellAddsSpec)) cellAddsCard

/-- THE TIED CARD OF 'tallylaw1.OutlineTells'. -/
def outlineTellsCard : Claim7 := { stood := { row := outlineTellsRow, standIns := [], harness := (true, "86a452a7acdb849b5907573b62a55db44fd7eae73c2495f4425e84feca9fce6e"), looks := true }, kinds := [], alts := [], laidByText := true, laidKinds := [.handle], laidTests := true, laidLooks := .later }
def OutlineTellsCardSaid : Prop := Claim7.holds Tryd.pinned (.plain (OpenSpec.ofChange outlineTellsSpec)) outlineTellsCard

/-- THE SECOND FORM's CARD OF 'tallylaw1.CellTells'. -/
def cellTellsUptoCard : Claim7 := { stood := { row := cellTellsUptoRow, standIns := [], harness := (true, "86a452a7acdb849b5907573b62a55db44fd7eae73c2495f4425e84feca9fce6e"), looks := true }, kinds := [], alts := [], laidByText := true, laidKinds := [.data, .data, .data, .handle, .sentinel, .sentinel], laidTests := true, laidLooks := .later }
def CellTellsUptoCardSaid : Prop := Claim7.holds Tryd.pinned (.plain (OpenSpec.upto cellTellsSpec)) cellTellsUptoCard

/-- THE SECOND FORM's CARD OF 'tallylaw1.CellAdds'. -/
def cellAddsUptoCard : Claim7 := { stood := { row := cellAddsUptoRow, standIns := [], harness := (true, "86a452a7acdb849b5907573b62a55db44fd7eae73c2495f4425e84feca9fce6e"), looks := true }, kinds := [], alts := [], laidByText := true, laidKinds := [.data, .data, .data, .sentinel, .sentinel], laidTests := true, laidLooks := .later }
def CellAddsUptoCardSaid : Prop := Claim7.holds Tryd.pinned (.plain (OpenSpec.upto cellAddsSpec)) cellAddsUptoCard

/-- THE SECOND FORM's CARD OF 'tallylaw1.OutlineTells'. -/
def outlineTellsUptoCard : Claim7 := { stood := { row := outlineTellsUptoRow, standIns := [], harness := (true, "86a452a7acdb849b5907573b62a55db44fd7eae73c2495f4425e84feca9fce6e"), looks := true }, kinds := [], alts := [], laidByText := true, laidKinds := [.handle], laidTests := true, laidLooks := .later }
def OutlineTellsUptoCardSaid : Prop := Claim7.holds Tryd.pinned (.plain (OpenSpec.upto outlineTellsSpec)) outlineTellsUptoCard
end Rows
end Go.Proofs.YtacbbohhejaimaaDoor
