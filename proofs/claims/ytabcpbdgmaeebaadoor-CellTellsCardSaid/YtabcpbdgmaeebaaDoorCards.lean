/-
  DERIVED. GIVEN WITH THE SEED: THE CARDS: each row of YtabcpbdgmaeebaaDoorRows.lean that lists a variable, with what it lists TIED to the program's text (the seventh form; the later family's looks); each row that meets fmt, with fmt's text TOLD by the authors' own Lean function (tested against real Go, not proved from fmt's source: count such statements apart). THE CARD IS WHAT COUNTS. Prove the row's statement (the work); the ties are given (YtabcpbdgmaeebaaDoorTie.lean); close each card by the builder's one call (the guide's Derived/Test/ToyasCard.lean, 'card_holds'). Laid BY PROGRAM, IN A SANDBOX (cutbox-door.mjs). By AI agents, Wed Nov 11 2026. No macro, syntax, notation, axiom, sorry.
-/
import Derived.Test.YtabcpbdgmaeebaaDoorRows
import GoSem.ClaimSeven
namespace Go.Proofs.YtabcpbdgmaeebaaDoor
namespace Rows

/-- THE TIED CARD OF 'tallylaw1.CellTells'. -/
def cellTellsCard : Claim7 := { stood := { row := cellTellsRow, standIns := [], harness := (true, "b47a62aa12768692e1ae90c5b7a5c284a536d5f5c5a4ef27a6613b29ad3da411"), looks := true }, kinds := [], alts := [], laidByText := true, laidKinds := [.data, .data, .data, .handle, .sentinel, .sentinel], laidTests := true, laidLooks := .later }
def CellTellsCardSaid : Prop := Claim7.holds Tryd.pinned (.plain (OpenSpec.ofChange cellTellsSpec)) cellTellsCard

/-- THE TIED CARD OF 'tallylaw1.CellAdds'. -/
def cellAddsCard : Claim7 := { stood := { row := cellAddsRow, standIns := [], harness := (true, "b47a62aa12768692e1ae90c5b7a5c284a536d5f5c5a4ef27a6613b29ad3da411"), looks := true }, kinds := [], alts := [], laidByText := true, laidKinds := [.data, .data, .data, .sentinel, .sentinel], laidTests := true, laidLooks := .later }
def CellAddsCardSaid : Prop := Claim7.holds Tryd.pinned (.plain (OpenSpec.ofChange cellAddsSpec)) cellAddsCard

/-- THE SECOND FORM's CARD OF 'tallylaw1.CellTells'. -/
def cellTellsUptoCard : Claim7 := { stood := { row := cellTellsUptoRow, standIns := [], harness := (true, "b47a62aa12768692e1ae90c5b7a5c284a536d5f5c5a4ef27a6613b29ad3da411"), looks := true }, kinds := [], alts := [], laidByText := true, laidKinds := [.data, .data, .data, .handle, .sentinel, .sentinel], laidTests := true, laidLooks := .later }
def CellTellsUptoCardSaid : Prop := Claim7.holds Tryd.pinned (.plain (OpenSpec.upto cellTellsSpec)) cellTellsUptoCard

/-- THE SECOND FORM's CARD OF 'tallylaw1.CellAdds'. -/
def cellAddsUptoCard : Claim7 := { stood := { row := cellAddsUptoRow, standIns := [], harness := (true, "b47a62aa12768692e1ae90c5b7a5c284a536d5f5c5a4ef27a6613b29ad3da411"), looks := true }, kinds := [], alts := [], laidByText := true, laidKinds := [.data, .data, .data, .sentinel, .sentinel], laidTests := true, laidLooks := .later }
def CellAddsUptoCardSaid : Prop := Claim7.holds Tryd.pinned (.plain (OpenSpec.upto cellAddsSpec)) cellAddsUptoCard
end Rows
end Go.Proofs.YtabcpbdgmaeebaaDoor
