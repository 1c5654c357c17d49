/-
  DERIVED. GIVEN WITH THE SEED: THE CARDS: each row of YtfgegmpoejilnaaGreatDoorRows.lean that lists a variable, with what it lists TIED to the program's text (the seventh form; the later family's looks); each row that meets fmt, with fmt's text TOLD by the authors' own Lean function (tested against real Go, not proved from fmt's source: count such statements apart). THE CARD IS WHAT COUNTS. Prove the row's statement (the work); the ties are given (YtfgegmpoejilnaaGreatDoorTie.lean); close each card by the builder's one call (the guide's Derived/Test/ToyasCard.lean, 'card_holds'). Laid BY PROGRAM, IN A SANDBOX (cutbox-door.mjs). By AI agents, Wed Nov 11 2026. No macro, syntax, notation, axiom, sorry.
-/
import Derived.Test.YtfgegmpoejilnaaGreatDoorRows
import GoSem.ClaimSeven
namespace Go.Proofs.YtfgegmpoejilnaaGreatDoor
namespace Rows

/-- THE TIED CARD OF 'tallylaw2.HallSame'. -/
def hallSameCard : Claim7 := { stood := { row := hallSameRow, standIns := [], harness := (true, "299648428495dbf369d41fce2faf7b509e88da1afe854db3aced64e87972dfc9"), looks := true }, kinds := [], alts := [], laidByText := true, laidKinds := [.data, .data, .data, .sentinel, .sentinel], laidTests := true, laidLooks := .later }
def HallSameCardSaid : Prop := Claim7.holds Tryz.pinned (.plain (OpenSpec.ofChange hallSameSpec)) hallSameCard

/-- THE TIED CARD OF 'tallylaw4.HallCounts'. -/
def hallCountsCard : Claim7 := { stood := { row := hallCountsRow, standIns := [], harness := (true, "299648428495dbf369d41fce2faf7b509e88da1afe854db3aced64e87972dfc9"), looks := true }, kinds := [], alts := [], laidByText := true, laidKinds := [.data, .data, .data, .sentinel, .sentinel], laidTests := true, laidLooks := .later }
def HallCountsCardSaid : Prop := Claim7.holds Tryz.pinned (.plain (OpenSpec.ofChange hallCountsSpec)) hallCountsCard

/-- THE TIED CARD OF 'tallytop.TopWays'. -/
def topWaysCard : Claim7 := { stood := { row := topWaysRow, standIns := [], harness := (true, "299648428495dbf369d41fce2faf7b509e88da1afe854db3aced64e87972dfc9"), looks := true }, kinds := [], alts := [], laidByText := true, laidKinds := [.data, .data, .data, .sentinel, .sentinel], laidTests := true, laidLooks := .later }
def TopWaysCardSaid : Prop := Claim7.holds Tryz.pinned (.plain (OpenSpec.ofChange topWaysSpec)) topWaysCard

/-- THE SECOND FORM's CARD OF 'tallylaw2.HallSame'. -/
def hallSameUptoCard : Claim7 := { stood := { row := hallSameUptoRow, standIns := [], harness := (true, "299648428495dbf369d41fce2faf7b509e88da1afe854db3aced64e87972dfc9"), looks := true }, kinds := [], alts := [], laidByText := true, laidKinds := [.data, .data, .data, .sentinel, .sentinel], laidTests := true, laidLooks := .later }
def HallSameUptoCardSaid : Prop := Claim7.holds Tryz.pinned (.plain (OpenSpec.upto hallSameSpec)) hallSameUptoCard

/-- THE SECOND FORM's CARD OF 'tallylaw4.HallCounts'. -/
def hallCountsUptoCard : Claim7 := { stood := { row := hallCountsUptoRow, standIns := [], harness := (true, "299648428495dbf369d41fce2faf7b509e88da1afe854db3aced64e87972dfc9"), looks := true }, kinds := [], alts := [], laidByText := true, laidKinds := [.data, .data, .data, .sentinel, .sentinel], laidTests := true, laidLooks := .later }
def HallCountsUptoCardSaid : Prop := Claim7.holds Tryz.pinned (.plain (OpenSpec.upto hallCountsSpec)) hallCountsUptoCard

/-- THE SECOND FORM's CARD OF 'tallytop.TopWays'. -/
def topWaysUptoCard : Claim7 := { stood := { row := topWaysUptoRow, standIns := [], harness := (true, "299648428495dbf369d41fce2faf7b509e88da1afe854db3aced64e87972dfc9"), looks := true }, kinds := [], alts := [], laidByText := true, laidKinds := [.data, .data, .data, .sentinel, .sentinel], laidTests := true, laidLooks := .later }
def TopWaysUptoCardSaid : Prop := Claim7.holds Tryz.pinned (.plain (OpenSpec.upto topWaysSpec)) topWaysUptoCard
end Rows
end Go.Proofs.YtfgegmpoejilnaaGreatDoor
