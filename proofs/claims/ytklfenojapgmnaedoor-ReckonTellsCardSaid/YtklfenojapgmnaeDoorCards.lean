/-
  DERIVED. GIVEN WITH THE SEED: THE CARDS: each row of YtklfenojapgmnaeDoorRows.lean that lists a variable, with what it lists TIED to the program's text (the seventh form; the later family's looks); each row that meets fmt, with fmt's text TOLD by the authors' own Lean function (tested against real Go, not proved from fmt's source: count such statements apart). THE CARD IS WHAT COUNTS. Prove the row's statement (the work); the ties are given (YtklfenojapgmnaeDoorTie.lean); close each card by the builder's one call (the guide's Derived/Test/ToyasCard.lean, 'card_holds'). Laid BY PROGRAM, IN A SANDBOX (cutbox-door.mjs). By AI agents, Wed Nov 11 2026. No macro, syntax, notation, axiom, sorry.
-/
import Derived.Test.YtklfenojapgmnaeDoorRows
import GoSem.ClaimSeven
namespace Go.Proofs.YtklfenojapgmnaeDoor
namespace Rows

/-- THE TIED CARD OF 'tallylaw2.ReckonTells'. -/
def reckonTellsCard : Claim7 := { stood := { row := reckonTellsRow, standIns := [], harness := (true, "d351aaf3e908a42c67226360ac2e6c9f0a327366ee7ec451d7f453c27aaef0d0"), looks := true }, kinds := [], alts := [], laidByText := true, laidKinds := [.handle], laidTests := true, laidLooks := .later }
def ReckonTellsCardSaid : Prop := Claim7.holds Tryd.pinned (.plain (OpenSpec.ofChange reckonTellsSpec)) reckonTellsCard

/-- THE TIED CARD OF 'tallylaw2.ReckonSwaps'. -/
def reckonSwapsCard : Claim7 := { stood := { row := reckonSwapsRow, standIns := [], harness := (true, "d351aaf3e908a42c67226360ac2e6c9f0a327366ee7ec451d7f453c27aaef0d0"), looks := true }, kinds := [], alts := [], laidByText := true, laidKinds := [.data, .data, .data], laidTests := true, laidLooks := .later }
def ReckonSwapsCardSaid : Prop := Claim7.holds Tryd.pinned (.plain (OpenSpec.ofChange reckonSwapsSpec)) reckonSwapsCard

/-- THE SECOND FORM's CARD OF 'tallylaw2.ReckonTells'. -/
def reckonTellsUptoCard : Claim7 := { stood := { row := reckonTellsUptoRow, standIns := [], harness := (true, "d351aaf3e908a42c67226360ac2e6c9f0a327366ee7ec451d7f453c27aaef0d0"), looks := true }, kinds := [], alts := [], laidByText := true, laidKinds := [.handle], laidTests := true, laidLooks := .later }
def ReckonTellsUptoCardSaid : Prop := Claim7.holds Tryd.pinned (.plain (OpenSpec.upto reckonTellsSpec)) reckonTellsUptoCard

/-- THE SECOND FORM's CARD OF 'tallylaw2.ReckonSwaps'. -/
def reckonSwapsUptoCard : Claim7 := { stood := { row := reckonSwapsUptoRow, standIns := [], harness := (true, "d351aaf3e908a42c67226360ac2e6c9f0a327366ee7ec451d7f453c27aaef0d0"), looks := true }, kinds := [], alts := [], laidByText := true, laidKinds := [.data, .data, .data], laidTests := true, laidLooks := .later }
def ReckonSwapsUptoCardSaid : Prop := Claim7.holds Tryd.pinned (.plain (OpenSpec.upto reckonSwapsSpec)) reckonSwapsUptoCard
end Rows
end Go.Proofs.YtklfenojapgmnaeDoor
