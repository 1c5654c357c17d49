/-
  For every outline, all entries and every text, together of at most 1048576 values and letters, the Go function tallylaw3.SheetTells returns true, in whatever memory it is called: what sheet.Print and sheet.Parse tell is what the document asks (tallyref2: Cube, SheetText, ReadSheet), with the line that is wrong.
  Conditions: the bound (of a text of 2^44 lines the dims that are read are more than a slice can hold); the listed package-level variables of Go's library begin as the program's text lays them (the card ties them to the pruned copy of the project); it writes nothing but memory that it makes.
-/
import Derived.Test.YtinebmjpdkjooaaGreatDoorRows
import Derived.Test.YtinebmjpdkjooaaGreatDoorTie
import Derived.Test.YtinebmjpdkjooaaGreatDoorCards
import Derived.Test.YtinebmjpdkjooaaGreatDoorSTellsProofML
import Derived.ProofKit
import Derived.LaidMore
import Derived.LaidLaws
import Derived.LaidHandle
import Derived.OpenShut
import Derived.SizedLaws
import Derived.Stop.Joined
import Derived.Stop.LaidErr
import Derived.Lib.SmallJoins
import Derived.SevenTiedAt
import Derived.Carry
import Derived.Lay
import Derived.Deep.DeepHandedRow
import Derived.Shelf.Vars
namespace Go.Proofs.YtinebmjpdkjooaaGreatDoor
open Go
theorem sheetTells_holds : Rows.SheetTellsUptoCardSaid :=
  Claim7.holds_tied_plain_at .later [] [.data, .data, .data, .data, .handle, .sentinel, .sentinel, .pinned] true (true, "578cb4e2fb34a7c8e4f90d6ccf123734121d7cecafc3aea0511d598769f1757b") true
    sheetTells.said (fun _ h => by cases h) (by as_aux_lemma => kernel_rfl) (fun _ h => by cases h) sheetTellsUpto_row_tie rfl ⟨rfl, rfl⟩ (by as_aux_lemma => kernel_rfl) rfl
    (fun f fn hf hfn => by
      obtain rfl : f = 3 := Option.some.inj ((show Tryz.prog.funcNamed "tallyhall/tallylaw3.SheetTells" = some 3 by as_aux_lemma => kernel_rfl).symm.trans hf) |>.symm
      obtain rfl : fn = Tryz.f3 := (Option.some.inj (Tryz.func3.symm.trans hfn)).symm
      exact ⟨(by as_aux_lemma => kernel_rfl), fun j t ht => by
        rw [Tryz.params3] at ht
        have hm : t ∈ [24, 25, 9] := by simpa using Array.mem_of_getElem? ht
        have hall : ([24, 25, 9].all fun u => !Tryz.prog.wantsStandIn u) = true := by as_aux_lemma => kernel_rfl
        exact (show Tryz.prog.wantsStandIn t = false by simpa using List.all_eq_true.1 hall t hm)⟩)
    (by as_aux_lemma => kernel_rfl)
#print axioms sheetTells_holds
end Go.Proofs.YtinebmjpdkjooaaGreatDoor
