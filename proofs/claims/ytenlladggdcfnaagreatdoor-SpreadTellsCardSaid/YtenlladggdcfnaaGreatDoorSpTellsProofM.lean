/-
  For every two numbers, all weights, every outline, all entries and every place the Go function tallylaw3.SpreadTells returns true, in whatever memory it is called: what Even, Like and To of package spread tell, and their errors, are what the document asks (tallyref2: Even, Like, Spread).
  Conditions: the listed package-level variables of Go's library begin as the program's text lays them (the card ties them to the pruned copy of the project); it writes nothing but memory that it makes.
-/
import Derived.Test.YtenlladggdcfnaaGreatDoorRows
import Derived.Test.YtenlladggdcfnaaGreatDoorTie
import Derived.Test.YtenlladggdcfnaaGreatDoorCards
import Derived.Test.YtenlladggdcfnaaGreatDoorSpTellsProofMN
import Derived.ProofKit
import Derived.LaidMore
import Derived.LaidLaws
import Derived.LaidHandle
import Derived.OpenShut
import Derived.SizedLaws
import Derived.Stop.Joined
import Derived.Stop.LaidErr
import Derived.Lib.SmallJoins
import Derived.SevenTiedAt
import Derived.Carry
namespace Go.Proofs.YtenlladggdcfnaaGreatDoor
open Go
theorem spreadTells_holds : Rows.SpreadTellsCardSaid :=
  Claim7.holds_tied_plain_at .later [] [.data, .data, .data, .handle, .sentinel, .sentinel] true (true, "9af86222d667d4591ff6e5956956bd1a6344ca75ffdcdcf5e91079a7564546cc") true
    spreadTells.said (fun _ h => by cases h) (by as_aux_lemma => kernel_rfl) (fun _ h => by cases h) spreadTells_row_tie rfl ⟨rfl, rfl⟩ (by as_aux_lemma => kernel_rfl) rfl
    (fun f fn hf hfn => by
      obtain rfl : f = 3 := Option.some.inj ((show Tryz.prog.funcNamed "tallyhall/tallylaw3.SpreadTells" = some 3 by as_aux_lemma => kernel_rfl).symm.trans hf) |>.symm
      obtain rfl : fn = Tryz.f3 := (Option.some.inj (Tryz.func3.symm.trans hfn)).symm
      exact ⟨(by as_aux_lemma => kernel_rfl), fun j t ht => by
        rw [Tryz.params3] at ht
        have hm : t ∈ [3, 3, 22, 25, 26, 27] := by simpa using Array.mem_of_getElem? ht
        have hall : ([3, 3, 22, 25, 26, 27].all fun u => !Tryz.prog.wantsStandIn u) = true := by as_aux_lemma => kernel_rfl
        exact (show Tryz.prog.wantsStandIn t = false by simpa using List.all_eq_true.1 hall t hm)⟩)
    (by as_aux_lemma => kernel_rfl)
#print axioms spreadTells_holds
end Go.Proofs.YtenlladggdcfnaaGreatDoor
