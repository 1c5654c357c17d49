/-
  For every outline and all edits, twice, the Go function tallylaw2.HallSame returns true, in whatever memory it is called: behind any edits the cells of a hall are those that calc.All tells of its entries, and edits done at once come to what they come to one by one, if none is refused.
  Conditions: the listed package-level variables of Go's library begin as the program's text lays them (the card ties them to the pruned copy of the project); it writes nothing but memory that it makes.
-/
import Derived.Test.YtnlfpaopfloklaaGreatDoorRows
import Derived.Test.YtnlfpaopfloklaaGreatDoorTie
import Derived.Test.YtnlfpaopfloklaaGreatDoorCards
import Derived.Test.YtnlfpaopfloklaaGreatDoorHSameProofMN
import Derived.ProofKit
import Derived.LaidMore
import Derived.LaidLaws
import Derived.LaidHandle
import Derived.OpenShut
import Derived.SizedLaws
import Derived.Stop.Joined
import Derived.Stop.LaidErr
import Derived.Lib.SmallJoins
import Derived.SevenTiedAt
import Derived.Carry
namespace Go.Proofs.YtnlfpaopfloklaaGreatDoor
open Go
theorem hallSame_holds : Rows.HallSameCardSaid :=
  Claim7.holds_tied_plain_at .later [] [.data, .data, .data, .sentinel, .sentinel] true (true, "c309b13673ffaba98bbcc1f3f37d17172358786e6615f59961bb58fc7a178c9d") true
    hallSame.said (fun _ h => by cases h) (by as_aux_lemma => kernel_rfl) (fun _ h => by cases h) hallSame_row_tie rfl ⟨rfl, rfl⟩ (by as_aux_lemma => kernel_rfl) rfl
    (fun f fn hf hfn => by
      obtain rfl : f = 3 := Option.some.inj ((show Tryz.prog.funcNamed "tallyhall/tallylaw2.HallSame" = some 3 by as_aux_lemma => kernel_rfl).symm.trans hf) |>.symm
      obtain rfl : fn = Tryz.f3 := (Option.some.inj (Tryz.func3.symm.trans hfn)).symm
      exact ⟨(by as_aux_lemma => kernel_rfl), fun j t ht => by
        rw [Tryz.params3] at ht
        have hm : t ∈ [24, 25, 25] := by simpa using Array.mem_of_getElem? ht
        have hall : ([24, 25, 25].all fun u => !Tryz.prog.wantsStandIn u) = true := by as_aux_lemma => kernel_rfl
        exact (show Tryz.prog.wantsStandIn t = false by simpa using List.all_eq_true.1 hall t hm)⟩)
    (by as_aux_lemma => kernel_rfl)
#print axioms hallSame_holds
end Go.Proofs.YtnlfpaopfloklaaGreatDoor
