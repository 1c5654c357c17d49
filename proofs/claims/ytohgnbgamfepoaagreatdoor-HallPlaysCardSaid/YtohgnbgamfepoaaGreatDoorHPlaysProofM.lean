/-
  For every outline, all lists of edits and every place the Go function tallylaw2.HallPlays returns true, in whatever memory it is called: what New, Do, Cells, Entries and Cell of a hall tell, behind the first twelve of the lists of edits one after another, is what the document asks (tallyref2: Right, Dirty, Solve; tallyref1: Edits, Number, Place).
  Conditions: the listed package-level variables of Go's library begin as the program's text lays them (the card ties them to the pruned copy of the project); it writes nothing but memory that it makes.
-/
import Derived.Test.YtohgnbgamfepoaaGreatDoorRows
import Derived.Test.YtohgnbgamfepoaaGreatDoorTie
import Derived.Test.YtohgnbgamfepoaaGreatDoorCards
import Derived.Test.YtohgnbgamfepoaaGreatDoorHPlaysProofMN
import Derived.ProofKit
import Derived.LaidMore
import Derived.LaidLaws
import Derived.LaidHandle
import Derived.OpenShut
import Derived.SizedLaws
import Derived.Stop.Joined
import Derived.Stop.LaidErr
import Derived.Lib.SmallJoins
import Derived.SevenTiedAt
import Derived.Carry
namespace Go.Proofs.YtohgnbgamfepoaaGreatDoor
open Go
theorem hallPlays_holds : Rows.HallPlaysCardSaid :=
  Claim7.holds_tied_plain_at .later [] [.data, .data, .data, .handle, .sentinel, .sentinel] true (true, "86af4e0cd30f38bbd74b531f871e845500e3d5ffb1b69c9effe3bb6ad8733765") true
    hallPlays.said (fun _ h => by cases h) (by as_aux_lemma => kernel_rfl) (fun _ h => by cases h) hallPlays_row_tie rfl ⟨rfl, rfl⟩ (by as_aux_lemma => kernel_rfl) rfl
    (fun f fn hf hfn => by
      obtain rfl : f = 3 := Option.some.inj ((show Tryz.prog.funcNamed "tallyhall/tallylaw2.HallPlays" = some 3 by as_aux_lemma => kernel_rfl).symm.trans hf) |>.symm
      obtain rfl : fn = Tryz.f3 := (Option.some.inj (Tryz.func3.symm.trans hfn)).symm
      exact ⟨(by as_aux_lemma => kernel_rfl), fun j t ht => by
        rw [Tryz.params3] at ht
        have hm : t ∈ [24, 25, 27] := by simpa using Array.mem_of_getElem? ht
        have hall : ([24, 25, 27].all fun u => !Tryz.prog.wantsStandIn u) = true := by as_aux_lemma => kernel_rfl
        exact (show Tryz.prog.wantsStandIn t = false by simpa using List.all_eq_true.1 hall t hm)⟩)
    (by as_aux_lemma => kernel_rfl)
#print axioms hallPlays_holds
end Go.Proofs.YtohgnbgamfepoaaGreatDoor
