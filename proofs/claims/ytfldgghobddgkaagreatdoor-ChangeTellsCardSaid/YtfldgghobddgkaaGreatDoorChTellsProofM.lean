/-
  For every outline, all entries and every change the Go function tallylaw3.ChangeTells returns true, in whatever memory it is called: what Do of package change tells, the outline, the entries and the error, is what the document asks (tallyref2: Change).
  Conditions: the listed package-level variables of Go's library begin as the program's text lays them (the card ties them to the pruned copy of the project); it writes nothing but memory that it makes.
-/
import Derived.Test.YtfldgghobddgkaaGreatDoorRows
import Derived.Test.YtfldgghobddgkaaGreatDoorTie
import Derived.Test.YtfldgghobddgkaaGreatDoorCards
import Derived.Test.YtfldgghobddgkaaGreatDoorChTellsProofMN
import Derived.ProofKit
import Derived.LaidMore
import Derived.LaidLaws
import Derived.LaidHandle
import Derived.OpenShut
import Derived.SizedLaws
import Derived.Stop.Joined
import Derived.Stop.LaidErr
import Derived.Lib.SmallJoins
import Derived.SevenTiedAt
import Derived.Carry
namespace Go.Proofs.YtfldgghobddgkaaGreatDoor
open Go
theorem changeTells_holds : Rows.ChangeTellsCardSaid :=
  Claim7.holds_tied_plain_at .later [] [.data, .data, .data, .handle, .sentinel, .sentinel] true (true, "ada4739a83187f4e3d9837270003f59292379663c36422b024e262f837439862") true
    changeTells.said (fun _ h => by cases h) (by as_aux_lemma => kernel_rfl) (fun _ h => by cases h) changeTells_row_tie rfl ⟨rfl, rfl⟩ (by as_aux_lemma => kernel_rfl) rfl
    (fun f fn hf hfn => by
      obtain rfl : f = 3 := Option.some.inj ((show Tryz.prog.funcNamed "tallyhall/tallylaw3.ChangeTells" = some 3 by as_aux_lemma => kernel_rfl).symm.trans hf) |>.symm
      obtain rfl : fn = Tryz.f3 := (Option.some.inj (Tryz.func3.symm.trans hfn)).symm
      exact ⟨(by as_aux_lemma => kernel_rfl), fun j t ht => by
        rw [Tryz.params3] at ht
        have hm : t ∈ [24, 25, 27] := by simpa using Array.mem_of_getElem? ht
        have hall : ([24, 25, 27].all fun u => !Tryz.prog.wantsStandIn u) = true := by as_aux_lemma => kernel_rfl
        exact (show Tryz.prog.wantsStandIn t = false by simpa using List.all_eq_true.1 hall t hm)⟩)
    (by as_aux_lemma => kernel_rfl)
#print axioms changeTells_holds
end Go.Proofs.YtfldgghobddgkaaGreatDoor
