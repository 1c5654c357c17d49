/-
  For every outline, all entries and every change the Go function tallylaw3.ChangeKeeps returns true, in whatever memory it is called: what comes of a change is right; with another name all cells are as they were; a member more under none changes no cell that was, under another there are more cells; signed anew twice all is as it was.
  Conditions: the listed package-level variables of Go's library begin as the program's text lays them (the card ties them to the pruned copy of the project); it writes nothing but memory that it makes.
-/
import Derived.Test.YtglekooldbeklaaGreatDoorRows
import Derived.Test.YtglekooldbeklaaGreatDoorTie
import Derived.Test.YtglekooldbeklaaGreatDoorCards
import Derived.Test.YtglekooldbeklaaGreatDoorCKeepsProofMN
import Derived.ProofKit
import Derived.LaidMore
import Derived.LaidLaws
import Derived.LaidHandle
import Derived.OpenShut
import Derived.SizedLaws
import Derived.Stop.Joined
import Derived.Stop.LaidErr
import Derived.Lib.SmallJoins
import Derived.SevenTiedAt
import Derived.Carry
namespace Go.Proofs.YtglekooldbeklaaGreatDoor
open Go
theorem changeKeeps_holds : Rows.ChangeKeepsCardSaid :=
  Claim7.holds_tied_plain_at .later [] [.data, .data, .data, .handle, .sentinel, .sentinel] true (true, "ffba2180c9b7aa6e895e454686b76fa855e472898a816c25120c715c03f931ac") true
    changeKeeps.said (fun _ h => by cases h) (by as_aux_lemma => kernel_rfl) (fun _ h => by cases h) changeKeeps_row_tie rfl ⟨rfl, rfl⟩ (by as_aux_lemma => kernel_rfl) rfl
    (fun f fn hf hfn => by
      obtain rfl : f = 3 := Option.some.inj ((show Tryz.prog.funcNamed "tallyhall/tallylaw3.ChangeKeeps" = some 3 by as_aux_lemma => kernel_rfl).symm.trans hf) |>.symm
      obtain rfl : fn = Tryz.f3 := (Option.some.inj (Tryz.func3.symm.trans hfn)).symm
      exact ⟨(by as_aux_lemma => kernel_rfl), fun j t ht => by
        rw [Tryz.params3] at ht
        have hm : t ∈ [24, 25, 27] := by simpa using Array.mem_of_getElem? ht
        have hall : ([24, 25, 27].all fun u => !Tryz.prog.wantsStandIn u) = true := by as_aux_lemma => kernel_rfl
        exact (show Tryz.prog.wantsStandIn t = false by simpa using List.all_eq_true.1 hall t hm)⟩)
    (by as_aux_lemma => kernel_rfl)
#print axioms changeKeeps_holds
end Go.Proofs.YtglekooldbeklaaGreatDoor
