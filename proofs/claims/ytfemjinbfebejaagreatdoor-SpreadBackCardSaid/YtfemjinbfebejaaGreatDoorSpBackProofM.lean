/-
  For every number and all numbers the Go function tallylaw4.SpreadBack returns true, in whatever memory it is called: in a cube of one flat dim of at most nine parts, what is there already, spread anew as its own sum, is what spread.To tells, part by part.
  Conditions: the listed package-level variables of Go's library begin as the program's text lays them (the card ties them to the pruned copy of the project); it writes nothing but memory that it makes.
-/
import Derived.Test.YtfemjinbfebejaaGreatDoorRows
import Derived.Test.YtfemjinbfebejaaGreatDoorTie
import Derived.Test.YtfemjinbfebejaaGreatDoorCards
import Derived.Test.YtfemjinbfebejaaGreatDoorSpBackProofMN
import Derived.ProofKit
import Derived.LaidMore
import Derived.LaidLaws
import Derived.LaidHandle
import Derived.OpenShut
import Derived.SizedLaws
import Derived.Stop.Joined
import Derived.Stop.LaidErr
import Derived.Lib.SmallJoins
import Derived.SevenTiedAt
import Derived.Carry
namespace Go.Proofs.YtfemjinbfebejaaGreatDoor
open Go
theorem spreadBack_holds : Rows.SpreadBackCardSaid :=
  Claim7.holds_tied_plain_at .later [] [.data, .data, .data, .sentinel, .sentinel] true (true, "d51cd94d3bce39b1a4217699b0a7220a6a108231f737939e779219902f9c4b62") true
    spreadBack.said (fun _ h => by cases h) (by as_aux_lemma => kernel_rfl) (fun _ h => by cases h) spreadBack_row_tie rfl ⟨rfl, rfl⟩ (by as_aux_lemma => kernel_rfl) rfl
    (fun f fn hf hfn => by
      obtain rfl : f = 3 := Option.some.inj ((show Tryz.prog.funcNamed "tallyhall/tallylaw4.SpreadBack" = some 3 by as_aux_lemma => kernel_rfl).symm.trans hf) |>.symm
      obtain rfl : fn = Tryz.f3 := (Option.some.inj (Tryz.func3.symm.trans hfn)).symm
      exact ⟨(by as_aux_lemma => kernel_rfl), fun j t ht => by
        rw [Tryz.params3] at ht
        have hm : t ∈ [3, 22] := by simpa using Array.mem_of_getElem? ht
        have hall : ([3, 22].all fun u => !Tryz.prog.wantsStandIn u) = true := by as_aux_lemma => kernel_rfl
        exact (show Tryz.prog.wantsStandIn t = false by simpa using List.all_eq_true.1 hall t hm)⟩)
    (by as_aux_lemma => kernel_rfl)
#print axioms spreadBack_holds
end Go.Proofs.YtfemjinbfebejaaGreatDoor
