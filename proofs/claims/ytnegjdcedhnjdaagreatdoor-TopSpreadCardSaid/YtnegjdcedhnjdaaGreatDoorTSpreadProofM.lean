/-
  For every outline, all entries, every place and every three numbers the Go function tallytop.TopSpread returns true, in whatever memory it is called: where no formula tells anything, a number that spread.To spreads on the leafs of a place is taken by input.All, and a grid through the place has that number at the place.
  Conditions: the listed package-level variables of Go's library begin as the program's text lays them (the card ties them to the pruned copy of the project); it writes nothing but memory that it makes.
-/
import Derived.Test.YtnegjdcedhnjdaaGreatDoorRows
import Derived.Test.YtnegjdcedhnjdaaGreatDoorTie
import Derived.Test.YtnegjdcedhnjdaaGreatDoorCards
import Derived.Test.YtnegjdcedhnjdaaGreatDoorTSpreadProofMN
import Derived.ProofKit
import Derived.LaidMore
import Derived.LaidLaws
import Derived.LaidHandle
import Derived.OpenShut
import Derived.SizedLaws
import Derived.Stop.Joined
import Derived.Stop.LaidErr
import Derived.Lib.SmallJoins
import Derived.SevenTiedAt
import Derived.Carry
namespace Go.Proofs.YtnegjdcedhnjdaaGreatDoor
open Go
theorem topSpread_holds : Rows.TopSpreadCardSaid :=
  Claim7.holds_tied_plain_at .later [] [.data, .data, .data, .sentinel, .sentinel] true (true, "fd74c2b88fe01ab7f5336ae096f7e1976ed89b972316d9dcbcee1be2602422e7") true
    topSpread.said (fun _ h => by cases h) (by as_aux_lemma => kernel_rfl) (fun _ h => by cases h) topSpread_row_tie rfl ⟨rfl, rfl⟩ (by as_aux_lemma => kernel_rfl) rfl
    (fun f fn hf hfn => by
      obtain rfl : f = 3 := Option.some.inj ((show Tryz.prog.funcNamed "tallyhall/tallytop.TopSpread" = some 3 by as_aux_lemma => kernel_rfl).symm.trans hf) |>.symm
      obtain rfl : fn = Tryz.f3 := (Option.some.inj (Tryz.func3.symm.trans hfn)).symm
      exact ⟨(by as_aux_lemma => kernel_rfl), fun j t ht => by
        rw [Tryz.params3] at ht
        have hm : t ∈ [24, 25, 27, 3, 3, 3] := by simpa using Array.mem_of_getElem? ht
        have hall : ([24, 25, 27, 3, 3, 3].all fun u => !Tryz.prog.wantsStandIn u) = true := by as_aux_lemma => kernel_rfl
        exact (show Tryz.prog.wantsStandIn t = false by simpa using List.all_eq_true.1 hall t hm)⟩)
    (by as_aux_lemma => kernel_rfl)
#print axioms topSpread_holds
end Go.Proofs.YtnegjdcedhnjdaaGreatDoor
