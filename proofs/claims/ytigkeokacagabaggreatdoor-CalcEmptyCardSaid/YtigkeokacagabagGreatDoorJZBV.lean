/-
  Entries and edits that lie in memory, and what is read of arguments that are lists of them.
-/
import Derived.Test.YtigkeokacagabagGreatDoorJZAW
import Derived.Test.YtigkeokacagabagGreatDoorJZBJ
namespace Go.Proofs.YtigkeokacagabagGreatDoor
open Go Go.ChangeShapes Go.WideShapes Go.ChangeAt Go.RowKit Go.Deep
set_option maxRecDepth 100000
theorem EnsV.nil (w:World) (A:Option Addr) (cap:Nat) (h:cap≤9223372036854775807):EnsV w A cap []:=⟨Nat.zero_le _,h,Or.inl rfl⟩
end Go.Proofs.YtigkeokacagabagGreatDoor
namespace Go.Proofs.YtigkeokacagabagGreatDoor
open Go Go.ChangeShapes Go.WideShapes Go.ChangeAt Go.RowKit
set_option maxRecDepth 20000
def PlTy (w:World) (A:Option Addr) (c:Nat) (L:List Int):Prop:=L.length≤c∧(L=[]∨∃ b o cs fr,A=some ⟨b,o,none⟩∧w.heap[b]?=some (.cells cs 3 fr)∧∀ j,j<L.length→w.cell? ⟨b,o+j,none⟩=some (.int .i64 (L.getD j 0)))
variable {P:Program}
end Go.Proofs.YtigkeokacagabagGreatDoor
