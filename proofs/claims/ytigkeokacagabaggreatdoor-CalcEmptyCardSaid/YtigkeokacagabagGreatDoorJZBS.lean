/-
  What package place tells, as plain functions on plain data: what is wrong with a place, its number, a number's place, its text, a text's place; and that each undoes the other.
-/
import Derived.Test.YtigkeokacagabagGreatDoorJZBQ
namespace Go.Proofs.YtigkeokacagabagGreatDoor
def digL (D:Nat→Dm) (n x r:Nat):List Int:=(List.range n).map fun j=>if n-r≤j then (digitAt D n x j:Int) else 0
theorem digL_len (D:Nat→Dm) (n x r:Nat):(digL D n x r).length=n:=by simp [digL]
theorem digL_zero (D:Nat→Dm) (n x:Nat):digL D n x 0=List.replicate n 0:=by
 apply List.ext_getElem
 ·simp [digL]
 ·intro i h1 h2
  simp [digL] at h1 ⊢
  omega
theorem digL_all (D:Nat→Dm) (n x:Nat):digL D n x n=placeL D n x:=by simp [digL,placeL]
theorem digL_set (D:Nat→Dm) (n x r:Nat) (hr:r<n):(digL D n x r).set (n-1-r) (digitAt D n x (n-1-r):Int)=digL D n x (r+1):=by
 apply List.ext_getElem
 ·simp [digL]
 ·intro i h1 h2
  simp only [digL,List.length_set,List.length_map,List.length_range] at h1
  rw [List.getElem_set]
  simp only [digL,List.getElem_map,List.getElem_range]
  by_cases h3:n-1-r=i
  ·subst h3
   rw [if_pos rfl,if_pos (by omega)]
  ·rw [if_neg h3]
   by_cases h4:n-r≤i
   ·rw [if_pos h4,if_pos (by omega)]
   ·rw [if_neg h4,if_neg (by omega)]
end Go.Proofs.YtigkeokacagabagGreatDoor
namespace Go.Proofs.YtigkeokacagabagGreatDoor
open Go.ChangeShapes Go.WideShapes Go.ChangeAt Go.RowKit
set_option maxRecDepth 20000
theorem wrap_small {q:Nat} (h:q≤3000):wrap64 (q:Int)=q:=by unfold wrap64;omega
theorem restAt_le (D:Nat→Dm) (m n r:Nat):restAt D m n r≤n:=by
 induction r with
 | zero=>exact Nat.le_refl _
 | succ r ih=>rw [restAt];exact Nat.le_trans (Nat.div_le_self _ _) ih
end Go.Proofs.YtigkeokacagabagGreatDoor
namespace Go.Proofs.YtigkeokacagabagGreatDoor
open Go.ChangeShapes Go.WideShapes Go.ChangeAt Go.RowKit
section
variable {D:Nat→Dm} {n:Nat}
theorem cu_ru {l:List En} (h:cuErr D n l=0):(ruErr D n).2.2=0∧entsErr D n l=0:=by
 have h4:(ruErr D n).2.2=0:=by
  by_cases h2:(ruErr D n).2.2=0
  ·exact h2
  ·unfold cuErr at h;rw [if_pos h2] at h;exact absurd h h2
 exact ⟨h4,by unfold cuErr at h;rw [h4,if_neg (by simp)] at h;exact h⟩
end
end Go.Proofs.YtigkeokacagabagGreatDoor
