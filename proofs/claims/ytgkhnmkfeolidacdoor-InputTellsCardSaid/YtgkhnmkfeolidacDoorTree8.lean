/-
  What Weight and Leafs of package tree answer: how a leaf counts in a member; the leafs of a member; or what is wrong.
-/
import Derived.Test.YtgkhnmkfeolidacDoorTree7
import Derived.Deep.RegionHeld3
namespace Go.Proofs.YtgkhnmkfeolidacDoor
open Go.ChangeShapes Go.WideShapes Go.ChangeAt Go.RowKit
set_option maxRecDepth 20000

theorem treeErr_in2 {d : Dm} {i j : Int} (h : treeErr d [i, j] = 0) : (dimErr d).2 = 0 ∧ (∃ k : Nat, i = k ∧ k < d.n) ∧ ∃ m : Nat, j = m ∧ m < d.n := by
  have h0 := treeErr_right h
  rw [treeErr_two h0] at h
  by_cases h1 : i < 0 ∨ (d.n : Int) ≤ i ∨ j < 0 ∨ (d.n : Int) ≤ j
  · rw [if_pos h1] at h; cases h
  · exact ⟨h0, ⟨i.toNat, by omega, by omega⟩, j.toNat, by omega, by omega⟩
def wErr (d : Dm) (i j : Int) : Int := if treeErr d [i, j] ≠ 0 then treeErr d [i, j] else if leafB d.mem d.n j.toNat = true then 0 else 3
def wVal (d : Dm) (i j : Int) : Int := if wErr d i j = 0 then weightOf d.mem i j else 0
theorem wErr_bad {d : Dm} {i j : Int} (h : treeErr d [i, j] ≠ 0) : wErr d i j = treeErr d [i, j] := by unfold wErr; rw [if_pos h]
theorem wErr_no {d : Dm} {i j : Int} (h : treeErr d [i, j] = 0) (h1 : leafB d.mem d.n j.toNat = false) : wErr d i j = 3 := by unfold wErr; rw [if_neg (by simpa using h), if_neg (by simp [h1])]
theorem wErr_ok {d : Dm} {i j : Int} (h : treeErr d [i, j] = 0) (h1 : leafB d.mem d.n j.toNat = true) : wErr d i j = 0 := by unfold wErr; rw [if_neg (by simpa using h), if_pos h1]
theorem wVal_ok {d : Dm} {i j : Int} (h : wErr d i j = 0) : wVal d i j = weightOf d.mem i j := by unfold wVal; rw [if_pos h]
theorem wVal_bad {d : Dm} {i j : Int} (h : wErr d i j ≠ 0) : wVal d i j = 0 := by unfold wVal; rw [if_neg h]

def ownW (w : World) (d : Dm) (A : Option Addr) (cap : Nat) (i j : Int) (T T' : Nat) : World := (ownDim w d A cap T).alloc (.cells #[.int .i64 i, .int .i64 j] T')
theorem ownW_size (w : World) (d : Dm) (A : Option Addr) (cap : Nat) (i j : Int) (T T' : Nat) : (ownW w d A cap i j T T').heap.size = w.heap.size + 2 := by unfold ownW; simp [ownDim_size]
theorem ownW_below (w : World) (d : Dm) (A : Option Addr) (cap : Nat) (i j : Int) (T T' : Nat) : Below w.heap.size w (ownW w d A cap i j T T') := by unfold ownW ownDim; go_grown
theorem ownW_dim (w : World) (d : Dm) (A : Option Addr) (cap : Nat) (i j : Int) (T T' : Nat) : (ownW w d A cap i j T T').cell? ⟨w.heap.size, 2, none⟩ = some (.slice A d.n cap) := by
  unfold ownW
  rw [World.cell?_alloc_lt _ _ ⟨w.heap.size, 2, none⟩ (by rw [ownDim_size]; exact Nat.lt_succ_self _)]
  exact (ownDim_at w d A cap T).2.2
theorem ownW_ints (w : World) (d : Dm) (A : Option Addr) (cap : Nat) (i j : Int) (T T' : Nat) : IntsAt (ownW w d A cap i j T T') (some ⟨w.heap.size + 1, 0, none⟩) 2 [i, j] := by
  refine ⟨Nat.le_refl _, Or.inr ⟨_, rfl, by rw [ownW_size]; omega, fun k hk => ?_⟩⟩
  have hk' : k < 2 := hk
  unfold ownW
  rw [← ownDim_size w d A cap T]
  match k, hk' with
  | 0, _ => simp
  | 1, _ => simp

theorem held2 {W w' : World} {p0 p1 : Addr} {v0 v1 : Value} (a0 : p0.block < W.heap.size ∧ W.cell? p0 = some v0) (a1 : p1.block < W.heap.size ∧ W.cell? p1 = some v1) (hB : Below W.heap.size W w') :
    Below W.heap.size W w' ∧ w'.cell? p0 = some v0 ∧ w'.cell? p1 = some v1 :=
  ⟨hB, (hB.cell a0.1).trans a0.2, (hB.cell a1.1).trans a1.2⟩

end Go.Proofs.YtgkhnmkfeolidacDoor
