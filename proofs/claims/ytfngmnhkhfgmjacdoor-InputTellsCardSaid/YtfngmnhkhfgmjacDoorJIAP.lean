/-
  What Parts, Path and Leaf of package tree answer: of a dim and a place the parts, the path, whether it is a leaf, or what is wrong.
-/
import Derived.Deep.QuietTactic
import Derived.BigQuiet
import Derived.WalkSmall
import Derived.Test.YtfngmnhkhfgmjacDoorJIAO
namespace Go.Proofs.YtfngmnhkhfgmjacDoor
open Go.ChangeShapes Go.WideShapes Go.ChangeAt Go.RowKit
set_option maxRecDepth 20000
theorem treeErr_right {d : Dm} {L : List Int} (h : treeErr d L = 0) : (dimErr d).2 = 0 := by
 unfold treeErr at h
 split at h
 ·rename_i h1; exact absurd h h1
 ·rename_i h1; simpa using h1
theorem treeErr_in {d : Dm} {i : Int} (h : treeErr d [i] = 0) : (dimErr d).2 = 0 ∧ ∃ k : Nat, i = k ∧ k < d.n := by
 have h0 := treeErr_right h
 rw [treeErr_one h0] at h
 by_cases h1 : i < 0 ∨ (d.n : Int) ≤ i
 ·rw [if_pos h1] at h; cases h
 ·exact ⟨h0, i.toNat, by omega, by omega⟩
theorem ints_one {w : World} {i : Int} {T : Nat} : IntsAt (ownInt w i T) (some ⟨w.heap.size, 0, none⟩) 1 [i] := by
 refine ⟨Nat.le_refl _, Or.inr ⟨_, rfl, by rw [ownInt_size]; omega, fun j hj => ?_⟩⟩
 have hj0 : j = 0 := by simp at hj; omega
 subst hj0
 exact ownInt_at w i T
def ownP (w : World) (d : Dm) (A : Option Addr) (cap : Nat) (i : Int) (T T' : Nat) : World := ownInt (ownDim w d A cap T) i T'
theorem ownP_size (w : World) (d : Dm) (A : Option Addr) (cap : Nat) (i : Int) (T T' : Nat) : (ownP w d A cap i T T').heap.size = w.heap.size + 2 := by unfold ownP; rw [ownInt_size, ownDim_size]
theorem ownP_below (w : World) (d : Dm) (A : Option Addr) (cap : Nat) (i : Int) (T T' : Nat) : Below w.heap.size w (ownP w d A cap i T T') := onB (ownDim_below w d A cap T) (ownInt_below _ i T')
theorem ownP_dim (w : World) (d : Dm) (A : Option Addr) (cap : Nat) (i : Int) (T T' : Nat) : (ownP w d A cap i T T').cell? ⟨w.heap.size, 2, none⟩ = some (.slice A d.n cap) :=
 ((ownInt_below (ownDim w d A cap T) i T').cell (p := ⟨w.heap.size, 2, none⟩) (by show w.heap.size < _; rw [ownDim_size]; omega)).trans (ownDim_at w d A cap T).2.2
theorem ownP_ints (w : World) (d : Dm) (A : Option Addr) (cap : Nat) (i : Int) (T T' : Nat) : IntsAt (ownP w d A cap i T T') (some ⟨w.heap.size + 1, 0, none⟩) 1 [i] := by
 unfold ownP
 rw [← ownDim_size w d A cap T]
 exact ints_one
def lfOf (d : Dm) (i : Int) : Bool := decide (treeErr d [i] = 0) && leafB d.mem d.n i.toNat
set_option maxHeartbeats 2000000 in
theorem tleaf_any (d : Dm) (A : Option Addr) (cap : Nat) (i : Int) (w : World) (hM : MemsV w A cap d.n d.mem) : Calls Tryd.prog 71 #[dimV d A cap, .int .i64 i] w fun e w' => e = .returned (.tuple #[.bool (lfOf d i), errV (treeErr d [i])]) ∧ Below w.heap.size w w' := by
 have hB0 := ownP_below w d A cap i 27 3
 have hck := tcheck_any d A cap _ 1 [i] (ownP w d A cap i 27 3) (hM.later hB0) (by simp) (ownP_ints ..)
 have HB0 : Hid (Below w.heap.size w (ownP w d A cap i 27 3)) := hB0
 have HM : Hid (MemsV w A cap d.n d.mem) := hM
 unfold dimV at hck ⊢
 simp only [List.length_singleton] at hck
 clear hM hB0
 by_cases he : treeErr d [i] = 0
 ·obtain ⟨hd, k, rfl, hk⟩ := treeErr_in he
  rw [he, errV_zero] at hck
  obtain ⟨-, -, hd2, -⟩ := dimErr_right hd
  have HR : Hid (lfOf d (k : Int) = leafB d.mem d.n k) := by show _ = _; simp [lfOf, he]
  have HE : Hid (errV (treeErr d [(k : Int)]) = .nilIface) := by show _ = _; rw [he]; rfl
  clear he hd
  go_enter Tryd.func71, Tryd.ntmps71
  go_wp2_with fail
  refine hck.mono ?_
  rintro e w1 ⟨rfl, hb1⟩
  have hB : Below w.heap.size w w1 := onB HB0.out hb1
  have h2 : w1.cell? ⟨w.heap.size, 2, none⟩ = some (.slice A d.n cap) := (hb1.cell (p := ⟨w.heap.size, 2, none⟩) (by show w.heap.size < _; rw [ownP_size]; omega)).trans (ownP_dim ..)
  obtain ⟨hcap, h0 | ⟨b, o, rfl, hMs⟩⟩ := HM.out.later hB
  ·omega
  have hpl := isleaf_any b o d.n cap k d.mem w1 hd2 hk hMs
  have HB : Hid (Below w.heap.size w w1) := hB
  clear hb1 hck hMs hB
  go_wp2_with fail
  refine hpl.mono ?_
  rintro e w2 ⟨rfl, hb2⟩
  go_wp2_with fail
  go_ret2
  rw [HR.out, HE.out]
  exact ⟨rfl, onB HB.out hb2⟩
 ·have HR : Hid (lfOf d i = false) := by show _ = _; simp [lfOf, he]
  have HE : Hid (errV (treeErr d [i]) = .iface 69 (.int .i64 (treeErr d [i]))) := errV_some he
  rw [errV_some he] at hck
  clear he
  generalize treeErr d [i] = c at hck HE
  go_enter Tryd.func71, Tryd.ntmps71
  go_wp2_with fail
  refine hck.mono ?_
  rintro e w1 ⟨rfl, hb1⟩
  go_wp2_with fail
  go_ret2
  rw [HR.out, HE.out]
  exact ⟨rfl, onB HB0.out hb1⟩
end Go.Proofs.YtfngmnhkhfgmjacDoor
