/-
  What Leafs of package tree answers: the leafs of a member, or what is wrong.
-/
import Derived.Test.YtfngmnhkhfgmjadJRBH
namespace Go.Proofs.Ytfngmnhkhfgmjad
open Go.ChangeShapes Go.WideShapes Go.ChangeAt Go.RowKit
set_option maxRecDepth 20000
set_option maxHeartbeats 2000000 in
theorem leafs_any (d : Dm) (A : Option Addr) (cap : Nat) (i : Int) (w : World) (hM : MemsV w A cap d.n d.mem) : Calls Try.prog 52 #[dimV d A cap, .int .i64 i] w fun e w' => (∃ A' c', e = .returned (.tuple #[.slice A' (lst (treeErr d [i]) (leafsOf d.mem d.n i)).length c', errV (treeErr d [i])]) ∧ IntsAt w' A' c' (lst (treeErr d [i]) (leafsOf d.mem d.n i))) ∧ Below w.heap.size w w' := by
 have hB0 := ownQ_below w d A cap i 32 3
 have hck := tcheck_any d A cap _ 1 [i] (ownQ w d A cap i 32 3) (hM.later hB0) (by simp) (ownQ_ints ..)
 have HB0 : Hid (Below w.heap.size w (ownQ w d A cap i 32 3)) := hB0
 have HM : Hid (MemsV w A cap d.n d.mem) := hM
 unfold dimV at hck ⊢
 simp only [List.length_singleton] at hck
 clear hM hB0
 by_cases he : treeErr d [i] = 0
 ·obtain ⟨hd, k, rfl, hk⟩ := treeErr_in he
  rw [he, errV_zero] at hck
  obtain ⟨-, -, hd2, -⟩ := dimErr_right hd
  have ht : Tr d.mem d.n := Tr.of hd
  have HR : Hid (lst (treeErr d [(k : Int)]) (leafsOf d.mem d.n k) = selTo (leafIn d.mem d.n k) d.n) := lst_ok he _
  have HE : Hid (errV (treeErr d [(k : Int)]) = .nilIface) := by show _ = _; rw [he]; rfl
  have HT : Hid (Tr d.mem d.n) := ht
  clear he hd ht
  go_enter Try.func52, Try.ntmps52
  go_wp2_with fail
  refine hck.mono ?_
  rintro e w1 ⟨rfl, hb1⟩
  have hB : Below w.heap.size w w1 := onB HB0.out hb1
  have hz : w.heap.size + 1 < w1.heap.size := by have := hb1.size; rw [ownQ_size] at this; omega
  have hz0 : w.heap.size < w1.heap.size := by omega
  have h2 : w1.cell? ⟨w.heap.size, 2, none⟩ = some (.slice A d.n cap) := (hb1.cell (p := ⟨w.heap.size, 2, none⟩) (by show w.heap.size < _; rw [ownQ_size]; omega)).trans (ownQ_dim ..)
  have h3 : w1.cell? ⟨w.heap.size + 1, 0, none⟩ = some (.int .i64 k) := (hb1.cell (p := ⟨w.heap.size + 1, 0, none⟩) (by show w.heap.size + 1 < _; rw [ownQ_size]; omega)).trans (ownQ_int ..)
  obtain ⟨hcap, h0 | ⟨b, o, rfl, hMs⟩⟩ := HM.out.later hB
  ·omega
  have hpl := places_any 76 w.heap.size (w.heap.size + 1) leafs1_in (some ⟨b, o, none⟩) d.n cap (leafIn d.mem d.n k) w1 hd2 (fun j w' hj hw' => leafs1_any b o d.n cap j w.heap.size (w.heap.size + 1) d.mem k w' hj hd2 HT.out (hMs.later hw') (Nat.lt_of_lt_of_le hz0 hw'.size) (Nat.lt_of_lt_of_le hz hw'.size) ((hw'.cell (p := ⟨w.heap.size, 2, none⟩) hz0).trans h2) ((hw'.cell (p := ⟨w.heap.size + 1, 0, none⟩) hz).trans h3))
  have HB : Hid (Below w.heap.size w w1) := hB
  clear hb1 hck hMs h3 hB
  go_wp2_with fail
  refine hpl.mono ?_
  rintro e w2 ⟨⟨A', c', rfl, hI⟩, hb2⟩
  go_wp2_with fail
  go_ret2
  rw [HR.out, HE.out]
  exact ⟨⟨A', c', rfl, hI⟩, onB HB.out hb2⟩
 ·have HR : Hid (lst (treeErr d [i]) (leafsOf d.mem d.n i) = []) := lst_bad he _
  have HE : Hid (errV (treeErr d [i]) = .iface 77 (.int .i64 (treeErr d [i]))) := errV_some he
  rw [errV_some he] at hck
  clear he
  generalize treeErr d [i] = c at hck HR HE
  go_enter Try.func52, Try.ntmps52
  go_wp2_with fail
  refine hck.mono ?_
  rintro e w1 ⟨rfl, hb1⟩
  go_wp2_with fail
  go_ret2
  rw [HR.out, HE.out]
  exact ⟨⟨none, 0, rfl, IntsAt.nil _ _ _⟩, onB HB0.out hb1⟩
end Go.Proofs.Ytfngmnhkhfgmjad
