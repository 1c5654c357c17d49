/-
  What tallylaw4.square answers; the walk of tallylaw4.PlaceCounts: each place of a square has the number that its members tell.
-/
import Derived.Test.YtfngmnhkhfgmjadJRBD
namespace Go.Proofs.Ytfngmnhkhfgmjad
open Go.ChangeShapes Go.WideShapes Go.ChangeAt Go.RowKit
set_option maxRecDepth 20000
def SqA (g h : Nat) (i : Nat) : Option Addr := if i = 0 then some ⟨g, 0, none⟩ else some ⟨h, 0, none⟩
def SqC (c d : Nat) (i : Nat) : Nat := if i = 0 then c else d
theorem new_cell (w : World) (a : Addr) (u : Value) (cs : Array Value) (t j : Nat) : ((w.setCell a u).alloc (.cells cs t)).cell? ⟨w.heap.size, j, none⟩ = cs[j]? := by
 have h := heap_alloc_new (w.setCell a u) (.cells cs t)
 have e : (w.setCell a u).heap.size = w.heap.size := by simp [World.setCell]
 rw [e] at h
 exact Lib.cell_of_heap h j
theorem new_mem {w : World} {a : Addr} {u : Value} {o : Obj} {g n : Nat} (h : MemB w g n) (hne : g ≠ a.block) : MemB ((w.setCell a u).alloc o) g n := by
 have e : (w.setCell a u).heap.size = w.heap.size := by simp [World.setCell]
 refine h.same ?_
 rw [Below.heap_alloc _ _ _ (by rw [e]; exact h.lt), Below.heap_setCell _ _ _ _ hne]
set_option maxHeartbeats 4000000 in
theorem square_any (n : Nat) (w : World) (hn : n ≤ 12) : Calls Try.prog 12 #[.int .i64 n] w fun e w' => (∃ A0 A C, e = .returned (.agg #[.slice A0 2 2]) ∧ DimsV w' A0 2 2 (squareD n) A C) ∧ Below w.heap.size w w' := by
 have h1 := flat_any ⟨#[120]⟩ n (ownOut w none 0 0 24) hn
 have HB0 : Hid (Below w.heap.size w (ownOut w none 0 0 24)) := ownOut_below ..
 go_enter Try.func12, Try.ntmps12
 go_wp2_with fail
 refine h1.mono ?_
 rintro e w1 ⟨⟨g1, k1, rfl, hc1, hg1, hM1⟩, hb1⟩
 have hB1 := onB HB0.out hb1
 have hz1 : w.heap.size < w1.heap.size := by have := hb1.size; rw [ownOut_size] at this; omega
 have c1 : w1.cell? ⟨w.heap.size, 0, none⟩ = some (.slice none 0 0) := (hb1.cell (p := ⟨w.heap.size, 0, none⟩) (by show w.heap.size < _; rw [ownOut_size]; omega)).trans (ownOut_at ..)
 have f1 : w1.frozen? ⟨w.heap.size, 0, none⟩ = false := (hb1.frozen (p := ⟨w.heap.size, 0, none⟩) (by show w.heap.size < _; rw [ownOut_size]; omega)).trans (by unfold ownOut; exact World.frozen?_alloc_at _ _ _ _ rfl)
 have h2 := flat_any ⟨#[121]⟩ n w1 hn
 clear h1 hb1
 go_wp2_with fail
 refine h2.mono ?_
 rintro e w2 ⟨⟨g2, k2, rfl, hc2, hg2, hM2⟩, hb2⟩
 have hB2 := onB hB1 hb2
 have hz2 : w.heap.size < w2.heap.size := Nat.lt_of_lt_of_le hz1 hb2.size
 have c2 := (hb2.cell (p := ⟨w.heap.size, 0, none⟩) hz1).trans c1
 have f2 := (hb2.frozen (p := ⟨w.heap.size, 0, none⟩) hz1).trans f1
 have HM1 : Hid (MemB w2 g1 (n + 1)) := hM1.later hb2
 have HM2 : Hid (MemB w2 g2 (n + 1)) := hM2
 have HB2 : Hid (Below w.heap.size w w2) := hB2
 clear c1 f1 h2 hM1 hM2 hb2 hB1 hB2
 go_wp2_with fail
 rw [ownOut_size] at hg1
 have hq : ∀ v o, ((w2.setCell ⟨w.heap.size, 0, none⟩ v).alloc o).cell? ⟨w.heap.size, 0, none⟩ = some v := fun v o => by
  rw [World.cell?_alloc_lt _ _ ⟨w.heap.size, 0, none⟩ (by show w.heap.size < _; simp [World.setCell]; exact hz2), World.cell?_setCell_same _ _ _ c2]
 refine bodyPost_ret (v := .agg #[.slice (some ⟨w2.heap.size, 0, none⟩) 2 2]) (by simp [results, Try.results12, go_sem, hq]) rfl ⟨⟨some ⟨w2.heap.size, 0, none⟩, SqA g1 g2, SqC k1 k2, rfl, Nat.le_refl _, Or.inr ⟨_, _, rfl, by simp [World.setCell], fun i hi => ?_⟩⟩, ?_⟩
 ·match i, hi with
  | 0, _ => exact ⟨new_cell _ _ _ _ _ 0, new_cell _ _ _ _ _ 1, new_cell _ _ _ _ _ 2, hc1, Or.inr ⟨g1, 0, rfl, (new_mem HM1.out (by show g1 ≠ w.heap.size; omega)).2⟩⟩
  | 1, _ => exact ⟨new_cell _ _ _ _ _ 3, new_cell _ _ _ _ _ 4, new_cell _ _ _ _ _ 5, hc2, Or.inr ⟨g2, 0, rfl, (new_mem HM2.out (by show g2 ≠ w.heap.size; omega)).2⟩⟩
 ·exact (HB2.out.setCell (Nat.le_refl _) _).alloc (by simp [World.setCell]; omega) _
theorem sq_right {n : Nat} (h : n ≤ 10) : (allErr (squareD n) 2).2.2 = 0 ∧ prodN (squareD n) 2 = (n + 1) * (n + 1) := square_all ⟨n, by omega⟩
end Go.Proofs.Ytfngmnhkhfgmjad
