/-
  What tallylaw4.square answers; the walk of tallylaw4.PlaceCounts: each place of a square has the number that its members tell.
-/
import Derived.Test.YtfngmnhkhfgmjacDoorFlat2
import Derived.Test.YtfngmnhkhfgmjacDoorPl2
import Derived.Test.YtfngmnhkhfgmjacDoorToldT
namespace Go.Proofs.YtfngmnhkhfgmjacDoor
open Go.ChangeShapes Go.WideShapes Go.ChangeAt Go.RowKit
set_option maxRecDepth 20000

def SqA (g h : Nat) (i : Nat) : Option Addr := if i = 0 then some ⟨g, 0, none⟩ else some ⟨h, 0, none⟩
def SqC (c d : Nat) (i : Nat) : Nat := if i = 0 then c else d

theorem new_cell (w : World) (a : Addr) (u : Value) (cs : Array Value) (t j : Nat) : ((w.setCell a u).alloc (.cells cs t)).cell? ⟨w.heap.size, j, none⟩ = cs[j]? := by
  have h := heap_alloc_new (w.setCell a u) (.cells cs t)
  have e : (w.setCell a u).heap.size = w.heap.size := by simp [World.setCell]
  rw [e] at h
  exact Lib.cell_of_heap h j
theorem new_mem {w : World} {a : Addr} {u : Value} {o : Obj} {g n : Nat} (h : MemB w g n) (hne : g ≠ a.block) : MemB ((w.setCell a u).alloc o) g n := by
  have e : (w.setCell a u).heap.size = w.heap.size := by simp [World.setCell]
  refine h.same ?_
  rw [Below.heap_alloc _ _ _ (by rw [e]; exact h.lt), Below.heap_setCell _ _ _ _ hne]

set_option maxHeartbeats 4000000 in
theorem square_any (n : Nat) (w : World) (hn : n ≤ 12) : Calls Tryd.prog 12 #[.int .i64 n] w fun e w' => (∃ A0 A C, e = .returned (.agg #[.slice A0 2 2]) ∧ DimsV w' A0 2 2 (squareD n) A C) ∧ Below w.heap.size w w' := by
  have h1 := flat_any ⟨#[120]⟩ n (ownOut w none 0 0 24) hn
  have HB0 : Hid (Below w.heap.size w (ownOut w none 0 0 24)) := ownOut_below ..
  go_enter Tryd.func12, Tryd.ntmps12
  go_wp2_with fail
  refine h1.mono ?_
  rintro e w1 ⟨⟨g1, k1, rfl, hc1, hg1, hM1⟩, hb1⟩
  have hB1 := onB HB0.out hb1
  have hz1 : w.heap.size < w1.heap.size := by have := hb1.size; rw [ownOut_size] at this; omega
  have c1 : w1.cell? ⟨w.heap.size, 0, none⟩ = some (.slice none 0 0) := (hb1.cell (p := ⟨w.heap.size, 0, none⟩) (by show w.heap.size < _; rw [ownOut_size]; omega)).trans (ownOut_at ..)
  have f1 : w1.frozen? ⟨w.heap.size, 0, none⟩ = false := (hb1.frozen (p := ⟨w.heap.size, 0, none⟩) (by show w.heap.size < _; rw [ownOut_size]; omega)).trans (by unfold ownOut; exact World.frozen?_alloc_at _ _ _ _ rfl)
  have h2 := flat_any ⟨#[121]⟩ n w1 hn
  clear h1 hb1
  go_wp2_with fail
  refine h2.mono ?_
  rintro e w2 ⟨⟨g2, k2, rfl, hc2, hg2, hM2⟩, hb2⟩
  have hB2 := onB hB1 hb2
  have hz2 : w.heap.size < w2.heap.size := Nat.lt_of_lt_of_le hz1 hb2.size
  have c2 := (hb2.cell (p := ⟨w.heap.size, 0, none⟩) hz1).trans c1
  have f2 := (hb2.frozen (p := ⟨w.heap.size, 0, none⟩) hz1).trans f1
  have HM1 : Hid (MemB w2 g1 (n + 1)) := hM1.later hb2
  have HM2 : Hid (MemB w2 g2 (n + 1)) := hM2
  have HB2 : Hid (Below w.heap.size w w2) := hB2
  clear c1 f1 h2 hM1 hM2 hb2 hB1 hB2
  go_wp2_with fail
  rw [ownOut_size] at hg1
  have hq : ∀ v o, ((w2.setCell ⟨w.heap.size, 0, none⟩ v).alloc o).cell? ⟨w.heap.size, 0, none⟩ = some v := fun v o => by
    rw [World.cell?_alloc_lt _ _ ⟨w.heap.size, 0, none⟩ (by show w.heap.size < _; simp [World.setCell]; exact hz2), World.cell?_setCell_same _ _ _ c2]
  refine bodyPost_ret (v := .agg #[.slice (some ⟨w2.heap.size, 0, none⟩) 2 2]) (by simp [results, Tryd.results12, go_sem, hq]) rfl ⟨⟨some ⟨w2.heap.size, 0, none⟩, SqA g1 g2, SqC k1 k2, rfl, Nat.le_refl _, Or.inr ⟨_, _, rfl, by simp [World.setCell], fun i hi => ?_⟩⟩, ?_⟩
  · match i, hi with
    | 0, _ => exact ⟨new_cell _ _ _ _ _ 0, new_cell _ _ _ _ _ 1, new_cell _ _ _ _ _ 2, hc1, Or.inr ⟨g1, 0, rfl, (new_mem HM1.out (by show g1 ≠ w.heap.size; omega)).2⟩⟩
    | 1, _ => exact ⟨new_cell _ _ _ _ _ 3, new_cell _ _ _ _ _ 4, new_cell _ _ _ _ _ 5, hc2, Or.inr ⟨g2, 0, rfl, (new_mem HM2.out (by show g2 ≠ w.heap.size; omega)).2⟩⟩
  · exact (HB2.out.setCell (Nat.le_refl _) _).alloc (by simp [World.setCell]; omega) _

theorem sq_place {n X : Nat} (h : X < (n + 1) * (n + 1)) : placeL (squareD n) 2 X = [((X / (n + 1) : Nat) : Int), ((X % (n + 1) : Nat) : Int)] := by
  have h1 : X / (n + 1) < n + 1 := Nat.div_lt_of_lt_mul h
  show [((X / (n + 1) % (n + 1) : Nat) : Int), ((X % (n + 1) : Nat) : Int)] = _
  rw [Nat.mod_eq_of_lt h1]
theorem sq_right {n : Nat} (h : n ≤ 10) : (allErr (squareD n) 2).2.2 = 0 ∧ prodN (squareD n) 2 = (n + 1) * (n + 1) := square_all ⟨n, by omega⟩

set_option maxHeartbeats 8000000 in
theorem pcounts_core (n : Nat) (x : Int) (w : World) (hn1 : 1 ≤ n) (hn2 : n ≤ 10) (hk0 : Kind0 w) :
    Calls Tryd.prog 4 #[.int .i64 n, .int .i64 x] w fun e w' => e = .returned (.bool true) ∧ Below w.heap.size w w' := by
  have h1 := square_any n w (by omega)
  obtain ⟨hr, hp⟩ := sq_right hn2
  have HK : Hid (Kind0 w) := hk0
  have HR : Hid ((allErr (squareD n) 2).2.2 = 0) := hr
  have HP : Hid (prodN (squareD n) 2 = (n + 1) * (n + 1)) := hp
  have hb1 : decide ((n : Int) < 1) = false := decide_eq_false (by omega)
  have hb2 : decide ((10 : Int) < (n : Int)) = false := decide_eq_false (by omega)
  have hn1' : (1 : Int) ≤ (n : Int) := by omega
  have hn2' : (n : Int) ≤ 10 := by omega
  clear hr hp hk0
  go_enter Tryd.func4, Tryd.ntmps4
  go_wp2_with fail
  refine h1.mono ?_
  rintro e w1 ⟨⟨A0, A, C, rfl, hD⟩, hb⟩
  have HB1 : Hid (Below w.heap.size w w1) := hb
  have HBo : Hid (Below w1.heap.size w1 (ownOut w1 A0 2 2 24)) := ownOut_below ..
  have h2 := pof_any A0 2 2 (squareD n) A C x (ownOut w1 A0 2 2 24) (hD.later HBo.out)
  clear h1 hb hD
  have hmm : (n + 1) * (n + 1) ≤ 121 := Nat.mul_le_mul (show n + 1 ≤ 11 by omega) (show n + 1 ≤ 11 by omega)
  have hmm' : ((n : Int) + 1) * ((n : Int) + 1) ≤ 121 := by have : (((n + 1) * (n + 1) : Nat) : Int) = ((n : Int) + 1) * ((n : Int) + 1) := by simp [Int.natCast_mul]
                                                            omega
  have hmp : 0 ≤ ((n : Int) + 1) * ((n : Int) + 1) := by have : (((n + 1) * (n + 1) : Nat) : Int) = ((n : Int) + 1) * ((n : Int) + 1) := by simp [Int.natCast_mul]
                                                         omega
  have HMM : Hid ((((n + 1) * (n + 1) : Nat) : Int) = ((n : Int) + 1) * ((n : Int) + 1)) := by show _ = _; simp [Int.natCast_mul]
  by_cases hx : x < 0 ∨ ((n : Int) + 1) * ((n : Int) + 1) ≤ x
  · have he : ofErr (squareD n) 2 x = 1 := of1 HR.out (by rw [HP.out, HMM.out]; exact hx)
    have hl : ofL (squareD n) 2 x = [] := by unfold ofL; rw [he]; rfl
    rw [he, hl] at h2
    simp only [List.length_nil] at h2
    rw [errV_some (by decide)] at h2
    clear he hl
    by_cases hx0 : x < 0
    · go_wp2_with fail
      refine h2.mono ?_
      rintro e w2 ⟨⟨A', c', rfl, -⟩, hb⟩
      have hs := same_hit 1 1 w2 (HK.out.later (onB HB1.out (onB HBo.out hb)))
      have HB2 : Hid (Below w.heap.size w w2) := onB HB1.out (onB HBo.out hb)
      clear h2 hb
      go_wp2_with fail
      refine hs.mono ?_
      rintro e w3 ⟨rfl, hb⟩
      go_wp2_with fail
      go_ret
      exact ⟨rfl, onB HB2.out hb⟩
    · have hx1 : ((n : Int) + 1) * ((n : Int) + 1) ≤ x := by omega
      go_wp2_with fail
      refine h2.mono ?_
      rintro e w2 ⟨⟨A', c', rfl, -⟩, hb⟩
      have hs := same_hit 1 1 w2 (HK.out.later (onB HB1.out (onB HBo.out hb)))
      have HB2 : Hid (Below w.heap.size w w2) := onB HB1.out (onB HBo.out hb)
      clear h2 hb
      go_wp2_with fail
      refine hs.mono ?_
      rintro e w3 ⟨rfl, hb⟩
      go_wp2_with fail
      go_ret
      exact ⟨rfl, onB HB2.out hb⟩
  · obtain ⟨X, rfl⟩ : ∃ X : Nat, x = X := ⟨x.toNat, by omega⟩
    have he : ofErr (squareD n) 2 (X : Int) = 0 := of2 HR.out (by rw [HP.out, HMM.out]; exact hx)
    have hX : X < (n + 1) * (n + 1) := by have := HMM.out; omega
    have hl : ofL (squareD n) 2 (X : Int) = [((X / (n + 1) : Nat) : Int), ((X % (n + 1) : Nat) : Int)] := by
      unfold ofL
      rw [if_pos he, Int.toNat_natCast, sq_place hX]
    rw [he, hl] at h2
    simp only [List.length_cons, List.length_nil, Nat.zero_add, Nat.reduceAdd] at h2
    rw [errV_zero] at h2
    have hx1 : (X : Int) < ((n : Int) + 1) * ((n : Int) + 1) := by omega
    have hb3 : decide ((X : Int) < 0) = false := decide_eq_false (by omega)
    have hb4 : decide (((n : Int) + 1) * ((n : Int) + 1) ≤ (X : Int)) = false := decide_eq_false (by omega)
    clear he hl
    go_wp2_with fail
    refine h2.mono ?_
    rintro e w2 ⟨⟨A', c', rfl, hpl⟩, hb⟩
    have HB2 : Hid (Below w.heap.size w w2) := onB HB1.out (onB HBo.out hb)
    obtain ⟨hlc, h0 | ⟨b, o, rfl, hbw, hcell⟩⟩ := hpl
    · cases h0
    have e0 : w2.cell? ⟨b, o, none⟩ = some (.int .i64 ((X : Int) / ((n : Int) + 1))) := by
      have := hcell 0 (by simp)
      simpa using this
    have e1 : w2.cell? ⟨b, o + 1, none⟩ = some (.int .i64 ((X : Int) % ((n : Int) + 1))) := by
      have := hcell 1 (by simp)
      simpa using this
    have hnz : ((n : Int) + 1 == 0) = false := by simp; omega
    have hX0 : (0 : Int) ≤ (X : Int) := by omega
    have hw : wrap64 ((X : Int) / ((n : Int) + 1)) = (X : Int) / ((n : Int) + 1) := by
      have h3 := Nat.div_le_self X (n + 1)
      have h4 : (X : Int) / ((n : Int) + 1) = ((X / (n + 1) : Nat) : Int) := by simp
      rw [h4]
      exact wrap_small (by omega)
    clear h2 hb hcell
    go_wp2_with fail
    go_quiet (fail)
    go_wp2_with fail
    go_ret
    exact ⟨rfl, below_drewN HB2.out _⟩

set_option maxHeartbeats 2000000 in
theorem pcounts_any (n x : Int) (w : World) (hk0 : Kind0 w) : Calls Tryd.prog 4 #[.int .i64 n, .int .i64 x] w fun e w' => e = .returned (.bool true) ∧ Below w.heap.size w w' := by
  by_cases h1 : n < 1
  · clear hk0
    go_enter Tryd.func4, Tryd.ntmps4
    go_wp2_with fail
    go_ret
    exact ⟨rfl, Below.refl _ _⟩
  by_cases h2 : 10 < n
  · clear hk0
    go_enter Tryd.func4, Tryd.ntmps4
    go_wp2_with fail
    go_ret
    exact ⟨rfl, Below.refl _ _⟩
  obtain ⟨N, rfl⟩ : ∃ N : Nat, n = N := ⟨n.toNat, by omega⟩
  exact pcounts_core N x w (by omega) (by omega) hk0
end Go.Proofs.YtfngmnhkhfgmjacDoor
