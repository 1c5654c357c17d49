/-
  Cells in a row, in memory: a slice of them, a block of a call's own that holds them.
-/
import Derived.Test.YtklfenojapgmnaeDoorCells5
import Derived.Test.YtklfenojapgmnaeDoorPl2
import Derived.Test.YtklfenojapgmnaeDoorTree3
import Derived.Test.YtklfenojapgmnaeDoorOpen
import Derived.Lib.SliceRun
import Derived.OwnWalk
namespace Go.Proofs.YtklfenojapgmnaeDoor
open Go.ChangeShapes Go.WideShapes Go.ChangeAt Go.RowKit
set_option maxRecDepth 20000

def noC : Int × Int := (0, 0)
/-- cells, one behind the other -/
def cellsC : List (Int × Int) → List Value
  | [] => []
  | c :: r => .int .i64 c.1 :: .int .i64 c.2 :: cellsC r
theorem cellsC_len (L : List (Int × Int)) : (cellsC L).length = L.length * 2 := by
  induction L with
  | nil => rfl
  | cons x r ih => simp [cellsC, ih]; omega
theorem cellsC_append (a b : List (Int × Int)) : cellsC (a ++ b) = cellsC a ++ cellsC b := by
  induction a with
  | nil => rfl
  | cons x r ih => simp [cellsC, ih]
theorem cellsC_one (L : List (Int × Int)) : ∀ v ∈ cellsC L, v.oneCell' = true := by
  induction L with
  | nil => intro v hv; cases hv
  | cons x r ih =>
    intro v hv
    simp only [cellsC, List.mem_cons] at hv
    rcases hv with rfl | rfl | hv
    · rfl
    · rfl
    · exact ih v hv
theorem cellsC_at (L : List (Int × Int)) : ∀ k, k < L.length → (cellsC L)[k * 2]? = some (.int .i64 (L.getD k noC).1) ∧ (cellsC L)[k * 2 + 1]? = some (.int .i64 (L.getD k noC).2) := by
  induction L with
  | nil => intro k hk; cases hk
  | cons x r ih =>
    intro k hk
    cases k with
    | zero => simp [cellsC]
    | succ k =>
      rw [show (k + 1) * 2 = k * 2 + 1 + 1 by omega]
      simp only [cellsC, List.getElem?_cons_succ, List.getD_cons_succ]
      exact ih k (by simpa using hk)
/-- cells that lie in a block -/
def CelAt (w : World) (b o : Nat) (L : List (Int × Int)) : Prop := b < w.heap.size ∧ ∀ k, k < L.length → w.cell? ⟨b, o + k * 2, none⟩ = some (.int .i64 (L.getD k noC).1) ∧ w.cell? ⟨b, o + k * 2 + 1, none⟩ = some (.int .i64 (L.getD k noC).2)
theorem CelAt.later {w w' : World} {b o : Nat} {L : List (Int × Int)} (h : CelAt w b o L) (hB : Below w.heap.size w w') : CelAt w' b o L :=
  ⟨Nat.lt_of_lt_of_le h.1 hB.size, fun k hk => ⟨(hB.cell (p := ⟨b, o + k * 2, none⟩) h.1).trans (h.2 k hk).1, (hB.cell (p := ⟨b, o + k * 2 + 1, none⟩) h.1).trans (h.2 k hk).2⟩⟩
theorem CelAt.cells {w : World} {b o : Nat} {L : List (Int × Int)} (h : CelAt w b o L) : ∀ j u, (cellsC L)[j]? = some u → w.cell? ⟨b, o + j, none⟩ = some u := by
  intro j u hj
  have hlt : j < (cellsC L).length := (List.getElem?_eq_some_iff.1 hj).1
  rw [cellsC_len] at hlt
  have hk : j / 2 < L.length := by omega
  obtain ⟨h1, h2⟩ := cellsC_at L _ hk
  obtain ⟨c1, c2⟩ := h.2 _ hk
  rcases Nat.mod_two_eq_zero_or_one j with hm | hm
  · have e : j = j / 2 * 2 := by omega
    rw [e] at hj ⊢
    rw [h1] at hj
    rw [c1]
    exact hj
  · have e : j = j / 2 * 2 + 1 := by omega
    rw [e] at hj ⊢
    rw [h2] at hj
    rw [← Nat.add_assoc, c2]
    exact hj
def CelV (w : World) (A : Option Addr) (cap : Nat) (L : List (Int × Int)) : Prop := L.length ≤ cap ∧ cap ≤ 9223372036854775807 ∧ (L = [] ∨ ∃ b o, A = some ⟨b, o, none⟩ ∧ CelAt w b o L)
theorem CelV.later {w w' : World} {A : Option Addr} {cap : Nat} {L : List (Int × Int)} (h : CelV w A cap L) (hB : Below w.heap.size w w') : CelV w' A cap L := by
  obtain ⟨h1, h0, h2 | ⟨b, o, h2, h3⟩⟩ := h
  · exact ⟨h1, h0, Or.inl h2⟩
  · exact ⟨h1, h0, Or.inr ⟨b, o, h2, h3.later hB⟩⟩
theorem CelV.nil (w : World) (A : Option Addr) (cap : Nat) (h : cap ≤ 9223372036854775807) : CelV w A cap [] := ⟨Nat.zero_le _, h, Or.inl rfl⟩
/-- cells in a block of a call's own -/
def CelB (w : World) (g : Nat) (L : List (Int × Int)) : Prop := ∃ cur : Array Value, w.heap[g]? = some (.cells cur 28 (0, 0)) ∧ ∀ k, k < L.length → cur[k * 2]? = some (.int .i64 (L.getD k noC).1) ∧ cur[k * 2 + 1]? = some (.int .i64 (L.getD k noC).2)
section
variable {w w' : World} {g : Nat} {L : List (Int × Int)}
theorem CelB.lt (h : CelB w g L) : g < w.heap.size := by
  obtain ⟨cur, h1, _⟩ := h
  exact (Array.getElem?_eq_some_iff.1 h1).1
theorem CelB.same (h : CelB w g L) (hb : w'.heap[g]? = w.heap[g]?) : CelB w' g L := by
  obtain ⟨cur, h1, h2⟩ := h
  exact ⟨cur, hb.trans h1, h2⟩
theorem CelB.later (h : CelB w g L) (hB : Below w.heap.size w w') : CelB w' g L := h.same (hB.block g h.lt)
theorem CelB.at (h : CelB w g L) {k : Nat} (hk : k < L.length) : w.cell? ⟨g, k * 2, none⟩ = some (.int .i64 (L.getD k noC).1) ∧ w.cell? ⟨g, k * 2 + 1, none⟩ = some (.int .i64 (L.getD k noC).2) := by
  obtain ⟨cur, h1, h2⟩ := h
  obtain ⟨h3, h4⟩ := h2 k hk
  exact ⟨by simp [World.cell?, h1, h3], by simp [World.cell?, h1, h4]⟩
theorem CelB.frozen (h : CelB w g L) (j : Nat) : w.frozen? ⟨g, j, none⟩ = false := by
  obtain ⟨cur, h1, _⟩ := h
  exact Lib.frozen_of_heap h1 j
theorem CelB.celAt (h : CelB w g L) : CelAt w g 0 L := ⟨h.lt, fun k hk => by rw [Nat.zero_add]; exact h.at hk⟩
theorem CelB.set (h : CelB w g L) {x : Nat} (hx : x < L.length) (a b : Int) : CelB ((w.setCell ⟨g, x * 2, none⟩ (.int .i64 a)).setCell ⟨g, x * 2 + 1, none⟩ (.int .i64 b)) g (L.set x (a, b)) := by
  obtain ⟨cur, h1, h2⟩ := h
  refine ⟨(cur.setIfInBounds (x * 2) (.int .i64 a)).setIfInBounds (x * 2 + 1) (.int .i64 b), by simp [World.setCell, Array.getElem?_modify, h1], fun k hk => ?_⟩
  rw [List.length_set] at hk
  obtain ⟨h3, h4⟩ := h2 k hk
  obtain ⟨h5, h6⟩ := h2 x hx
  have z0 := (Array.getElem?_eq_some_iff.1 h5).1
  have z1 := (Array.getElem?_eq_some_iff.1 h6).1
  by_cases e : k = x
  · subst e
    constructor
    · rw [Array.getElem?_setIfInBounds_ne (by omega), Array.getElem?_setIfInBounds_self_of_lt z0]
      simp [List.getD, hk]
    · rw [Array.getElem?_setIfInBounds_self_of_lt (by simpa using z1)]
      simp [List.getD, hk]
  · have e1 : (L.set x (a, b)).getD k noC = L.getD k noC := by simp [List.getD, List.getElem?_set_ne (fun h => e h.symm)]
    rw [e1]
    constructor
    · rw [Array.getElem?_setIfInBounds_ne (by omega), Array.getElem?_setIfInBounds_ne (by omega)]; exact h3
    · rw [Array.getElem?_setIfInBounds_ne (by omega), Array.getElem?_setIfInBounds_ne (by omega)]; exact h4
theorem celB_own {base : Nat} {v : Value} (h : w.ownsRow base 28 2 v L.length (cellsC L)) (hl : 0 < L.length) : ∃ g c, v = .slice (some ⟨g, 0, none⟩) L.length c ∧ base ≤ g ∧ L.length ≤ c ∧ c ≤ 9223372036854775807 ∧ CelB w g L := by
  rcases h.2 with ⟨_, h0⟩ | ⟨g, cap, cur, rfl, hb, hg, h4, h5, h6, h7⟩
  · omega
  · refine ⟨g, cap, rfl, hb, h4, by unfold maxLen at h5; omega, cur, hg, fun k hk => ?_⟩
    obtain ⟨x0, x1⟩ := cellsC_at L k hk
    rw [← h7, List.getElem?_take, if_pos (by omega), Array.getElem?_toList] at x0 x1
    exact ⟨x0, x1⟩
end
theorem Tryd.infoCe : (Tryd.prog.info? 28).map (fun i => (i.zero, i.size, i.bytes)) = some (some (.agg #[.int .i64 0, .int .i64 0]), 2, 16) := by kernel_rfl

def goodB (L : List (Int × Int)) (k : Nat) : Bool := !(good (L.getD k noC).1 (L.getD k noC).2)
end Go.Proofs.YtklfenojapgmnaeDoor
