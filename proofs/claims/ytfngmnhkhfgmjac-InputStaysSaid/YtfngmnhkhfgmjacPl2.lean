/-
  What checkOutline, Cells and Of of package place answer, called in whatever memory: how many places an outline has; the place of a number, in new memory.
-/
import Derived.Test.YtfngmnhkhfgmjacPl1
import Derived.Deep.OwnRows
import Derived.Lib.Builder
namespace Go.Proofs.Ytfngmnhkhfgmjac
open Go.ChangeShapes Go.WideShapes Go.ChangeAt Go.RowKit
set_option maxRecDepth 20000

/-- a slice of ints, wherever it lies, that holds a list -/
def PlAt (w : World) (A : Option Addr) (cap : Nat) (L : List Int) : Prop := L.length ≤ cap ∧ (L = [] ∨ ∃ b o, A = some ⟨b, o, none⟩ ∧ b < w.heap.size ∧ ∀ j, j < L.length → w.cell? ⟨b, o + j, none⟩ = some (.int .i64 (L.getD j 0)))
theorem PlAt.later {w w' : World} {A : Option Addr} {cap : Nat} {L : List Int} (h : PlAt w A cap L) (hB : Below w.heap.size w w') : PlAt w' A cap L := by
  obtain ⟨h1, h2 | ⟨b, o, h2, h3, h4⟩⟩ := h
  · exact ⟨h1, Or.inl h2⟩
  · exact ⟨h1, Or.inr ⟨b, o, h2, Nat.lt_of_lt_of_le h3 hB.size, fun j hj => (hB.cell (p := ⟨b, o + j, none⟩) h3).trans (h4 j hj)⟩⟩
theorem PlAt.nil (w : World) (A : Option Addr) (cap : Nat) : PlAt w A cap [] := ⟨Nat.zero_le _, Or.inl rfl⟩
/-- where a slice lies, if anywhere: in a block that is not below a number -/
def NewA (N : Nat) (A : Option Addr) : Prop := ∀ b o, A = some ⟨b, o, none⟩ → N ≤ b
theorem NewA.none (N : Nat) : NewA N none := fun _ _ h => by cases h
theorem NewA.zero (A : Option Addr) : NewA 0 A := fun _ _ _ => Nat.zero_le _
theorem NewA.le {N M : Nat} {A : Option Addr} (h : NewA N A) (hm : M ≤ N) : NewA M A := fun b o e => Nat.le_trans hm (h b o e)

/-- a block of the call's own that holds ints -/
def IntB (w : World) (g : Nat) (L : List Int) : Prop := w.heap[g]? = some (.cells (L.map (Value.int .i64)).toArray 3 (0, 0))
theorem IntB.lt {w : World} {g : Nat} {L : List Int} (h : IntB w g L) : g < w.heap.size := (Array.getElem?_eq_some_iff.1 h).1
theorem IntB.cell {w : World} {g : Nat} {L : List Int} (h : IntB w g L) {j : Nat} (hj : j < L.length) : w.cell? ⟨g, j, none⟩ = some (.int .i64 (L.getD j 0)) := by
  rw [Lib.cell_of_heap h]
  simp [List.getD, hj]
theorem IntB.frozen {w : World} {g : Nat} {L : List Int} (h : IntB w g L) (j : Nat) : w.frozen? ⟨g, j, none⟩ = false := Lib.frozen_of_heap h j
theorem IntB.later {w w' : World} {g : Nat} {L : List Int} (h : IntB w g L) (hB : Below w.heap.size w w') : IntB w' g L := (hB.block g h.lt).trans h
theorem IntB.set {w : World} {g : Nat} {L : List Int} (h : IntB w g L) (j : Nat) (x : Int) : IntB (w.setCell ⟨g, j, none⟩ (.int .i64 x)) g (L.set j x) := by
  unfold IntB at *
  have e : (L.set j x).map (Value.int .i64) = (L.map (Value.int .i64)).set j (.int .i64 x) := by rw [List.map_set]
  simp [World.setCell, Array.getElem?_modify, h, e]
theorem IntB.pl {w : World} {g : Nat} {L : List Int} (h : IntB w g L) : PlAt w (some ⟨g, 0, none⟩) L.length L :=
  ⟨Nat.le_refl _, Or.inr ⟨g, 0, rfl, h.lt, fun j hj => by rw [Nat.zero_add]; exact h.cell hj⟩⟩
theorem made_ints (n : Nat) : madeCells #[.int .i64 0] n = ((List.replicate n (0 : Int)).map (Value.int .i64)).toArray := by
  apply Array.ext
  · simp [madeCells]
  · intro i h1 h2
    simp [madeCells, Nat.mod_one]
theorem IntB.made (w : World) (n : Nat) : IntB (w.alloc (.cells (madeCells #[.int .i64 0] n) 3)) w.heap.size (List.replicate n 0) := by
  unfold IntB
  rw [made_ints]
  exact heap_alloc_new w _
theorem Try.infoIntP : (Try.prog.info? 3).map (fun i => (i.zero, i.size, i.bytes)) = some (some (.int .i64 0), 1, 8) := by kernel_rfl

theorem checko_any (A0 : Option Addr) (cap n : Nat) (D : Nat → Dm) (A : Nat → Option Addr) (C : Nat → Nat) (w : World) (hM : DimsV w A0 cap n D A C) : Calls Try.prog 21 #[.agg #[.slice A0 n cap]] w fun e w' => e = .returned (errV (allErr D n).2.2) ∧ Below w.heap.size w w' := by
  have hB0 := ownOut_below w A0 n cap 24
  have h := all_any A0 cap n D A C (ownOut w A0 n cap 24) (hM.later hB0)
  have HB0 : Hid (Below w.heap.size w (ownOut w A0 n cap 24)) := hB0
  clear hM hB0
  generalize errV (allErr D n).2.2 = v at h
  generalize (allErr D n).1 = x at h
  generalize (allErr D n).2.1 = y at h
  go_enter Try.func21, Try.ntmps21
  go_wp2_with fail
  refine h.mono ?_
  rintro e w1 ⟨rfl, hb1⟩
  go_wp2_with fail
  go_ret
  exact ⟨rfl, onB HB0.out hb1⟩

def cellsV (D : Nat → Dm) (n : Nat) : Int := if (allErr D n).2.2 = 0 then (prodN D n : Int) else 0

theorem wrap_small {q : Nat} (h : q ≤ 3000) : wrap64 (q : Int) = q := by unfold wrap64; omega
theorem restAt_le (D : Nat → Dm) (m n r : Nat) : restAt D m n r ≤ n := by
  induction r with
  | zero => exact Nat.le_refl _
  | succ r ih => rw [restAt]; exact Nat.le_trans (Nat.div_le_self _ _) ih

end Go.Proofs.Ytfngmnhkhfgmjac
