/-
  Memory in which some blocks were laid one behind the other; the small outline, the entries and the place that tallylaw1.RollAdds lays first, and what comes of them.
-/
import Derived.Test.YtfngmnhkhfgmjadRows4
import Derived.Test.YtfngmnhkhfgmjadInpN
namespace Go.Proofs.Ytfngmnhkhfgmjad
open Go.ChangeShapes Go.WideShapes Go.ChangeAt Go.RowKit
set_option maxRecDepth 20000

def allocs (w : World) : List Obj → World
  | [] => w
  | o :: r => allocs (w.alloc o) r
theorem allocs_size (w : World) (os : List Obj) : (allocs w os).heap.size = w.heap.size + os.length := by
  induction os generalizing w with
  | nil => rfl
  | cons o r ih => rw [allocs, ih, List.length_cons]; simp; omega
theorem allocs_below (w : World) (os : List Obj) : Below w.heap.size w (allocs w os) := by
  induction os generalizing w with
  | nil => exact Below.refl _ _
  | cons o r ih => exact onB (by go_grown) (ih (w.alloc o))
theorem allocs_heap (w : World) (os : List Obj) (i : Nat) (h : i < os.length) : (allocs w os).heap[w.heap.size + i]? = os[i]? := by
  induction os generalizing w i with
  | nil => cases h
  | cons o r ih =>
    have hz : (w.alloc o).heap.size = w.heap.size + 1 := by simp
    cases i with
    | zero =>
      rw [allocs, (allocs_below (w.alloc o) r).block _ (by rw [hz]; omega), Nat.add_zero, heap_alloc_new]
      rfl
    | succ i =>
      rw [allocs, show w.heap.size + (i + 1) = (w.alloc o).heap.size + i by rw [hz]; omega, ih (w.alloc o) i (by simpa using h)]
      rfl
theorem allocs_cell {w : World} {os : List Obj} (i j : Nat) {cs : Array Value} {T : Nat} (h : os[i]? = some (.cells cs T (0, 0))) : (allocs w os).cell? ⟨w.heap.size + i, j, none⟩ = cs[j]? :=
  Lib.cell_of_heap ((allocs_heap w os i (List.getElem?_eq_some_iff.1 h).1).trans h) j

def raM : Nat → Mem
  | 0 => ⟨⟨#[98]⟩, -1, 0, ⟨#[]⟩⟩
  | 1 => ⟨⟨#[99]⟩, 0, 1, ⟨#[]⟩⟩
  | _ => ⟨⟨#[100]⟩, 0, -1, ⟨#[]⟩⟩
def raD (_ : Nat) : Dm := ⟨⟨#[97]⟩, 0, 3, raM⟩
theorem ra_ok : rvErr raD 1 [⟨[1], 7⟩, ⟨[2], 3⟩] [0] = 0 := by decide +kernel
theorem ra_val : rvV raD 1 [⟨[1], 7⟩, ⟨[2], 3⟩] [0] = (1, 4) := by decide +kernel

def raO (z : Nat) (A0 : Option Addr) (n cap : Nat) : List Obj := [.cells #[.slice A0 n cap] 24,
  .cells #[.string ⟨#[98]⟩, .int .i64 (-1), .int .i64 0, .string ⟨#[]⟩, .string ⟨#[99]⟩, .int .i64 0, .int .i64 1, .string ⟨#[]⟩, .string ⟨#[100]⟩, .int .i64 0, .int .i64 (-1), .string ⟨#[]⟩] 29,
  .cells #[.string ⟨#[97]⟩, .int .i64 0, .slice (some ⟨z + 1, 0, none⟩) 3 3] 32,
  .cells #[.slice (some ⟨z + 2, 0, none⟩) 1 1] 24,
  .cells #[.int .i64 1] 3, .cells #[.int .i64 2] 3,
  .cells #[.slice (some ⟨z + 4, 0, none⟩) 1 1, .int .i64 7, .slice (some ⟨z + 5, 0, none⟩) 1 1, .int .i64 3] 40,
  .cells #[.int .i64 0] 3]
def raW (w : World) (A0 : Option Addr) (n cap : Nat) : World := allocs w (raO w.heap.size A0 n cap)
theorem raW_size (w : World) (A0 : Option Addr) (n cap : Nat) : (raW w A0 n cap).heap.size = w.heap.size + 8 := allocs_size _ _
theorem raW_below (w : World) (A0 : Option Addr) (n cap : Nat) : Below w.heap.size w (raW w A0 n cap) := allocs_below _ _
theorem raW_at (w : World) (A0 : Option Addr) (n cap : Nat) : (raW w A0 n cap).cell? ⟨w.heap.size, 0, none⟩ = some (.slice A0 n cap) := (allocs_cell 0 0 (os := raO w.heap.size A0 n cap) rfl).trans rfl
theorem raW_dims (w : World) (A0 : Option Addr) (n cap : Nat) : DimsV (raW w A0 n cap) (some ⟨w.heap.size + 2, 0, none⟩) 1 1 raD (fun _ => some ⟨w.heap.size + 1, 0, none⟩) (fun _ => 3) := by
  refine ⟨Nat.le_refl _, Or.inr ⟨_, _, rfl, by rw [raW_size]; omega, fun i hi => ?_⟩⟩
  have hi' : i = 0 := by omega
  subst hi'
  refine ⟨(allocs_cell 2 0 (os := raO w.heap.size A0 n cap) rfl).trans rfl, (allocs_cell 2 1 (os := raO w.heap.size A0 n cap) rfl).trans rfl, (allocs_cell 2 2 (os := raO w.heap.size A0 n cap) rfl).trans rfl, Nat.le_refl _, Or.inr ⟨_, _, rfl, by rw [raW_size]; omega, fun i hi => ?_⟩⟩
  have hi' : i = 0 ∨ i = 1 ∨ i = 2 := by have : i < 3 := hi; omega
  rcases hi' with rfl | rfl | rfl
  · exact ⟨(allocs_cell 1 0 (os := raO w.heap.size A0 n cap) rfl).trans rfl, (allocs_cell 1 1 (os := raO w.heap.size A0 n cap) rfl).trans rfl, (allocs_cell 1 2 (os := raO w.heap.size A0 n cap) rfl).trans rfl, (allocs_cell 1 3 (os := raO w.heap.size A0 n cap) rfl).trans rfl⟩
  · exact ⟨(allocs_cell 1 4 (os := raO w.heap.size A0 n cap) rfl).trans rfl, (allocs_cell 1 5 (os := raO w.heap.size A0 n cap) rfl).trans rfl, (allocs_cell 1 6 (os := raO w.heap.size A0 n cap) rfl).trans rfl, (allocs_cell 1 7 (os := raO w.heap.size A0 n cap) rfl).trans rfl⟩
  · exact ⟨(allocs_cell 1 8 (os := raO w.heap.size A0 n cap) rfl).trans rfl, (allocs_cell 1 9 (os := raO w.heap.size A0 n cap) rfl).trans rfl, (allocs_cell 1 10 (os := raO w.heap.size A0 n cap) rfl).trans rfl, (allocs_cell 1 11 (os := raO w.heap.size A0 n cap) rfl).trans rfl⟩
theorem raW_one (w : World) (A0 : Option Addr) (n cap : Nat) (i : Nat) (x : Int) (h : (raO w.heap.size A0 n cap)[i]? = some (.cells #[.int .i64 x] 3 (0, 0))) : PlAt (raW w A0 n cap) (some ⟨w.heap.size + i, 0, none⟩) 1 [x] := by
  have hi := (List.getElem?_eq_some_iff.1 h).1
  refine ⟨by simp, Or.inr ⟨_, _, rfl, by rw [raW_size]; have : i < 8 := hi; omega, fun j hj => ?_⟩⟩
  have hj' : j = 0 := by simp at hj; exact hj
  subst hj'
  exact (allocs_cell i 0 h).trans rfl
def raX (z : Nat) : List EnL := [⟨⟨[1], 7⟩, some ⟨z + 4, 0, none⟩, 1⟩, ⟨⟨[2], 3⟩, some ⟨z + 5, 0, none⟩, 1⟩]
theorem raW_ens (w : World) (A0 : Option Addr) (n cap : Nat) : EnsV (raW w A0 n cap) (some ⟨w.heap.size + 6, 0, none⟩) 2 (raX w.heap.size) := by
  refine ⟨Nat.le_refl _, by decide, Or.inr ⟨_, _, rfl, by rw [raW_size]; omega, fun j u hj => ?_, fun x hx => ?_⟩⟩
  · rw [Nat.zero_add]
    refine (allocs_cell 6 j (os := raO w.heap.size A0 n cap) rfl).trans ?_
    rw [← hj]
    simp [raX, cellsE]
  · simp only [raX, List.mem_cons, List.not_mem_nil, or_false] at hx
    rcases hx with rfl | rfl
    · exact raW_one w A0 n cap 4 1 rfl
    · exact raW_one w A0 n cap 5 2 rfl
end Go.Proofs.Ytfngmnhkhfgmjad
