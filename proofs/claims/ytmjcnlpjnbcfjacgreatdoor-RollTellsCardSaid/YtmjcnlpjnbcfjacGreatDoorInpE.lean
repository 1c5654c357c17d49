/-
  What is written at a place: what Get of package input answers, called in whatever memory.
-/
import Derived.Test.YtmjcnlpjnbcfjacGreatDoorInpD
import Derived.Test.YtmjcnlpjnbcfjacGreatDoorCells1
namespace Go.Proofs.YtmjcnlpjnbcfjacGreatDoor
open Go.ChangeShapes Go.WideShapes Go.ChangeAt Go.RowKit
set_option maxRecDepth 20000

/-- what is wrong, asked for a place of entries -/
def getErr (D : Nat → Dm) (n : Nat) (l : List En) (p : List Int) : Int := if entsErr D n l ≠ 0 then entsErr D n l else placeErr D n p
def getV (D : Nat → Dm) (n : Nat) (l : List En) (p : List Int) : Int × Int := if getErr D n l p = 0 then getE l p else (0, 0)
theorem getErr_bad {D : Nat → Dm} {n : Nat} {l : List En} (p : List Int) (h : entsErr D n l ≠ 0) : getErr D n l p = entsErr D n l := by unfold getErr; rw [if_pos h]
theorem getErr_in {D : Nat → Dm} {n : Nat} {l : List En} (p : List Int) (h : entsErr D n l = 0) : getErr D n l p = placeErr D n p := by unfold getErr; rw [if_neg (by simpa using h)]
theorem getV_bad {D : Nat → Dm} {n : Nat} {l : List En} {p : List Int} (h : getErr D n l p ≠ 0) : getV D n l p = (0, 0) := by unfold getV; rw [if_neg h]
theorem getV_in {D : Nat → Dm} {n : Nat} {l : List En} {p : List Int} (h : getErr D n l p = 0) : getV D n l p = getE l p := by unfold getV; rw [if_pos h]
theorem short_of {D : Nat → Dm} {n : Nat} {xs : List EnL} {p : List Int} (hE : Ens D n (lE xs)) (hp : InO D n p) : Short xs p := by
  refine ⟨fun k hk => ?_, inO_short hp⟩
  have h1 : (xs.getD k noL).e ∈ lE xs := List.mem_map.2 ⟨_, enl_mem hk, rfl⟩
  exact inO_short (hE.each _ h1).1
theorem few_of {D : Nat → Dm} {n : Nat} {xs : List EnL} (hE : Ens D n (lE xs)) : xs.length ≤ 3000 := by have := hE.few; rw [lE_len] at this; exact this
theorem num_at {D : Nat → Dm} {n : Nat} {xs : List EnL} (hE : Ens D n (lE xs)) {k : Nat} (hk : k < xs.length) : -1000000 ≤ (xs.getD k noL).e.n ∧ (xs.getD k noL).e.n ≤ 1000000 := by
  have h1 : (xs.getD k noL).e ∈ lE xs := List.mem_map.2 ⟨_, enl_mem hk, rfl⟩
  have h2 := (hE.each _ h1).2.2
  simpa [numOk] using h2

/-- a world with an outline's block, and one for a cell -/
def ownOC (w : World) (A0 : Option Addr) (n cap : Nat) : World := (ownOut w A0 n cap 24).alloc (.cells #[.int .i64 0, .int .i64 0] 31)
theorem ownOC_size (w : World) (A0 : Option Addr) (n cap : Nat) : (ownOC w A0 n cap).heap.size = w.heap.size + 2 := by unfold ownOC; simp [ownOut_size]
theorem ownOC_below (w : World) (A0 : Option Addr) (n cap : Nat) : Below w.heap.size w (ownOC w A0 n cap) := by unfold ownOC ownOut; go_grown
theorem ownOC_o (w : World) (A0 : Option Addr) (n cap : Nat) : (ownOC w A0 n cap).cell? ⟨w.heap.size, 0, none⟩ = some (.slice A0 n cap) := by
  unfold ownOC
  rw [World.cell?_alloc_lt _ _ ⟨w.heap.size, 0, none⟩ (by simp [ownOut_size])]
  exact ownOut_at ..
theorem ownOC_b (w : World) (A0 : Option Addr) (n cap : Nat) : (ownOC w A0 n cap).heap[w.heap.size + 1]? = some (.cells #[.int .i64 0, .int .i64 0] 31) := by
  have h := heap_alloc_new (ownOut w A0 n cap 24) (.cells #[.int .i64 0, .int .i64 0] 31)
  rw [ownOut_size] at h
  exact h

end Go.Proofs.YtmjcnlpjnbcfjacGreatDoor
