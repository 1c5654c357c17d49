/-
 Rows of entries of a call's own: what lies in them, and what lies there behind a store, a copy, a clear.
 What comes of parts, each by its sign: what together of package fold answers, called in whatever memory, and the question that foldMember hands it.
 One member of a dim, at each place: what foldMember of package fold does to cells of its caller's own.
 Cells folded by a dim: what Once of package fold answers, called in whatever memory.
 Rows of entries with one put in, one put anew, one taken out: cell by cell.
 What is written at a place: what Get of package input answers, called in whatever memory.
 A place cloned: what slices.Clone answers, called in whatever memory: the same numbers in a block of ints of its own.
 An entry put into a row of entries of a call's own: what slices.Insert answers: in place where there is room, in a new row where there is none.
 An entry put into a row of entries of a call's own, in place: what slices.Insert answers where there is room.
 An entry put into a row of entries of a call's own, into a new row: what slices.Insert answers where there is no room; and all ways together.
 An entry taken out of a row of entries of a call's own: what slices.Delete answers.
 Entries made anew: what fresh of package input answers, called in whatever memory: a row of its own that holds the same.
 A number put among entries of a call's own: what set of package input answers.
 A place taken out of entries of a call's own: what without of package input answers.
 A number put, a place cleared: what Set and Clear of package input answer, called in whatever memory.
 What the document's Less, Find and Input answer, called in whatever memory.
 A dim that is folded once more changes nothing, on plain data; what tallysame.Cells answers of the same cells, called in whatever memory.
-/
import Derived.Test.YtjffbmejobjmjafGreatDoorJBBD
import Derived.Laws.CopyRow
import Derived.Laws.CopyOwn
import Derived.Laws.IdiomCopy
import Derived.Test.YtjffbmejobjmjafGreatDoorJBAN
import Derived.Deep.RegionLaw
import Derived.Deep.RegionHeld3
import Derived.Deep.DeepCutAuto
import Derived.Test.YtjffbmejobjmjafGreatDoorJBAU
import Derived.BigQuiet
import Derived.Deep.QuietTactic
import Derived.Test.YtjffbmejobjmjafGreatDoorJBBE
import Derived.Test.YtjffbmejobjmjafGreatDoorJBAK
import Derived.Lib.SliceRun
import Derived.OwnWalk
import Derived.Shelf.Spec.SlicesInsertGrow
import Derived.Laws.OwnMore
namespace Go.Proofs.YtjffbmejobjmjafGreatDoor
open Go Go.ChangeShapes Go.WideShapes Go.ChangeAt Go.RowKit
set_option maxRecDepth 20000

theorem grown_drew {w w' : World} {r : Option Nat} (h : w.grownBy w' r) : w.grownBy w'.drew r := ⟨h.os, h.tape, h.output, h.size, h.block⟩
theorem grown_refl (w : World) (r : Option Nat) : w.grownBy w r := ⟨rfl, rfl, rfl, Nat.le_refl _, fun _ _ _ => rfl⟩
section
variable {w w' : World} {g cap : Nat} {xs : List EnL}
end

variable {P : Program}
end Go.Proofs.YtjffbmejobjmjafGreatDoor

namespace Go.Proofs.YtjffbmejobjmjafGreatDoor
open Go.ChangeShapes Go.WideShapes Go.ChangeAt Go.RowKit
set_option maxRecDepth 20000

theorem pair_set {w : World} {q : Nat} {x y a b : Value} {T : Nat} (h : w.heap[q]? = some (.cells #[x, y] T)) : ((w.setCell ⟨q, 0, none⟩ a).setCell ⟨q, 1, none⟩ b).heap[q]? = some (.cells #[a, b] T) := by
 simp [World.setCell, Array.getElem?_modify, h]
theorem pair_grown {w w' : World} {q : Nat} {a b : Value} (h : w.grownBy w' (some q)) : w.grownBy ((w'.setCell ⟨q, 0, none⟩ a).setCell ⟨q, 1, none⟩ b) (some q) :=
 ⟨h.os, h.tape, h.output, by simpa [World.setCell] using h.size, fun i hi hr => (Below.heap_setCell _ ⟨q, 1, none⟩ b i fun e => hr (by rw [e])).trans ((Below.heap_setCell w' ⟨q, 0, none⟩ a i fun e => hr (by rw [e])).trans (h.block i hi hr))⟩
theorem grown_then {w w1 w2 : World} {r : Option Nat} (h : w.grownBy w1 r) (k : Below w1.heap.size w1 w2) : w.grownBy w2 r :=
 ⟨k.os.trans h.os, k.tape.trans h.tape, k.output.trans h.output, Nat.le_trans h.size k.size, fun i hi hr => (k.block i (Nat.lt_of_lt_of_le hi h.size)).trans (h.block i hi hr)⟩
theorem pair_at {w : World} {q : Nat} {x y : Value} {T : Nat} (h : w.heap[q]? = some (.cells #[x, y] T)) : w.cell? ⟨q, 0, none⟩ = some x ∧ w.cell? ⟨q, 1, none⟩ = some y ∧ w.frozen? ⟨q, 0, none⟩ = false ∧ w.frozen? ⟨q, 1, none⟩ = false :=
 ⟨by rw [Lib.cell_of_heap h]; rfl, by rw [Lib.cell_of_heap h]; rfl, Lib.frozen_of_heap h 0, Lib.frozen_of_heap h 1⟩
theorem take_part {M : Nat → Mem} {at' : Int → Int × Int} {P : List Int} {k : Nat} (h : k < P.length) : (P.take (k + 1)).foldl (partStep M at') (0, 0) = partStep M at' ((P.take k).foldl (partStep M at') (0, 0)) (P.getD k 0) := by
 rw [List.take_succ_eq_append_getElem h, List.foldl_append, List.getD_eq_getElem?_getD, List.getElem?_eq_getElem h]
 rfl

end Go.Proofs.YtjffbmejobjmjafGreatDoor

namespace Go.Proofs.YtjffbmejobjmjafGreatDoor
open Go.ChangeShapes Go.WideShapes Go.ChangeAt Go.RowKit
set_option maxRecDepth 20000

def BoxN (w : World) (q : Nat) (v : Value) : Prop := q < w.heap.size ∧ w.cell? ⟨q, 0, none⟩ = some v
theorem BoxN.same {w w' : World} {q : Nat} {v : Value} (h : BoxN w q v) (hz : w.heap.size ≤ w'.heap.size) (hb : w'.heap[q]? = w.heap[q]?) : BoxN w' q v :=
 ⟨Nat.lt_of_lt_of_le h.1 hz, (World.cell?_of_block (a := ⟨q, 0, none⟩) hb).trans h.2⟩
theorem BoxN.later {w w' : World} {q : Nat} {v : Value} (h : BoxN w q v) (hB : Below w.heap.size w w') : BoxN w' q v := h.same hB.size (hB.block q h.1)
theorem cel_grown {w w' : World} {g i j : Nat} {a b : Value} (h : w.grownBy w' (some g)) : w.grownBy ((w'.setCell ⟨g, i, none⟩ a).setCell ⟨g, j, none⟩ b) (some g) :=
 ⟨h.os, h.tape, h.output, by simpa [World.setCell] using h.size, fun k hk hr => (Below.heap_setCell _ ⟨g, j, none⟩ b k fun e => hr (by rw [e])).trans ((Below.heap_setCell w' ⟨g, i, none⟩ a k fun e => hr (by rw [e])).trans (h.block k hk hr))⟩
theorem boxn_other {w w' : World} {q g : Nat} {v : Value} (h : BoxN w q v) (hne : q ≠ g) (hG : w.grownBy w' (some g)) : BoxN w' q v := h.same hG.size (hG.block q h.1 fun e => hne (by simpa using e))
end Go.Proofs.YtjffbmejobjmjafGreatDoor

namespace Go.Proofs.YtjffbmejobjmjafGreatDoor
open Go.ChangeShapes Go.WideShapes Go.ChangeAt Go.RowKit
set_option maxRecDepth 20000

end Go.Proofs.YtjffbmejobjmjafGreatDoor

namespace Go.Proofs.YtjffbmejobjmjafGreatDoor
open Go Go.ChangeShapes Go.WideShapes Go.ChangeAt Go.RowKit
set_option maxRecDepth 20000

end Go.Proofs.YtjffbmejobjmjafGreatDoor

namespace Go.Proofs.YtjffbmejobjmjafGreatDoor
open Go.ChangeShapes Go.WideShapes Go.ChangeAt Go.RowKit
set_option maxRecDepth 20000

def ownOC (w : World) (A0 : Option Addr) (n cap : Nat) : World := (ownOut w A0 n cap 42).alloc (.cells #[.int .i64 0, .int .i64 0] 48)
theorem ownOC_size (w : World) (A0 : Option Addr) (n cap : Nat) : (ownOC w A0 n cap).heap.size = w.heap.size + 2 := by unfold ownOC; simp [ownOut_size]
theorem ownOC_below (w : World) (A0 : Option Addr) (n cap : Nat) : Below w.heap.size w (ownOC w A0 n cap) := by unfold ownOC ownOut; go_grown
theorem ownOC_o (w : World) (A0 : Option Addr) (n cap : Nat) : (ownOC w A0 n cap).cell? ⟨w.heap.size, 0, none⟩ = some (.slice A0 n cap) := by
 unfold ownOC
 rw [World.cell?_alloc_lt _ _ ⟨w.heap.size, 0, none⟩ (by simp [ownOut_size])]
 exact ownOut_at ..
theorem ownOC_b (w : World) (A0 : Option Addr) (n cap : Nat) : (ownOC w A0 n cap).heap[w.heap.size + 1]? = some (.cells #[.int .i64 0, .int .i64 0] 48) := by
 have h := heap_alloc_new (ownOut w A0 n cap 42) (.cells #[.int .i64 0, .int .i64 0] 48)
 rw [ownOut_size] at h
 exact h

end Go.Proofs.YtjffbmejobjmjafGreatDoor

namespace Go.Proofs.YtjffbmejobjmjafGreatDoor
open Go.ChangeShapes Go.WideShapes Go.ChangeAt Go.RowKit
set_option maxRecDepth 20000

end Go.Proofs.YtjffbmejobjmjafGreatDoor

namespace Go.Proofs.YtjffbmejobjmjafGreatDoor
open Go.ChangeShapes Go.WideShapes Go.ChangeAt Go.RowKit Go.Lib
set_option maxRecDepth 100000

end Go.Proofs.YtjffbmejobjmjafGreatDoor

namespace Go.Proofs.YtjffbmejobjmjafGreatDoor
open Go.ChangeShapes Go.WideShapes Go.ChangeAt Go.RowKit Go.Lib
set_option maxRecDepth 100000

end Go.Proofs.YtjffbmejobjmjafGreatDoor

namespace Go.Proofs.YtjffbmejobjmjafGreatDoor
open Go.ChangeShapes Go.WideShapes Go.ChangeAt Go.RowKit Go.Lib
set_option maxRecDepth 100000

end Go.Proofs.YtjffbmejobjmjafGreatDoor

namespace Go.Proofs.YtjffbmejobjmjafGreatDoor
open Go.ChangeShapes Go.WideShapes Go.ChangeAt Go.RowKit Go.Lib
set_option maxRecDepth 100000

end Go.Proofs.YtjffbmejobjmjafGreatDoor

namespace Go.Proofs.YtjffbmejobjmjafGreatDoor
open Go.ChangeShapes Go.WideShapes Go.ChangeAt Go.RowKit Go.Lib
set_option maxRecDepth 20000

end Go.Proofs.YtjffbmejobjmjafGreatDoor

namespace Go.Proofs.YtjffbmejobjmjafGreatDoor
open Go.ChangeShapes Go.WideShapes Go.ChangeAt Go.RowKit Go.Lib
set_option maxRecDepth 20000

end Go.Proofs.YtjffbmejobjmjafGreatDoor

namespace Go.Proofs.YtjffbmejobjmjafGreatDoor
open Go.ChangeShapes Go.WideShapes Go.ChangeAt Go.RowKit Go.Lib
set_option maxRecDepth 20000

end Go.Proofs.YtjffbmejobjmjafGreatDoor

namespace Go.Proofs.YtjffbmejobjmjafGreatDoor
open Go.ChangeShapes Go.WideShapes Go.ChangeAt Go.RowKit Go.Lib
set_option maxRecDepth 20000

end Go.Proofs.YtjffbmejobjmjafGreatDoor

namespace Go.Proofs.YtjffbmejobjmjafGreatDoor
open Go.ChangeShapes Go.WideShapes Go.ChangeAt Go.RowKit
set_option maxRecDepth 20000

end Go.Proofs.YtjffbmejobjmjafGreatDoor

namespace Go.Proofs.YtjffbmejobjmjafGreatDoor
open Go.ChangeShapes Go.WideShapes Go.ChangeAt Go.RowKit
set_option maxRecDepth 20000

theorem getD_set {L : List (Int × Int)} {x y : Nat} {c : Int × Int} (hx : x < L.length) : (L.set x c).getD y (0, 0) = if y = x then c else L.getD y (0, 0) := by
 by_cases e : y = x
 ·subst e; rw [if_pos rfl]; simp [List.getD, hx]
 ·rw [if_neg e]; simp [List.getD, List.getElem?_set_ne (fun h => e h.symm)]
theorem list_same {a b : List (Int × Int)} (hl : a.length = b.length) (h : ∀ y, y < a.length → a.getD y (0, 0) = b.getD y (0, 0)) : a = b := by
 apply List.ext_getElem hl
 intro y h1 h2
 have := h y h1
 simpa [List.getD, h1, h2] using this
section
variable {D : Nat → Dm} {n dim : Nat} (hp : ∀ i, i < n → 1 ≤ (D i).n) (hd : dim < n) (ht : Tr (D dim).mem (D dim).n)
include hp hd ht
def FixAt (D : Nat → Dm) (n dim m : Nat) (L : List (Int × Int)) : Prop := ∀ y, y < L.length → y / stepD D n dim % (D dim).n = m → partsOf (D dim).mem (D dim).n (m : Int) ≠ [] → L.getD y (0, 0) = partsV (D dim).mem (atP D n dim m y L) (partsOf (D dim).mem (D dim).n m)
end

end Go.Proofs.YtjffbmejobjmjafGreatDoor

