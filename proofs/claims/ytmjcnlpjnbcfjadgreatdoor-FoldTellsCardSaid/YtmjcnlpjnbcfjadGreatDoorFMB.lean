/-
  Rows of entries with one put in, one put anew, one taken out: cell by cell.
  What is written at a place: what Get of package input answers, called in whatever memory.
  A place cloned: what slices.Clone answers, called in whatever memory: the same numbers in a block of ints of its own.
  An entry put into a row of entries of a call's own: what slices.Insert answers: in place where there is room, in a new row where there is none.
  An entry put into a row of entries of a call's own, in place: what slices.Insert answers where there is room.
  An entry put into a row of entries of a call's own, into a new row: what slices.Insert answers where there is no room; and all ways together.
  An entry taken out of a row of entries of a call's own: what slices.Delete answers.
  Entries made anew: what fresh of package input answers, called in whatever memory: a row of its own that holds the same.
  A number put among entries of a call's own: what set of package input answers.
  A place taken out of entries of a call's own: what without of package input answers.
  A number put, a place cleared: what Set and Clear of package input answer, called in whatever memory.
  What the document's Less, Find and Input answer, called in whatever memory.
  What the document's Entries and Input answer, called in whatever memory.
-/
import Derived.Test.YtmjcnlpjnbcfjadGreatDoorOwn1
import Derived.Test.YtmjcnlpjnbcfjadGreatDoorInpD
import Derived.Test.YtmjcnlpjnbcfjadGreatDoorCells1
import Derived.Lib.SliceRun
import Derived.OwnWalk
import Derived.Shelf.Spec.SlicesInsertGrow
import Derived.Deep.RegionLaw
import Derived.Laws.OwnMore
import Derived.Test.YtmjcnlpjnbcfjadGreatDoorFMT
namespace Go.Proofs.YtmjcnlpjnbcfjadGreatDoor
open Go Go.ChangeShapes Go.WideShapes Go.ChangeAt Go.RowKit
set_option maxRecDepth 20000

theorem take_join {α : Type} {a b : List α} {k : Nat} (h : a.length = k) : (a ++ b).take k = a := by subst h; simp
theorem drop_join {α : Type} {a b : List α} {k : Nat} (h : a.length = k) : (a ++ b).drop k = b := by subst h; simp
theorem head_cells {C : List Value} {xs : List EnL} (hC : C.take (xs.length * 2) = cellsE xs) {i : Nat} (hi : i ≤ xs.length) : C.take (i * 2) = cellsE (xs.take i) := by
  rw [← cellsE_take, ← hC, List.take_take, Nat.min_eq_left (by omega)]

/-- moved up by one, and one put in -/
theorem ins_cells {C C1 C2 : List Value} {xs : List EnL} {x : EnL} {i : Nat} (hC : C.take (xs.length * 2) = cellsE xs) (hlen : (xs.length + 1) * 2 ≤ C.length) (hi : i ≤ xs.length)
    (h1 : C1 = C.take ((i + 1) * 2) ++ cellsE (xs.drop i) ++ C.drop ((i + 1) * 2 + (cellsE (xs.drop i)).length)) (h2 : C2 = C1.take (i * 2) ++ cellsE [x] ++ C1.drop (i * 2 + (cellsE [x]).length)) :
    C2.length = C.length ∧ C2.take ((xs.take i ++ x :: xs.drop i).length * 2) = cellsE (xs.take i ++ x :: xs.drop i) := by
  have hd : (cellsE (xs.drop i)).length = (xs.length - i) * 2 := by rw [cellsE_len, List.length_drop]
  have hx : (cellsE [x]).length = 2 := by rw [cellsE_len]; rfl
  have e1 : C1.take (i * 2) = cellsE (xs.take i) := by
    rw [h1, List.append_assoc, List.take_append_of_le_length (by rw [List.length_take]; omega), List.take_take, Nat.min_eq_left (by omega)]
    exact head_cells hC hi
  have e2 : C1.drop (i * 2 + (cellsE [x]).length) = cellsE (xs.drop i) ++ C.drop ((i + 1) * 2 + (cellsE (xs.drop i)).length) := by
    rw [h1, List.append_assoc, hx]
    exact drop_join (by rw [List.length_take]; omega)
  rw [h2, e1, e2]
  refine ⟨?_, ?_⟩
  · simp only [List.length_append, cellsE_len, List.length_take, List.length_drop, List.length_cons, List.length_nil]
    omega
  · have hl : (xs.take i ++ x :: xs.drop i).length = xs.length + 1 := by simp; omega
    rw [hl, ← List.append_assoc]
    rw [show cellsE (xs.take i ++ x :: xs.drop i) = cellsE (xs.take i) ++ cellsE [x] ++ cellsE (xs.drop i) by rw [show x :: xs.drop i = [x] ++ xs.drop i from rfl, cellsE_append, cellsE_append, List.append_assoc]]
    exact take_join (by simp only [List.length_append, cellsE_len, List.length_take, List.length_drop, List.length_cons, List.length_nil]; omega)
/-- one put in on the way into a new row -/
theorem grow_cells {C C1 C2 : List Value} {xs : List EnL} {x : EnL} {i : Nat} (hC : C.take (i * 2) = cellsE (xs.take i)) (hlen : (xs.length + 1) * 2 ≤ C.length) (hi : i ≤ xs.length)
    (h1 : C1 = C.take (i * 2) ++ cellsE [x] ++ C.drop (i * 2 + (cellsE [x]).length)) (h2 : C2 = C1.take ((i + 1) * 2) ++ cellsE (xs.drop i) ++ C1.drop ((i + 1) * 2 + (cellsE (xs.drop i)).length)) :
    C2.length = C.length ∧ C2.take ((xs.take i ++ x :: xs.drop i).length * 2) = cellsE (xs.take i ++ x :: xs.drop i) := by
  have hd : (cellsE (xs.drop i)).length = (xs.length - i) * 2 := by rw [cellsE_len, List.length_drop]
  have hx : (cellsE [x]).length = 2 := by rw [cellsE_len]; rfl
  have hc1 : C1.length = C.length := by
    rw [h1, hC]
    simp only [List.length_append, cellsE_len, List.length_take, List.length_drop, List.length_cons, List.length_nil]
    omega
  have e1 : C1.take ((i + 1) * 2) = cellsE (xs.take i) ++ cellsE [x] := by
    rw [h1, hC]
    exact take_join (by simp only [List.length_append, cellsE_len, List.length_take, List.length_cons, List.length_nil]; omega)
  rw [h2, e1]
  refine ⟨?_, ?_⟩
  · simp only [List.length_append, cellsE_len, List.length_take, List.length_drop, List.length_cons, List.length_nil, hc1]
    omega
  · have hl : (xs.take i ++ x :: xs.drop i).length = xs.length + 1 := by simp; omega
    rw [hl]
    rw [show cellsE (xs.take i ++ x :: xs.drop i) = cellsE (xs.take i) ++ cellsE [x] ++ cellsE (xs.drop i) by rw [show x :: xs.drop i = [x] ++ xs.drop i from rfl, cellsE_append, cellsE_append, List.append_assoc]]
    exact take_join (by simp only [List.length_append, cellsE_len, List.length_take, List.length_drop, List.length_cons, List.length_nil]; omega)
/-- moved down by one, the last cleared -/
theorem del_cells {C C1 C2 : List Value} {xs : List EnL} {z0 z1 : Value} {i : Nat} (hC : C.take (xs.length * 2) = cellsE xs) (hlen : xs.length * 2 ≤ C.length) (hi : i < xs.length)
    (h1 : C1 = C.take (i * 2) ++ cellsE (xs.drop (i + 1)) ++ C.drop (i * 2 + (cellsE (xs.drop (i + 1))).length)) (h2 : C2 = C1.take ((xs.length - 1) * 2) ++ [z0, z1] ++ C1.drop ((xs.length - 1) * 2 + 2)) :
    C2.length = C.length ∧ C2.take ((xs.take i ++ xs.drop (i + 1)).length * 2) = cellsE (xs.take i ++ xs.drop (i + 1)) := by
  have hd : (cellsE (xs.drop (i + 1))).length = (xs.length - (i + 1)) * 2 := by rw [cellsE_len, List.length_drop]
  have hc1 : C1.length = C.length := by
    rw [h1]
    simp only [List.length_append, cellsE_len, List.length_take, List.length_drop]
    omega
  have e1 : C1.take ((xs.length - 1) * 2) = cellsE (xs.take i) ++ cellsE (xs.drop (i + 1)) := by
    rw [h1, head_cells hC (by omega)]
    exact take_join (by simp only [List.length_append, cellsE_len, List.length_take, List.length_drop]; omega)
  have hl : (xs.take i ++ xs.drop (i + 1)).length = xs.length - 1 := by simp; omega
  rw [h2, hl, cellsE_append, e1]
  refine ⟨?_, ?_⟩
  · simp only [List.length_append, cellsE_len, List.length_take, List.length_drop, List.length_cons, List.length_nil, hc1]
    omega
  · rw [List.append_assoc _ _ (C1.drop _)]
    exact take_join (by simp only [List.length_append, cellsE_len, List.length_take, List.length_drop]; omega)
theorem cellsE_set {xs : List EnL} : ∀ {i : Nat} (n : Int), i < xs.length → (cellsE xs).set (i * 2 + 1) (.int .i64 n) = cellsE (xs.set i ⟨⟨(xs.getD i noL).e.pl, n⟩, (xs.getD i noL).A, (xs.getD i noL).c⟩) := by
  induction xs with
  | nil => intro i n h; cases h
  | cons x r ih =>
    intro i n h
    cases i with
    | zero => simp [cellsE]
    | succ i =>
      rw [show (i + 1) * 2 + 1 = (i * 2 + 1) + 1 + 1 by omega]
      simp only [cellsE, List.set_cons_succ, List.getD_cons_succ]
      rw [ih n (by simpa using h)]
/-- a number put anew -/
theorem RowE.setN {w : World} {g cap : Nat} {xs : List EnL} (h : RowE w g cap xs) {i : Nat} (hi : i < xs.length) (n : Int) : RowE (w.setCell ⟨g, i * 2 + 1, none⟩ (.int .i64 n)) g cap (xs.set i ⟨⟨(xs.getD i noL).e.pl, n⟩, (xs.getD i noL).A, (xs.getD i noL).c⟩) ∧ w.grownBy (w.setCell ⟨g, i * 2 + 1, none⟩ (.int .i64 n)) (some g) := by
  obtain ⟨⟨cur, h1, h2, h3⟩, h4, h5, h6⟩ := h
  rw [setCell_eq_setRow w g (i * 2 + 1) cur _ (0, 0) _ h1]
  refine ⟨?_, grown_setRow ..⟩
  refine ⟨⟨_, setRow_heap w g cur _ _ _ h1, by simpa using h2, ?_⟩, by simpa using h4, h5, fun y hy => ?_⟩
  · rw [Array.toList_setIfInBounds, List.length_set, ← cellsE_set n hi, ← h3, List.take_set]
  · refine PlTy.grown (g := g) ?_ h1 (grown_setRow ..)
    rcases List.mem_or_eq_of_mem_set hy with hy | rfl
    · exact h6 y hy
    · exact h6 (xs.getD i noL) (enl_mem hi)
theorem lE_append (a b : List EnL) : lE (a ++ b) = lE a ++ lE b := by simp [lE]
theorem lE_take (a : List EnL) (k : Nat) : lE (a.take k) = (lE a).take k := by simp [lE]
theorem lE_drop (a : List EnL) (k : Nat) : lE (a.drop k) = (lE a).drop k := by simp [lE]
theorem lE_ins (xs : List EnL) (x : EnL) (i : Nat) : lE (xs.take i ++ x :: xs.drop i) = (lE xs).take i ++ x.e :: (lE xs).drop i := by simp [lE]
/-- put in where nothing stood -/
theorem set_new {l : List En} {p : List Int} (h : hasE l p = false) (n : Int) : setL l p n = l.take (cntE l p) ++ ⟨p, n⟩ :: l.drop (cntE l p) := by unfold setL; rw [h]; rfl
/-- put anew where something stood -/
theorem set_old {l : List En} {p : List Int} (h : hasE l p = true) (n : Int) : setL l p n = l.set (cntE l p) ⟨(l.getD (cntE l p) noEn).pl, n⟩ ∧ cntE l p < l.length ∧ (l.getD (cntE l p) noEn).pl = p := by
  have hi : cntE l p < l.length := by
    rcases Nat.lt_or_ge (cntE l p) l.length with h1 | h1
    · exact h1
    · rw [(has_out rfl h1).1] at h; cases h
  have h2 := has_cmp rfl hi
  rw [h] at h2
  have h3 : (l.getD (cntE l p) noEn).pl = p := by
    rcases cmpL_three (l.getD (cntE l p) noEn).pl p with ⟨e1, _⟩ | ⟨_, _, e3⟩ | ⟨e1, _⟩
    · rw [e1] at h2; cases h2
    · exact e3
    · rw [e1] at h2; cases h2
  refine ⟨?_, hi, h3⟩
  unfold setL
  rw [h, h3, if_pos rfl, List.set_eq_take_append_cons_drop, if_pos hi]
theorem lE_set (xs : List EnL) (i : Nat) (y : EnL) : lE (xs.set i y) = (lE xs).set i y.e := by simp [lE, List.map_set]
end Go.Proofs.YtmjcnlpjnbcfjadGreatDoor

namespace Go.Proofs.YtmjcnlpjnbcfjadGreatDoor
open Go.ChangeShapes Go.WideShapes Go.ChangeAt Go.RowKit
set_option maxRecDepth 20000

/-- what is wrong, asked for a place of entries -/
def getErr (D : Nat → Dm) (n : Nat) (l : List En) (p : List Int) : Int := if entsErr D n l ≠ 0 then entsErr D n l else placeErr D n p
def getV (D : Nat → Dm) (n : Nat) (l : List En) (p : List Int) : Int × Int := if getErr D n l p = 0 then getE l p else (0, 0)
theorem getErr_bad {D : Nat → Dm} {n : Nat} {l : List En} (p : List Int) (h : entsErr D n l ≠ 0) : getErr D n l p = entsErr D n l := by unfold getErr; rw [if_pos h]
theorem getErr_in {D : Nat → Dm} {n : Nat} {l : List En} (p : List Int) (h : entsErr D n l = 0) : getErr D n l p = placeErr D n p := by unfold getErr; rw [if_neg (by simpa using h)]
theorem getV_bad {D : Nat → Dm} {n : Nat} {l : List En} {p : List Int} (h : getErr D n l p ≠ 0) : getV D n l p = (0, 0) := by unfold getV; rw [if_neg h]
theorem getV_in {D : Nat → Dm} {n : Nat} {l : List En} {p : List Int} (h : getErr D n l p = 0) : getV D n l p = getE l p := by unfold getV; rw [if_pos h]
theorem short_of {D : Nat → Dm} {n : Nat} {xs : List EnL} {p : List Int} (hE : Ens D n (lE xs)) (hp : InO D n p) : Short xs p := by
  refine ⟨fun k hk => ?_, inO_short hp⟩
  have h1 : (xs.getD k noL).e ∈ lE xs := List.mem_map.2 ⟨_, enl_mem hk, rfl⟩
  exact inO_short (hE.each _ h1).1
theorem few_of {D : Nat → Dm} {n : Nat} {xs : List EnL} (hE : Ens D n (lE xs)) : xs.length ≤ 3000 := by have := hE.few; rw [lE_len] at this; exact this
theorem num_at {D : Nat → Dm} {n : Nat} {xs : List EnL} (hE : Ens D n (lE xs)) {k : Nat} (hk : k < xs.length) : -1000000 ≤ (xs.getD k noL).e.n ∧ (xs.getD k noL).e.n ≤ 1000000 := by
  have h1 : (xs.getD k noL).e ∈ lE xs := List.mem_map.2 ⟨_, enl_mem hk, rfl⟩
  have h2 := (hE.each _ h1).2.2
  simpa [numOk] using h2

/-- a world with an outline's block, and one for a cell -/
def ownOC (w : World) (A0 : Option Addr) (n cap : Nat) : World := (ownOut w A0 n cap 24).alloc (.cells #[.int .i64 0, .int .i64 0] 42)
theorem ownOC_size (w : World) (A0 : Option Addr) (n cap : Nat) : (ownOC w A0 n cap).heap.size = w.heap.size + 2 := by unfold ownOC; simp [ownOut_size]
theorem ownOC_below (w : World) (A0 : Option Addr) (n cap : Nat) : Below w.heap.size w (ownOC w A0 n cap) := by unfold ownOC ownOut; go_grown
theorem ownOC_o (w : World) (A0 : Option Addr) (n cap : Nat) : (ownOC w A0 n cap).cell? ⟨w.heap.size, 0, none⟩ = some (.slice A0 n cap) := by
  unfold ownOC
  rw [World.cell?_alloc_lt _ _ ⟨w.heap.size, 0, none⟩ (by simp [ownOut_size])]
  exact ownOut_at ..
theorem ownOC_b (w : World) (A0 : Option Addr) (n cap : Nat) : (ownOC w A0 n cap).heap[w.heap.size + 1]? = some (.cells #[.int .i64 0, .int .i64 0] 42) := by
  have h := heap_alloc_new (ownOut w A0 n cap 24) (.cells #[.int .i64 0, .int .i64 0] 42)
  rw [ownOut_size] at h
  exact h

end Go.Proofs.YtmjcnlpjnbcfjadGreatDoor

namespace Go.Proofs.YtmjcnlpjnbcfjadGreatDoor
open Go.ChangeShapes Go.WideShapes Go.ChangeAt Go.RowKit
set_option maxRecDepth 20000

end Go.Proofs.YtmjcnlpjnbcfjadGreatDoor

namespace Go.Proofs.YtmjcnlpjnbcfjadGreatDoor
open Go.ChangeShapes Go.WideShapes Go.ChangeAt Go.RowKit Go.Lib
set_option maxRecDepth 100000

theorem Tryz.infoEnt : (Tryz.prog.info? 48).map (fun i => (i.zero, i.size, i.bytes)) = some (some (.agg #[.slice none 0 0, .int .i64 0]), 2, 32) := by kernel_rfl
/-- the block of an entry that is handed on -/
def OneE (w : World) (vb : Nat) (x : EnL) : Prop := w.heap[vb]? = some (.cells #[.slice x.A x.e.pl.length x.c, .int .i64 x.e.n] 48 (0, 0))
theorem OneE.cells {w : World} {vb : Nat} {x : EnL} (h : OneE w vb x) : ∀ j u, (cellsE [x])[j]? = some u → w.cell? ⟨vb, j, none⟩ = some u := by
  intro j u hj
  rw [Lib.cell_of_heap h]
  simpa [cellsE] using hj
/-- what an insert leaves -/
def Inserted (w : World) (g i : Nat) (xs : List EnL) (x : EnL) (e : Ending) (w' : World) : Prop := ∃ g' cap', e = .returned (.slice (some ⟨g', 0, none⟩) (xs.length + 1) cap') ∧ RowE w' g' cap' (xs.take i ++ x :: xs.drop i) ∧ g ≤ g' ∧ w.grownBy w' (some g)

end Go.Proofs.YtmjcnlpjnbcfjadGreatDoor

namespace Go.Proofs.YtmjcnlpjnbcfjadGreatDoor
open Go.ChangeShapes Go.WideShapes Go.ChangeAt Go.RowKit Go.Lib
set_option maxRecDepth 100000

end Go.Proofs.YtmjcnlpjnbcfjadGreatDoor

namespace Go.Proofs.YtmjcnlpjnbcfjadGreatDoor
open Go.ChangeShapes Go.WideShapes Go.ChangeAt Go.RowKit Go.Lib
set_option maxRecDepth 100000

theorem zero_size (k : Nat) : (Builtin.zeroCells (Value.agg #[.slice none 0 0, .int .i64 0]).cells k).size = k * 2 := by
  simp [Builtin.zeroCells, Value.cells]

end Go.Proofs.YtmjcnlpjnbcfjadGreatDoor

namespace Go.Proofs.YtmjcnlpjnbcfjadGreatDoor
open Go.ChangeShapes Go.WideShapes Go.ChangeAt Go.RowKit Go.Lib
set_option maxRecDepth 100000

end Go.Proofs.YtmjcnlpjnbcfjadGreatDoor

namespace Go.Proofs.YtmjcnlpjnbcfjadGreatDoor
open Go.ChangeShapes Go.WideShapes Go.ChangeAt Go.RowKit Go.Lib
set_option maxRecDepth 20000

/-- one more put behind those that lie there -/
theorem RowE.put {w : World} {g cap : Nat} {zs : List EnL} (h : RowE w g cap zs) (hk : zs.length < cap) {x : EnL} (hx : PlTy w x.A x.c x.e.pl) : RowE ((w.setCell ⟨g, zs.length * 2, none⟩ (.slice x.A x.e.pl.length x.c)).setCell ⟨g, zs.length * 2 + 1, none⟩ (.int .i64 x.e.n)) g cap (zs ++ [x]) ∧ w.grownBy ((w.setCell ⟨g, zs.length * 2, none⟩ (.slice x.A x.e.pl.length x.c)).setCell ⟨g, zs.length * 2 + 1, none⟩ (.int .i64 x.e.n)) (some g) := by
  obtain ⟨⟨cur, h1, h2, h3⟩, h4, h5, h6⟩ := id h
  have e : (w.setCell ⟨g, zs.length * 2, none⟩ (.slice x.A x.e.pl.length x.c)).setCell ⟨g, zs.length * 2 + 1, none⟩ (.int .i64 x.e.n) = w.setCells g (zs.length * 2) (cellsE [x]) := rfl
  have hx2 : (cellsE [x]).length = 2 := by rw [cellsE_len]; rfl
  have hl : cur.toList.length = cap * 2 := by simpa using h2
  rw [e, setCells_row g 48 (cellsE [x]) (zs.length * 2) cur w h1 (by rw [hx2]; omega)]
  refine ⟨h.lay ?_ ?_ (by simp; omega) fun y hy => ?_, grown_setRow ..⟩
  · simp only [List.length_append, List.length_take, List.length_drop, hx2, hl]
    omega
  · rw [cellsE_append, h3]
    exact take_join (by simp only [List.length_append, cellsE_len, List.length_cons, List.length_nil]; omega)
  · rcases List.mem_append.1 hy with hy | hy
    · exact h6 y hy
    · rw [List.mem_singleton.1 hy]; exact hx
theorem grown_set {w w' : World} {g : Nat} (h : w.grownBy w' (some g)) (o : Nat) (v : Value) : w.grownBy (w'.setCell ⟨g, o, none⟩ v) (some g) :=
  ⟨h.os, h.tape, h.output, by simpa using h.size, fun i hi hr => (Below.heap_setCell w' ⟨g, o, none⟩ v i fun e => hr (by rw [e])).trans (h.block i hi hr)⟩
theorem grown_new {w w' : World} {r : Option Nat} (h : w.grownBy w' r) (o : Obj) : w.grownBy (w'.alloc o) r :=
  ⟨h.os, h.tape, h.output, by have := h.size; simp; omega, fun i hi hr => (Below.heap_alloc w' o i (Nat.lt_of_lt_of_le hi h.size)).trans (h.block i hi hr)⟩
theorem keepG {W w' : World} {g q : Nat} {u v : Value} (h : q < W.heap.size ∧ q ≠ g ∧ W.cell? ⟨q, 0, none⟩ = some u ∧ W.cell? ⟨q, 1, none⟩ = some v) (hG : W.grownBy w' (some g)) : W.grownBy w' (some g) ∧ w'.cell? ⟨q, 0, none⟩ = some u ∧ w'.cell? ⟨q, 1, none⟩ = some v := by
  have hb : w'.heap[q]? = W.heap[q]? := hG.block q h.1 fun e => h.2.1 (by simpa using e)
  exact ⟨hG, (World.cell?_of_block (a := ⟨q, 0, none⟩) hb).trans h.2.2.1, (World.cell?_of_block (a := ⟨q, 1, none⟩) hb).trans h.2.2.2⟩

end Go.Proofs.YtmjcnlpjnbcfjadGreatDoor

namespace Go.Proofs.YtmjcnlpjnbcfjadGreatDoor
open Go.ChangeShapes Go.WideShapes Go.ChangeAt Go.RowKit Go.Lib
set_option maxRecDepth 20000

/-- what an edit of a row of one's own leaves: what is wrong, or a row that holds what it should -/
def Edited (w : World) (g : Nat) (E : Int) (l : List En) (e : Ending) (w' : World) : Prop :=
  (∃ B c ys, e = .returned (.tuple #[.slice B ys.length c, errV E]) ∧ ((E ≠ 0 ∧ B = none ∧ c = 0 ∧ ys = []) ∨ (E = 0 ∧ ∃ g', B = some ⟨g', 0, none⟩ ∧ g ≤ g' ∧ RowE w' g' c ys ∧ lE ys = l))) ∧ w.grownBy w' (some g)
theorem edit_set (D : Nat → Dm) (n : Nat) (l : List En) (p : List Int) (N : Int) : editErr D n l ⟨p, N, false⟩ = entOne D n ⟨p, N⟩ := by
  unfold editErr entOne
  rfl

end Go.Proofs.YtmjcnlpjnbcfjadGreatDoor

namespace Go.Proofs.YtmjcnlpjnbcfjadGreatDoor
open Go.ChangeShapes Go.WideShapes Go.ChangeAt Go.RowKit Go.Lib
set_option maxRecDepth 20000

theorem edit_clr {D : Nat → Dm} {n : Nat} {l : List En} (hR : (allErr D n).2.2 = 0) (p : List Int) (N : Int) : editErr D n l ⟨p, N, true⟩ = if placeErr D n p ≠ 0 then placeErr D n p else if hasE l p = true then 0 else 5 := by
  rw [pe1 hR]
  unfold editErr
  rfl
theorem clr_in {l : List En} {p : List Int} (h : hasE l p = true) : cntE l p < l.length := (set_old h 0).2.1

end Go.Proofs.YtmjcnlpjnbcfjadGreatDoor

namespace Go.Proofs.YtmjcnlpjnbcfjadGreatDoor
open Go.ChangeShapes Go.WideShapes Go.ChangeAt Go.RowKit Go.Lib
set_option maxRecDepth 20000

/-- entries, if nothing is wrong -/
def pickL (E : Int) (l : List En) : List En := if E = 0 then l else []
theorem pickL_bad {E : Int} (h : E ≠ 0) (l : List En) : pickL E l = [] := by unfold pickL; rw [if_neg h]
theorem pickL_in (l : List En) : pickL 0 l = l := rfl
/-- entries, or what is wrong -/
def Answer (w : World) (E : Int) (l : List En) (e : Ending) (w' : World) : Prop := (∃ B c zs, e = .returned (.tuple #[.slice B zs.length c, errV E]) ∧ EnsV w' B c zs ∧ lE zs = pickL E l) ∧ Below w.heap.size w w'
theorem edited_ens {w' : World} {g c : Nat} {E : Int} {l : List En} {B : Option Addr} {ys : List EnL} (h : (E ≠ 0 ∧ B = none ∧ c = 0 ∧ ys = []) ∨ (E = 0 ∧ ∃ g', B = some ⟨g', 0, none⟩ ∧ g ≤ g' ∧ RowE w' g' c ys ∧ lE ys = l)) : EnsV w' B c ys ∧ lE ys = pickL E l := by
  rcases h with ⟨h1, rfl, rfl, rfl⟩ | ⟨h1, g', rfl, _, h2, h3⟩
  · exact ⟨EnsV.nil _ _ _ (by decide), by rw [pickL_bad h1]; rfl⟩
  · exact ⟨h2.ensV, by rw [h1, pickL_in, h3]⟩
/-- what is wrong, with an edit of entries -/
def changeErr (D : Nat → Dm) (n : Nat) (l : List En) (x : Ed) : Int := if entsErr D n l ≠ 0 then entsErr D n l else editErr D n l x
theorem change_bad {D : Nat → Dm} {n : Nat} {l : List En} (x : Ed) (h : entsErr D n l ≠ 0) : changeErr D n l x = entsErr D n l := by unfold changeErr; rw [if_pos h]
theorem change_in {D : Nat → Dm} {n : Nat} {l : List En} (x : Ed) (h : entsErr D n l = 0) : changeErr D n l x = editErr D n l x := by unfold changeErr; rw [if_neg (by simpa using h)]
theorem keepO {W w' : World} {q : Nat} {u : Value} (h : q < W.heap.size ∧ W.cell? ⟨q, 0, none⟩ = some u) (hB : Below W.heap.size W w') : Below W.heap.size W w' ∧ w'.cell? ⟨q, 0, none⟩ = some u := ⟨hB, (hB.cell (p := ⟨q, 0, none⟩) h.1).trans h.2⟩
theorem fresh_of {D : Nat → Dm} {n : Nat} {xs : List EnL} (hEs : Ens D n (lE xs)) : ∀ k, k < xs.length → (xs.getD k noL).e.pl.length ≤ 4 := fun k hk => by
  have h1 : (xs.getD k noL).e ∈ lE xs := List.mem_map.2 ⟨_, enl_mem hk, rfl⟩
  exact inO_short (hEs.each _ h1).1
theorem len_eq {xs ys : List EnL} (h : lE ys = lE xs) : ys.length = xs.length := by rw [← lE_len, h, lE_len]

end Go.Proofs.YtmjcnlpjnbcfjadGreatDoor

namespace Go.Proofs.YtmjcnlpjnbcfjadGreatDoor
open Go.ChangeShapes Go.WideShapes Go.ChangeAt Go.RowKit
set_option maxRecDepth 20000

set_option maxHeartbeats 2000000 in
theorem rless_any (A B : Option Addr) (ca cb : Nat) (a b : List Int) (w : World) (ha : a.length ≤ 4) (hb : b.length ≤ 4) (hA : PlAt w A ca a) (hB : PlAt w B cb b) : Calls Tryz.prog 18 #[.slice A a.length ca, .slice B b.length cb] w fun e w' => e = .returned (.bool (lessL a b)) ∧ Below w.heap.size w w' := by
  have HA : Hid (PlAt w A ca a) := hA
  have HB : Hid (PlAt w B cb b) := hB
  have HN : Hid (∀ k, k < a.length → k < b.length → lessL (a.drop k) (b.drop k) = if a.getD k 0 = b.getD k 0 then lessL (a.drop (k + 1)) (b.drop (k + 1)) else decide (a.getD k 0 < b.getD k 0)) := fun k h1 h2 => lessL_in h1 h2
  have HL : Hid (∀ k, b.length ≤ k → lessL (a.drop k) (b.drop k) = false) := fun k h2 => lessL_long h2
  have HS : Hid (∀ k, a.length ≤ k → k < b.length → lessL (a.drop k) (b.drop k) = true) := fun k h1 h2 => lessL_short h1 h2
  obtain ⟨na, hna⟩ : ∃ na, a.length = na := ⟨_, rfl⟩
  obtain ⟨nb, hnb⟩ : ∃ nb, b.length = nb := ⟨_, rfl⟩
  have HNA : Hid (a.length = na) := hna
  have HNB : Hid (b.length = nb) := hnb
  rw [hna] at HN HS ha
  rw [hnb] at HN HL HS hb
  rw [hna, hnb]
  have ha' : (na : Int) ≤ 4 := by omega
  have hb' : (nb : Int) ≤ 4 := by omega
  clear hA hB hna hnb
  go_enter Tryz.func18, Tryz.ntmps18
  go_wp2_with fail
  go_loopg [5] na (fun g s5 wr => ∃ (k : Nat), k ≤ na ∧ k ≤ nb ∧ g = na - k ∧ s5 = .int .i64 k ∧ Hid (lessL (a.drop k) (b.drop k) = lessL a b) ∧ Below w.heap.size w wr)
  case atStart => exact ⟨0, Nat.zero_le _, Nat.zero_le _, rfl, rfl, (rfl : lessL (a.drop 0) (b.drop 0) = lessL a b), Below.refl _ _⟩
  case round =>
    obtain ⟨k, hk, hk2, rfl, rfl, HF, hBw⟩ := hrel
    have HBw : Hid (Below w.heap.size w wr) := hBw
    by_cases hlt : k < na
    · have hki : (k : Int) < (na : Int) := by omega
      by_cases hlb : k < nb
      · obtain ⟨hc, h0 | ⟨g1, o1, rfl, hbw, hcell⟩⟩ := HA.out.later hBw
        · have := HNA.out; rw [h0] at this; simp at this; omega
        obtain ⟨hc', h0 | ⟨g2, o2, rfl, hbw2, hcell2⟩⟩ := HB.out.later hBw
        · have := HNB.out; rw [h0] at this; simp at this; omega
        have x1 := hcell k (by rw [HNA.out]; exact hlt)
        have x2 := hcell2 k (by rw [HNB.out]; exact hlb)
        have hkb : (k : Int) < (nb : Int) := by omega
        have hst := HN.out k hlt hlb
        generalize a.getD k 0 = x at x1 hst
        generalize b.getD k 0 = y at x2 hst
        clear hcell hcell2 hBw
        by_cases hxy : x = y
        · have HR : Hid (lessL (a.drop (k + 1)) (b.drop (k + 1)) = lessL a b) := by show _ = _; rw [← HF.out, hst, if_pos hxy]
          subst hxy
          clear hst
          go_wp2_with fail
          go_quiet (fail)
          go_wp2_with fail
          go_roundg (na - (k + 1))
          case measure => omega
          case rel => exact ⟨k + 1, by omega, by omega, rfl, by go_num, HR, below_drewN HBw.out _⟩
        · have HR : Hid (lessL a b = decide (x < y)) := by show _ = _; rw [← HF.out, hst, if_neg hxy]
          clear hst
          go_wp2_with fail
          go_quiet (fail)
          go_wp2_with fail
          go_quiet (fail)
          go_wp2_with fail
          go_ret
          rw [HR.out]
          exact ⟨rfl, below_drewN (below_drewN HBw.out _) _⟩
      · have HR : Hid (lessL a b = false) := by show _ = _; rw [← HF.out, HL.out k (by omega)]
        have hkb : (nb : Int) ≤ (k : Int) := by omega
        have hnn : decide ((na : Int) < (nb : Int)) = false := decide_eq_false (by omega)
        have hnn' : decide (na < nb) = false := decide_eq_false (by omega)
        clear hBw
        go_wp2_with fail
        go_ret
        rw [HR.out]
        exact ⟨rfl, HBw.out⟩
    · have hke : k = na := by omega
      subst hke
      by_cases hlb : k < nb
      · have HR : Hid (lessL a b = true) := by show _ = _; rw [← HF.out, HS.out k (Nat.le_refl _) hlb]
        have hkb : (k : Int) < (nb : Int) := by omega
        clear hBw
        go_wp2_with fail
        go_ret
        rw [HR.out]
        exact ⟨rfl, HBw.out⟩
      · have HR : Hid (lessL a b = false) := by show _ = _; rw [← HF.out, HL.out k (by omega)]
        have hkb : (nb : Int) ≤ (k : Int) := by omega
        clear hBw
        go_wp2_with fail
        go_ret
        rw [HR.out]
        exact ⟨rfl, HBw.out⟩

set_option maxHeartbeats 4000000 in
theorem rfind_any (A : Option Addr) (cap : Nat) (xs : List EnL) (Ap : Option Addr) (cp : Nat) (p : List Int) (w : World) (hn : xs.length ≤ 3000) (hE : EnsV w A cap xs) (hS : Short xs p) (hP : PlAt w Ap cp p) :
    Calls Tryz.prog 36 #[.slice A xs.length cap, .slice Ap p.length cp] w fun e w' => e = .returned (.tuple #[.int .i64 (cntE (lE xs) p : Nat), .bool (hasE (lE xs) p)]) ∧ Below w.heap.size w w' := by
  have HE : Hid (EnsV w A cap xs) := hE
  have HLs : Hid (∀ k w', k < xs.length → Below w.heap.size w w' → Calls Tryz.prog 18 #[.slice (xs.getD k noL).A (xs.getD k noL).e.pl.length (xs.getD k noL).c, .slice Ap p.length cp] w' fun e w'' => e = .returned (.bool (lessL (xs.getD k noL).e.pl p)) ∧ Below w'.heap.size w' w'') := fun k w' hk hw' => by
    obtain ⟨-, -, h0 | ⟨b, o, h0, hA⟩⟩ := hE.later hw'
    · rw [h0] at hk; simp at hk
    · exact rless_any _ _ _ _ _ _ w' (hS.1 k hk) hS.2 (hA.pl hk) (hP.later hw')
  have HLb : Hid (∀ k w', k < xs.length → Below w.heap.size w w' → Calls Tryz.prog 18 #[.slice Ap p.length cp, .slice (xs.getD k noL).A (xs.getD k noL).e.pl.length (xs.getD k noL).c] w' fun e w'' => e = .returned (.bool (lessL p (xs.getD k noL).e.pl)) ∧ Below w'.heap.size w' w'') := fun k w' hk hw' => by
    obtain ⟨-, -, h0 | ⟨b, o, h0, hA⟩⟩ := hE.later hw'
    · rw [h0] at hk; simp at hk
    · exact rless_any _ _ _ _ _ _ w' hS.2 (hS.1 k hk) (hP.later hw') (hA.pl hk)
  have HC : Hid (∀ i, i ≤ xs.length → (∀ t, t < i → lessL (xs.getD t noL).e.pl p = true) → (i < xs.length → lessL (xs.getD i noL).e.pl p = false) → cntE (lE xs) p = i) := fun i hi h1 h2 => cnt_at _ _ i (by rw [lE_len]; exact hi) (fun t ht => by rw [lE_at]; exact h1 t ht) (fun h3 => by rw [lE_len] at h3; rw [lE_at]; exact h2 h3)
  have HH : Hid (∀ i, cntE (lE xs) p = i → i < xs.length → hasE (lE xs) p = !lessL p (xs.getD i noL).e.pl) := fun i h1 h2 => by rw [← lE_at]; exact (has_in h1 (by rw [lE_len]; exact h2)).1
  have HH2 : Hid (∀ i, cntE (lE xs) p = i → xs.length ≤ i → hasE (lE xs) p = false) := fun i h1 h2 => (has_out h1 (by rw [lE_len]; exact h2)).1
  obtain ⟨n, hnn⟩ : ∃ n, xs.length = n := ⟨_, rfl⟩
  obtain ⟨np, hnp⟩ : ∃ np, p.length = np := ⟨_, rfl⟩
  have HN : Hid (xs.length = n) := hnn
  rw [hnn] at hn HLs HLb HC HH HH2 ⊢
  rw [hnp] at HLs HLb ⊢
  generalize cntE (lE xs) p = cnt at HC HH HH2
  generalize hasE (lE xs) p = has at HH HH2
  have hn' : (n : Int) ≤ 3000 := by omega
  clear hE hS hP hnn hnp
  go_enter Tryz.func36, Tryz.ntmps36
  go_wp2_with fail
  go_loopg [6] n (fun g s6 wr => ∃ (k : Nat), k ≤ n ∧ g = n - k ∧ s6 = .int .i64 k ∧ Hid (∀ t, t < k → lessL (xs.getD t noL).e.pl p = true) ∧ Below w.heap.size w wr)
  case atStart => exact ⟨0, Nat.zero_le _, rfl, rfl, fun t ht => absurd ht (Nat.not_lt_zero _), Below.refl _ _⟩
  case round =>
    obtain ⟨k, hk, rfl, rfl, HLt, hBw⟩ := hrel
    have HBw : Hid (Below w.heap.size w wr) := hBw
    by_cases hlt : k < n
    · obtain ⟨-, -, h0 | ⟨b, o, rfl, hA⟩⟩ := HE.out.later hBw
      · have := HN.out; rw [h0] at this; simp at this; omega
      obtain ⟨c1, -⟩ := hA.at (k := k) (by rw [HN.out]; exact hlt)
      have h1 := HLs.out k wr hlt hBw
      have HLk : Hid (∀ w', Below w.heap.size w w' → Calls Tryz.prog 18 #[.slice Ap np cp, .slice (xs.getD k noL).A (xs.getD k noL).e.pl.length (xs.getD k noL).c] w' fun e w'' => e = .returned (.bool (lessL p (xs.getD k noL).e.pl)) ∧ Below w'.heap.size w' w'') := fun w' hw' => HLb.out k w' hlt hw'
      have hki : (k : Int) < (n : Int) := by omega
      have hbb := hA.1
      cases hl : lessL (xs.getD k noL).e.pl p
      · have HCN : Hid (cnt = k) := HC.out k hk HLt.out (fun _ => hl)
        have HHI : Hid (has = !lessL p (xs.getD k noL).e.pl) := HH.out k HCN.out hlt
        rw [hl] at h1
        generalize lessL p (xs.getD k noL).e.pl = bk at HLk HHI
        generalize (xs.getD k noL).A = A1 at c1 h1 HLk
        generalize (xs.getD k noL).c = k1 at c1 h1 HLk
        generalize (xs.getD k noL).e.pl.length = m1 at c1 h1 HLk
        have hne : ((k : Int) == (n : Int)) = false := by simp; omega
        clear hl hA hBw
        go_wp2_with fail
        refine h1.mono ?_
        rintro e w1 ⟨rfl, hb1⟩
        have hB1 : Below w.heap.size w w1 := onB HBw.out hb1
        have HB1 : Hid (Below w.heap.size w w1) := hB1
        have d1 : w1.cell? ⟨b, o + k * 2, none⟩ = some (.slice A1 m1 k1) := (hb1.cell (p := ⟨b, o + k * 2, none⟩) hbb).trans c1
        have h2 := HLk.out w1 hB1
        clear hb1 h1 c1 hB1
        go_wp2_with fail
        refine h2.mono ?_
        rintro e w2 ⟨rfl, hb2⟩
        have HB2 : Hid (Below w.heap.size w w2) := onB HB1.out hb2
        clear hb2 h2 d1
        go_wp2_with fail
        go_ret2
        rw [HCN.out, HHI.out]
        exact ⟨rfl, HB2.out⟩
      · have HT : Hid (∀ t, t < k + 1 → lessL (xs.getD t noL).e.pl p = true) := fun t ht => by
          rcases Nat.lt_succ_iff_lt_or_eq.1 ht with h2 | rfl
          · exact HLt.out t h2
          · exact hl
        rw [hl] at h1
        generalize (xs.getD k noL).A = A1 at c1 h1
        generalize (xs.getD k noL).c = k1 at c1 h1
        generalize (xs.getD k noL).e.pl.length = m1 at c1 h1
        clear hl hA hBw HLk
        go_wp2_with fail
        refine h1.mono ?_
        rintro e w1 ⟨rfl, hb1⟩
        have HB1 : Hid (Below w.heap.size w w1) := onB HBw.out hb1
        clear hb1 h1 c1
        go_wp2_with fail
        go_roundg (n - (k + 1))
        case measure => omega
        case rel => exact ⟨k + 1, by omega, rfl, by go_num, HT, HB1.out⟩
    · have hke : k = n := by omega
      subst hke
      have HCN : Hid (cnt = k) := HC.out k hk HLt.out (fun h => absurd h (Nat.lt_irrefl _))
      have HHI : Hid (has = false) := HH2.out k HCN.out (Nat.le_refl _)
      go_wp2_with fail
      go_ret2
      rw [HCN.out, HHI.out]
      exact ⟨rfl, hBw⟩
end Go.Proofs.YtmjcnlpjnbcfjadGreatDoor

namespace Go.Proofs.YtmjcnlpjnbcfjadGreatDoor
open Go.ChangeShapes Go.WideShapes Go.ChangeAt Go.RowKit
set_option maxRecDepth 20000

set_option maxHeartbeats 4000000 in
theorem rinput_any (A : Option Addr) (cap : Nat) (xs : List EnL) (Ap : Option Addr) (cp : Nat) (p : List Int) (w : World) (hn : xs.length ≤ 3000) (hE : EnsV w A cap xs) (hS : Short xs p) (hP : PlAt w Ap cp p) :
    Calls Tryz.prog 19 #[.slice A xs.length cap, .slice Ap p.length cp] w fun e w' => e = .returned (.agg #[.int .i64 (getE (lE xs) p).1, .int .i64 (getE (lE xs) p).2]) ∧ Below w.heap.size w w' := by
  obtain ⟨v0, hv0⟩ : ∃ v0, w.alloc (.cells #[.int .i64 0, .int .i64 0] 42) = v0 := ⟨_, rfl⟩
  have hB0 : Below w.heap.size w v0 := by rw [← hv0]; go_grown
  have h := rfind_any A cap xs Ap cp p v0 hn (hE.later hB0) hS (hP.later hB0)
  have HB0 : Hid (Below w.heap.size w v0) := hB0
  have k0 : v0.heap[w.heap.size]? = some (.cells #[.int .i64 0, .int .i64 0] 42) := by rw [← hv0]; exact heap_alloc_new w _
  have hz0 : w.heap.size < v0.heap.size := by rw [← hv0]; simp
  have HK0 : Hid (v0.heap[w.heap.size]? = some (.cells #[.int .i64 0, .int .i64 0] 42)) := k0
  have HE : Hid (EnsV w A cap xs) := hE
  clear hP hB0 k0
  cases hh : hasE (lE xs) p
  · have HV : Hid (getE (lE xs) p = (0, 0)) := by
      show _ = _
      rcases Nat.lt_or_ge (cntE (lE xs) p) (lE xs).length with h1 | h1
      · have hx := has_in (l := lE xs) (p := p) rfl h1
        rw [hx.1] at hh
        rw [hx.2, if_pos (by simpa using hh)]
      · exact (has_out rfl h1).2
    rw [hh] at h
    generalize cntE (lE xs) p = i at h
    generalize getE (lE xs) p = V at HV
    generalize xs.length = n at h hn
    generalize p.length = np at h
    clear hh hE hS
    go_enter Tryz.func19, Tryz.ntmps19
    go_wp2_with fail
    clear hv0
    refine h.mono ?_
    rintro e w1 ⟨rfl, hb1⟩
    have k1 : w1.heap[w.heap.size]? = some (.cells #[.int .i64 0, .int .i64 0] 42) := (hb1.block _ hz0).trans HK0.out
    have d0 : w1.cell? ⟨w.heap.size, 0, none⟩ = some (.int .i64 0) := by rw [Lib.cell_of_heap k1]; rfl
    have d1 : w1.cell? ⟨w.heap.size, 1, none⟩ = some (.int .i64 0) := by rw [Lib.cell_of_heap k1]; rfl
    have f0 : w1.frozen? ⟨w.heap.size, 0, none⟩ = false := Lib.frozen_of_heap k1 0
    have f1 : w1.frozen? ⟨w.heap.size, 1, none⟩ = false := Lib.frozen_of_heap k1 1
    have HB1 : Hid (Below w.heap.size w w1) := onB HB0.out hb1
    clear hb1 k1 h
    go_wp2_with fail
    refine bodyPost_ret (v := .agg #[.int .i64 0, .int .i64 0]) (by simp [results, Tryz.results19, go_sem, d0, d1]) rfl ⟨by rw [HV.out], ?_⟩
    exact (HB1.out.setCell (Nat.le_refl _) _).setCell (Nat.le_refl _) _
  · have hi := clr_in hh
    have hx := has_in (l := lE xs) (p := p) rfl hi
    have HV : Hid (getE (lE xs) p = (1, (xs.getD (cntE (lE xs) p) noL).e.n)) := by
      show _ = _
      rw [hx.1] at hh
      rw [hx.2, if_neg (by simpa using hh), lE_at]
    rw [lE_len] at hi
    rw [hh] at h
    obtain ⟨n, hnn⟩ : ∃ n, xs.length = n := ⟨_, rfl⟩
    have HN : Hid (xs.length = n) := hnn
    rw [hnn] at h hn hi ⊢
    generalize cntE (lE xs) p = i at h hi HV
    generalize getE (lE xs) p = V at HV
    generalize hgn : (xs.getD i noL).e.n = num at HV
    have HGN : Hid ((xs.getD i noL).e.n = num) := hgn
    generalize p.length = np at h
    have hi' : (i : Int) < (n : Int) := by omega
    clear hh hE hS hx hgn hnn
    go_enter Tryz.func19, Tryz.ntmps19
    go_wp2_with fail
    clear hv0
    refine h.mono ?_
    rintro e w1 ⟨rfl, hb1⟩
    have k1 : w1.heap[w.heap.size]? = some (.cells #[.int .i64 0, .int .i64 0] 42) := (hb1.block _ hz0).trans HK0.out
    have d0 : w1.cell? ⟨w.heap.size, 0, none⟩ = some (.int .i64 0) := by rw [Lib.cell_of_heap k1]; rfl
    have d1 : w1.cell? ⟨w.heap.size, 1, none⟩ = some (.int .i64 0) := by rw [Lib.cell_of_heap k1]; rfl
    have f0 : w1.frozen? ⟨w.heap.size, 0, none⟩ = false := Lib.frozen_of_heap k1 0
    have f1 : w1.frozen? ⟨w.heap.size, 1, none⟩ = false := Lib.frozen_of_heap k1 1
    have hB1 : Below w.heap.size w w1 := onB HB0.out hb1
    have HB1 : Hid (Below w.heap.size w w1) := hB1
    obtain ⟨-, -, h0 | ⟨b, o, rfl, hA⟩⟩ := HE.out.later hB1
    · have := HN.out; rw [h0] at this; simp at this; omega
    have c3 := (hA.at (k := i) (by rw [HN.out]; exact hi)).2
    rw [HGN.out] at c3
    clear hb1 k1 h hB1 hA
    go_wp2_with fail
    refine bodyPost_ret (v := .agg #[.int .i64 1, .int .i64 num]) (by simp [results, Tryz.results19, go_sem, d0, d1]) rfl ⟨by rw [HV.out], ?_⟩
    exact (HB1.out.setCell (Nat.le_refl _) _).setCell (Nat.le_refl _) _

theorem keep2 {W w' : World} {q b o1 : Nat} {u v : Value} (h : q < W.heap.size ∧ b < W.heap.size ∧ W.cell? ⟨q, 0, none⟩ = some u ∧ W.cell? ⟨b, o1, none⟩ = some v) (hB : Below W.heap.size W w') : Below W.heap.size W w' ∧ w'.cell? ⟨q, 0, none⟩ = some u ∧ w'.cell? ⟨b, o1, none⟩ = some v :=
  ⟨hB, (hB.cell (p := ⟨q, 0, none⟩) h.1).trans h.2.2.1, (hB.cell (p := ⟨b, o1, none⟩) h.2.1).trans h.2.2.2⟩
theorem keepL {W w' : World} {b o1 o2 : Nat} {u v : Value} (h : b < W.heap.size ∧ W.cell? ⟨b, o1, none⟩ = some u ∧ W.cell? ⟨b, o2, none⟩ = some v) (hB : Below W.heap.size W w') : Below W.heap.size W w' ∧ w'.cell? ⟨b, o1, none⟩ = some u ∧ w'.cell? ⟨b, o2, none⟩ = some v :=
  ⟨hB, (hB.cell (p := ⟨b, o1, none⟩) h.1).trans h.2.1, (hB.cell (p := ⟨b, o2, none⟩) h.1).trans h.2.2⟩

set_option maxHeartbeats 16000000 in
theorem rentries_any (A0 : Option Addr) (cap n : Nat) (D : Nat → Dm) (A : Nat → Option Addr) (C : Nat → Nat) (AE : Option Addr) (ce : Nat) (xs : List EnL) (w : World) (hM : DimsV w A0 cap n D A C) (hE : EnsV w AE ce xs) :
    Calls Tryz.prog 4 #[.agg #[.slice A0 n cap], .slice AE xs.length ce] w fun r w' => r = .returned (.int .i64 (entsErr D n (lE xs))) ∧ Below w.heap.size w w' := by
  have hB0 := ownOut_below w A0 n cap 24
  have h := rright_any A0 cap n D A C (ownOut w A0 n cap 24) (hM.later hB0)
  have HB0 : Hid (Below w.heap.size w (ownOut w A0 n cap 24)) := hB0
  have HM : Hid (DimsV w A0 cap n D A C) := hM
  have HE : Hid (EnsV w AE ce xs) := hE
  clear hM hB0
  by_cases hR : (allErr D n).2.2 = 0
  · have HR : Hid ((allErr D n).2.2 = 0) := hR
    have HV : Hid (entsErr D n (lE xs) = entFrom D n (qOf (lE xs) 0) ((lE xs).drop 0)) := ents_in _ hR
    rw [hR] at h
    obtain ⟨N, hN⟩ : ∃ N, xs.length = N := ⟨_, rfl⟩
    have HN : Hid (xs.length = N) := hN
    have hNb : (N : Int) ≤ 9223372036854775807 := by have h1 := hE.1; have h2 := hE.2.1; omega
    rw [hN]
    generalize entsErr D n (lE xs) = RES at HV
    clear hR hN hE
    go_enter Tryz.func4, Tryz.ntmps4
    go_wp2_with fail
    refine h.mono ?_
    rintro e w1 ⟨rfl, hb1⟩
    have hB : Below w.heap.size w w1 := onB HB0.out hb1
    have hz : w.heap.size < w1.heap.size := by have := hb1.size; rw [ownOut_size] at this; omega
    have h2 : w1.cell? ⟨w.heap.size, 0, none⟩ = some (.slice A0 n cap) := (hb1.cell (p := ⟨w.heap.size, 0, none⟩) (by show w.heap.size < _; rw [ownOut_size]; omega)).trans (ownOut_at ..)
    have HM1 : Hid (DimsV w1 A0 cap n D A C) := HM.out.later hB
    have HE1 : Hid (EnsV w1 AE ce xs) := HE.out.later hB
    have HB : Hid (Below w.heap.size w w1) := hB
    clear hb1 h hB HM HE HB0
    go_wp2_with fail
    go_loopg [6] N (fun g s6 wr => ∃ (k : Nat), k ≤ N ∧ g = N - k ∧ s6 = .int .i64 k ∧ Hid (entFrom D n (qOf (lE xs) k) ((lE xs).drop k) = entFrom D n (qOf (lE xs) 0) ((lE xs).drop 0)) ∧ Hid (∀ j, j < k → entOne D n ((lE xs).getD j noEn) = 0) ∧ Below w1.heap.size w1 wr)
    case atStart => exact ⟨0, Nat.zero_le _, rfl, rfl, (rfl : entFrom D n (qOf (lE xs) 0) ((lE xs).drop 0) = entFrom D n (qOf (lE xs) 0) ((lE xs).drop 0)), fun j hj => absurd hj (Nat.not_lt_zero _), Below.refl _ _⟩
    case round =>
      obtain ⟨k, hk, rfl, rfl, HF, HO, hBw⟩ := hrel
      have HBw : Hid (Below w1.heap.size w1 wr) := hBw
      by_cases hlt : k < N
      · have hkx : k < xs.length := by rw [HN.out]; exact hlt
        have hki : (k : Int) < (N : Int) := by omega
        have hk1 : (k : Int) + 1 ≤ 9223372036854775807 := by omega
        obtain ⟨-, -, h0 | ⟨b, o, rfl, hEs⟩⟩ := HE1.out.later hBw
        · have := HN.out; rw [h0] at this; simp at this; omega
        obtain ⟨c1, c2⟩ := hEs.at hkx
        have c0 : wr.cell? ⟨w.heap.size, 0, none⟩ = some (.slice A0 n cap) := (hBw.cell (p := ⟨w.heap.size, 0, none⟩) hz).trans h2
        have hzr : w.heap.size < wr.heap.size := Nat.lt_of_lt_of_le hz hBw.size
        have hbb := hEs.1
        have HMr : Hid (DimsV wr A0 cap n D A C) := HM1.out.later hBw
        have HEs : Hid (EnsAt wr b o xs) := hEs
        have HPl : Hid (∀ w', Below wr.heap.size wr w' → Calls Tryz.prog 16 #[.agg #[.slice A0 n cap], .slice (xs.getD k noL).A (xs.getD k noL).e.pl.length (xs.getD k noL).c] w' fun e w'' => e = .returned (.int .i64 (shapeErr D n (xs.getD k noL).e.pl)) ∧ Below w'.heap.size w' w'') := fun w' hw' => rplace_any A0 cap n D A C _ _ _ w' HR.out (HMr.out.later hw') ((HEs.out.pl hkx).later hw')
        have HLf : Hid (shapeErr D n (xs.getD k noL).e.pl = 0 → ∀ w', Below wr.heap.size wr w' → Calls Tryz.prog 17 #[.agg #[.slice A0 n cap], .slice (xs.getD k noL).A (xs.getD k noL).e.pl.length (xs.getD k noL).c] w' fun e w'' => e = .returned (.bool (leafV D n (xs.getD k noL).e.pl)) ∧ Below w'.heap.size w' w'') := fun hs w' hw' => rleafplace_any A0 cap n D A C _ _ _ w' (inO_of (by rw [pe1 HR.out]; exact hs)) (HMr.out.later hw') ((HEs.out.pl hkx).later hw')
        have HOne : Hid (entOne D n (xs.getD k noL).e = if shapeErr D n (xs.getD k noL).e.pl ≠ 0 then shapeErr D n (xs.getD k noL).e.pl else if leafV D n (xs.getD k noL).e.pl = false then 6 else if numOk (xs.getD k noL).e.n = false then 1 else 0) := rfl
        have HBad : Hid (entOne D n (xs.getD k noL).e ≠ 0 → RES = entOne D n (xs.getD k noL).e) := fun he => by rw [HV.out, ← HF.out, ent_bad (by rw [lE_len]; exact hkx) (by rw [lE_at]; exact he), lE_at]
        have HOn : Hid (entOne D n (xs.getD k noL).e = 0 → ∀ t, aheadOk (qOf (lE xs) k) (xs.getD k noL).e.pl = t → (t = false → RES = 7) ∧ (t = true → entFrom D n (qOf (lE xs) (k + 1)) ((lE xs).drop (k + 1)) = entFrom D n (qOf (lE xs) 0) ((lE xs).drop 0))) := fun he t ht => by
          rw [← lE_at] at he ht
          refine ⟨fun h1 => ?_, fun h1 => ?_⟩
          · rw [HV.out, ← HF.out, ent_clash (by rw [lE_len]; exact hkx) he (by rw [ht]; exact h1)]
          · rw [← ent_on (by rw [lE_len]; exact hkx) he (by rw [ht]; exact h1)]; exact HF.out
        have HK0 : Hid (entOne D n (xs.getD k noL).e = 0 → entOne D n ((lE xs).getD k noEn) = 0) := fun he => by rw [lE_at]; exact he
        have HPrev : Hid (∀ j, k = j + 1 → entOne D n (xs.getD k noL).e = 0 → (∃ A2 m2 k2, wr.cell? ⟨b, o + j * 2, none⟩ = some (.slice A2 m2 k2) ∧ ∀ w', Below wr.heap.size wr w' → Calls Tryz.prog 18 #[.slice A2 m2 k2, .slice (xs.getD k noL).A (xs.getD k noL).e.pl.length (xs.getD k noL).c] w' fun e w'' => e = .returned (.bool (aheadOk (qOf (lE xs) k) (xs.getD k noL).e.pl)) ∧ Below w'.heap.size w' w'')) := fun j hj he => by
          have hjx : j < xs.length := by omega
          have h3 := entOne_right HR.out he
          have h4 := entOne_right HR.out (HO.out j (by omega))
          rw [lE_at] at h4
          refine ⟨_, _, _, (HEs.out.at hjx).1, fun w' hw' => ?_⟩
          have h5 := rless_any _ _ _ _ _ _ w' (inO_short h4.1) (inO_short h3.1) ((HEs.out.pl hjx).later hw') ((HEs.out.pl hkx).later hw')
          have h6 : aheadOk (qOf (lE xs) k) (xs.getD k noL).e.pl = lessL (xs.getD j noL).e.pl (xs.getD k noL).e.pl := by rw [hj, ← lE_at xs j]; rfl
          rw [h6]
          exact h5
        have HQ0 : Hid (k = 0 → aheadOk (qOf (lE xs) k) (xs.getD k noL).e.pl = true) := fun h0 => by rw [h0]; rfl
        clear hEs hBw
        generalize aheadOk (qOf (lE xs) k) (xs.getD k noL).e.pl = tA at HOn HPrev HQ0
        generalize entOne D n (xs.getD k noL).e = E1 at HOne HBad HOn HK0 HPrev
        generalize shapeErr D n (xs.getD k noL).e.pl = SE at HPl HLf HOne
        generalize leafV D n (xs.getD k noL).e.pl = lf at HLf HOne
        generalize (xs.getD k noL).A = A1 at c1 HPl HLf HPrev
        generalize (xs.getD k noL).c = k1 at c1 HPl HLf HPrev
        generalize (xs.getD k noL).e.n = n1 at c2 HOne
        generalize (xs.getD k noL).e.pl.length = m1 at c1 HPl HLf HPrev
        have HC0 : Hid (w.heap.size < wr.heap.size ∧ b < wr.heap.size ∧ wr.cell? ⟨w.heap.size, 0, none⟩ = some (.slice A0 n cap) ∧ wr.cell? ⟨b, o + k * 2, none⟩ = some (.slice A1 m1 k1)) := ⟨hzr, hbb, c0, c1⟩
        have HC2 : Hid (wr.cell? ⟨b, o + k * 2 + 1, none⟩ = some (.int .i64 n1)) := c2
        clear c0 c1 c2
        go_wp2_with fail
        go_cut [5] (fun s5 wx => s5 = .int .i64 SE ∧ Below wr.heap.size wr wx)
        case first => as_aux_lemma =>
          go_region_held3 (fun w' => Below wr.heap.size wr w' ∧ w'.cell? ⟨w.heap.size, 0, none⟩ = some (.slice A0 n cap) ∧ w'.cell? ⟨b, o + k * 2, none⟩ = some (.slice A1 m1 k1))
            ((refine keep2 HC0.out ?_; go_grown; done))
            (first | (go_at_call 16; refine (HPl.out _ (by go_grown)).mono ?_; rintro e w3 ⟨rfl, hb3⟩; have hN3 := onB (W0 := wr) (by go_grown) hb3; have hy3 := hN3.size; clear hb3))
          all_goals go_wp2_with fail
          all_goals go_meet
          all_goals exact ⟨rfl, by go_grown⟩
        case rest => as_aux_lemma =>
        obtain ⟨rfl, hb⟩ := hcut
        obtain ⟨w2, rfl⟩ : ∃ w2 : World, w2 = wc := ⟨_, rfl⟩
        have HB2 : Hid (Below wr.heap.size wr w2) := hb
        clear hb
        by_cases hSE : SE = 0
        · have HLf2 := HLf.out hSE
          have HLf3 : Hid (∀ w', Below wr.heap.size wr w' → Calls Tryz.prog 17 #[.agg #[.slice A0 n cap], .slice A1 m1 k1] w' fun e w'' => e = .returned (.bool lf) ∧ Below w'.heap.size w' w'') := HLf2
          have HC3 : Hid (w.heap.size < w2.heap.size ∧ b < w2.heap.size ∧ w2.cell? ⟨w.heap.size, 0, none⟩ = some (.slice A0 n cap) ∧ w2.cell? ⟨b, o + k * 2, none⟩ = some (.slice A1 m1 k1)) := ⟨Nat.lt_of_lt_of_le HC0.out.1 HB2.out.size, Nat.lt_of_lt_of_le HC0.out.2.1 HB2.out.size, (keep2 HC0.out HB2.out).2.1, (keep2 HC0.out HB2.out).2.2⟩
          have hOne2 : E1 = if lf = false then 6 else if numOk n1 = false then 1 else 0 := by rw [HOne.out, if_neg (by simpa using hSE)]
          have HOne2 : Hid (E1 = if lf = false then 6 else if numOk n1 = false then 1 else 0) := hOne2
          subst hSE
          clear hOne2 HLf2
          go_wp2_with fail
          go_cut [7] (fun s7 wx => s7 = .bool lf ∧ Below w2.heap.size w2 wx)
          case first => as_aux_lemma =>
            go_region_held3 (fun w' => Below w2.heap.size w2 w' ∧ w'.cell? ⟨w.heap.size, 0, none⟩ = some (.slice A0 n cap) ∧ w'.cell? ⟨b, o + k * 2, none⟩ = some (.slice A1 m1 k1))
              ((refine keep2 HC3.out ?_; go_grown; done))
              (first | (go_at_call 17; refine (HLf3.out _ (onB HB2.out (by go_grown))).mono ?_; rintro e w3 ⟨rfl, hb3⟩; have hN3 := onB (W0 := w2) (by go_grown) hb3; have hy3 := hN3.size; clear hb3))
            all_goals go_wp2_with fail
            all_goals go_meet
            all_goals exact ⟨rfl, by go_grown⟩
          case rest => as_aux_lemma =>
          obtain ⟨rfl, hb⟩ := hcut
          obtain ⟨w3, rfl⟩ : ∃ w3 : World, w3 = wc := ⟨_, rfl⟩
          have HB3 : Hid (Below wr.heap.size wr w3) := onB HB2.out hb
          clear hb HC3 HLf3 HB2
          cases lf
          · have HRes : Hid (RES = 6) := by
              have e6 : E1 = 6 := by rw [HOne2.out]; rfl
              show _ = _
              rw [HBad.out (by rw [e6]; decide), e6]
            go_wp2_with fail
            go_ret
            rw [HRes.out]
            exact ⟨rfl, onB HB.out (onB HBw.out HB3.out)⟩
          · have c3 : w3.cell? ⟨b, o + k * 2 + 1, none⟩ = some (.int .i64 n1) := (HB3.out.cell (p := ⟨b, o + k * 2 + 1, none⟩) hbb).trans HC2.out
            by_cases hlo : n1 < -1000000
            · have HRes : Hid (RES = 1) := by
                have e1 : E1 = 1 := by rw [HOne2.out, if_neg (by decide), if_pos (by simp [numOk]; omega)]
                show _ = _
                rw [HBad.out (by rw [e1]; decide), e1]
              go_wp2_with fail
              go_ret
              rw [HRes.out]
              exact ⟨rfl, onB HB.out (onB HBw.out HB3.out)⟩
            by_cases hhi : 1000000 < n1
            · have HRes : Hid (RES = 1) := by
                have e1 : E1 = 1 := by rw [HOne2.out, if_neg (by decide), if_pos (by simp [numOk]; omega)]
                show _ = _
                rw [HBad.out (by rw [e1]; decide), e1]
              go_wp2_with fail
              go_ret
              rw [HRes.out]
              exact ⟨rfl, onB HB.out (onB HBw.out HB3.out)⟩
            have e0 : E1 = 0 := by rw [HOne2.out, if_neg (by decide), if_neg (by simp [numOk]; omega)]
            have HT : Hid ((tA = false → RES = 7) ∧ (tA = true → entFrom D n (qOf (lE xs) (k + 1)) ((lE xs).drop (k + 1)) = entFrom D n (qOf (lE xs) 0) ((lE xs).drop 0))) := HOn.out e0 tA rfl
            have HKk : Hid (entOne D n ((lE xs).getD k noEn) = 0) := HK0.out e0
            have HP2 : Hid (∀ j, k = j + 1 → (∃ A2 m2 k2, wr.cell? ⟨b, o + j * 2, none⟩ = some (.slice A2 m2 k2) ∧ ∀ w', Below wr.heap.size wr w' → Calls Tryz.prog 18 #[.slice A2 m2 k2, .slice A1 m1 k1] w' fun e w'' => e = .returned (.bool tA) ∧ Below w'.heap.size w' w'')) := fun j hj => HPrev.out j hj e0
            clear HOne HOne2 HBad HOn HK0 HPrev HLf HPl e0
            rcases Nat.eq_zero_or_pos k with hk0 | hk0
            · have HTr : Hid (entFrom D n (qOf (lE xs) (k + 1)) ((lE xs).drop (k + 1)) = entFrom D n (qOf (lE xs) 0) ((lE xs).drop 0)) := HT.out.2 (HQ0.out hk0)
              subst hk0
              simp only [Nat.zero_mul, Nat.add_zero] at c3
              clear HP2 HQ0 HT HO HF
              go_wp2_with fail
              go_quiet (fail)
              go_wp2_with fail
              go_roundg (N - (0 + 1))
              case measure => omega
              case rel =>
                refine ⟨0 + 1, by omega, rfl, by go_num, HTr.out, fun j hj => ?_, below_drewN (onB HBw.out HB3.out) _⟩
                have : j = 0 := by omega
                rw [this]
                exact HKk.out
            · obtain ⟨j, hj⟩ : ∃ j, k = j + 1 := ⟨k - 1, by omega⟩
              obtain ⟨A2, m2, k2, hcell, hcalls⟩ := HP2.out j hj
              have HLs : Hid (∀ w', Below wr.heap.size wr w' → Calls Tryz.prog 18 #[.slice A2 m2 k2, .slice A1 m1 k1] w' fun e w'' => e = .returned (.bool tA) ∧ Below w'.heap.size w' w'') := hcalls
              have HC4 : Hid (b < w3.heap.size ∧ w3.cell? ⟨b, o + j * 2, none⟩ = some (.slice A2 m2 k2) ∧ w3.cell? ⟨b, o + k * 2, none⟩ = some (.slice A1 m1 k1)) := ⟨Nat.lt_of_lt_of_le hbb HB3.out.size, (HB3.out.cell (p := ⟨b, o + j * 2, none⟩) hbb).trans hcell, (HB3.out.cell (p := ⟨b, o + k * 2, none⟩) hbb).trans HC0.out.2.2.2⟩
              have hwr : IntKind.i64.wrap ((k : Int) - 1) = (j : Int) := by rw [IntKind.wrap_i64]; omega
              have hkz : ((k : Int) == 0) = false := by simp; omega
              have hkz' : ¬ ((k : Int) = 0) := by omega
              have hjN : (j : Int) < (N : Int) := by omega
              clear hj hcell hcalls HP2 hk0
              go_wp2_with fail
              go_cut [8] (fun s8 wx => s8 = .bool tA ∧ Below w3.heap.size w3 wx)
              case first => as_aux_lemma =>
                go_region_held3 (fun w' => Below w3.heap.size w3 w' ∧ w'.cell? ⟨b, o + j * 2, none⟩ = some (.slice A2 m2 k2) ∧ w'.cell? ⟨b, o + k * 2, none⟩ = some (.slice A1 m1 k1))
                  ((refine keepL HC4.out ?_; go_grown; done))
                  (first | (go_at_call 18; refine (HLs.out _ (onB HB3.out (by go_grown))).mono ?_; rintro e w4 ⟨rfl, hb4⟩; have hN4 := onB (W0 := w3) (by go_grown) hb4; have hy4 := hN4.size; clear hb4))
                all_goals go_wp2_with fail
                all_goals go_meet
                all_goals exact ⟨rfl, by go_grown⟩
              case rest => as_aux_lemma =>
              obtain ⟨rfl, hb⟩ := hcut
              obtain ⟨w4, rfl⟩ : ∃ w4 : World, w4 = wc := ⟨_, rfl⟩
              have HB4 : Hid (Below wr.heap.size wr w4) := onB HB3.out hb
              clear hb HC4 HLs hwr hkz hkz' hjN c3
              cases tA
              · have HRes : Hid (RES = 7) := HT.out.1 rfl
                go_wp2_with fail
                go_ret
                rw [HRes.out]
                exact ⟨rfl, onB HB.out (onB HBw.out HB4.out)⟩
              · have HTr : Hid (entFrom D n (qOf (lE xs) (k + 1)) ((lE xs).drop (k + 1)) = entFrom D n (qOf (lE xs) 0) ((lE xs).drop 0)) := HT.out.2 rfl
                go_wp2_with fail
                go_roundg (N - (k + 1))
                case measure => omega
                case rel =>
                  refine ⟨k + 1, by omega, rfl, by go_num, HTr.out, fun i hi => ?_, onB HBw.out HB4.out⟩
                  rcases Nat.lt_succ_iff_lt_or_eq.1 hi with h1 | rfl
                  · exact HO.out i h1
                  · exact HKk.out
        · have HRes : Hid (RES = SE) := by
            have e1 : E1 = SE := by rw [HOne.out, if_pos (by simpa using hSE)]
            show _ = _
            rw [HBad.out (by rw [e1]; exact hSE), e1]
          have hSE' : (SE != 0) = true := by simpa using hSE
          clear HLf HPl HOne HBad HOn HK0 HPrev hSE HC0 HC2 HEs HMr HE1 HM1 HO HF HQ0 hki hk1 hzr hbb
          go_wp2_with fail
          go_ret
          rw [HRes.out]
          exact ⟨rfl, onB HB.out (onB HBw.out HB2.out)⟩
      · have hke : k = N := by omega
        subst hke
        have HRes : Hid (RES = 0) := by show _ = _; rw [HV.out, ← HF.out, ent_end (by rw [lE_len, HN.out]; exact Nat.le_refl _)]
        clear hBw
        go_wp2_with fail
        go_ret
        rw [HRes.out]
        exact ⟨rfl, onB HB.out HBw.out⟩
  · have HV : Hid (entsErr D n (lE xs) = (allErr D n).2.2) := ents_bad _ hR
    have hR' : ((allErr D n).2.2 == 0) = false := by simpa using hR
    generalize entsErr D n (lE xs) = RES at HV
    generalize (allErr D n).2.2 = E at h HV hR hR'
    generalize xs.length = N
    clear hE HM HE
    go_enter Tryz.func4, Tryz.ntmps4
    go_wp2_with fail
    refine h.mono ?_
    rintro e w1 ⟨rfl, hb1⟩
    go_wp2_with fail
    go_ret
    rw [HV.out]
    exact ⟨rfl, onB HB0.out hb1⟩
end Go.Proofs.YtmjcnlpjnbcfjadGreatDoor
