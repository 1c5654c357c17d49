/-
  Rows of entries with one put in, one put anew, one taken out: cell by cell.
-/
import Derived.Test.YtfngmnhkhfgmjacDoorJIAU
namespace Go.Proofs.YtfngmnhkhfgmjacDoor
open Go Go.ChangeShapes Go.WideShapes Go.ChangeAt Go.RowKit
set_option maxRecDepth 20000
theorem take_join {α : Type} {a b : List α} {k : Nat} (h : a.length = k) : (a ++ b).take k = a := by subst h; simp
theorem drop_join {α : Type} {a b : List α} {k : Nat} (h : a.length = k) : (a ++ b).drop k = b := by subst h; simp
theorem head_cells {C : List Value} {xs : List EnL} (hC : C.take (xs.length * 2) = cellsE xs) {i : Nat} (hi : i ≤ xs.length) : C.take (i * 2) = cellsE (xs.take i) := by
 rw [← cellsE_take, ← hC, List.take_take, Nat.min_eq_left (by omega)]
theorem ins_cells {C C1 C2 : List Value} {xs : List EnL} {x : EnL} {i : Nat} (hC : C.take (xs.length * 2) = cellsE xs) (hlen : (xs.length + 1) * 2 ≤ C.length) (hi : i ≤ xs.length)
  (h1 : C1 = C.take ((i + 1) * 2) ++ cellsE (xs.drop i) ++ C.drop ((i + 1) * 2 + (cellsE (xs.drop i)).length)) (h2 : C2 = C1.take (i * 2) ++ cellsE [x] ++ C1.drop (i * 2 + (cellsE [x]).length)) :
  C2.length = C.length ∧ C2.take ((xs.take i ++ x :: xs.drop i).length * 2) = cellsE (xs.take i ++ x :: xs.drop i) := by
 have hd : (cellsE (xs.drop i)).length = (xs.length - i) * 2 := by rw [cellsE_len, List.length_drop]
 have hx : (cellsE [x]).length = 2 := by rw [cellsE_len]; rfl
 have e1 : C1.take (i * 2) = cellsE (xs.take i) := by
  rw [h1, List.append_assoc, List.take_append_of_le_length (by rw [List.length_take]; omega), List.take_take, Nat.min_eq_left (by omega)]
  exact head_cells hC hi
 have e2 : C1.drop (i * 2 + (cellsE [x]).length) = cellsE (xs.drop i) ++ C.drop ((i + 1) * 2 + (cellsE (xs.drop i)).length) := by
  rw [h1, List.append_assoc, hx]
  exact drop_join (by rw [List.length_take]; omega)
 rw [h2, e1, e2]
 refine ⟨?_, ?_⟩
 ·simp only [List.length_append, cellsE_len, List.length_take, List.length_drop, List.length_cons, List.length_nil]
  omega
 ·have hl : (xs.take i ++ x :: xs.drop i).length = xs.length + 1 := by simp; omega
  rw [hl, ← List.append_assoc]
  rw [show cellsE (xs.take i ++ x :: xs.drop i) = cellsE (xs.take i) ++ cellsE [x] ++ cellsE (xs.drop i) by rw [show x :: xs.drop i = [x] ++ xs.drop i from rfl, cellsE_append, cellsE_append, List.append_assoc]]
  exact take_join (by simp only [List.length_append, cellsE_len, List.length_take, List.length_drop, List.length_cons, List.length_nil]; omega)
theorem grow_cells {C C1 C2 : List Value} {xs : List EnL} {x : EnL} {i : Nat} (hC : C.take (i * 2) = cellsE (xs.take i)) (hlen : (xs.length + 1) * 2 ≤ C.length) (hi : i ≤ xs.length)
  (h1 : C1 = C.take (i * 2) ++ cellsE [x] ++ C.drop (i * 2 + (cellsE [x]).length)) (h2 : C2 = C1.take ((i + 1) * 2) ++ cellsE (xs.drop i) ++ C1.drop ((i + 1) * 2 + (cellsE (xs.drop i)).length)) :
  C2.length = C.length ∧ C2.take ((xs.take i ++ x :: xs.drop i).length * 2) = cellsE (xs.take i ++ x :: xs.drop i) := by
 have hd : (cellsE (xs.drop i)).length = (xs.length - i) * 2 := by rw [cellsE_len, List.length_drop]
 have hx : (cellsE [x]).length = 2 := by rw [cellsE_len]; rfl
 have hc1 : C1.length = C.length := by
  rw [h1, hC]
  simp only [List.length_append, cellsE_len, List.length_take, List.length_drop, List.length_cons, List.length_nil]
  omega
 have e1 : C1.take ((i + 1) * 2) = cellsE (xs.take i) ++ cellsE [x] := by
  rw [h1, hC]
  exact take_join (by simp only [List.length_append, cellsE_len, List.length_take, List.length_cons, List.length_nil]; omega)
 rw [h2, e1]
 refine ⟨?_, ?_⟩
 ·simp only [List.length_append, cellsE_len, List.length_take, List.length_drop, List.length_cons, List.length_nil, hc1]
  omega
 ·have hl : (xs.take i ++ x :: xs.drop i).length = xs.length + 1 := by simp; omega
  rw [hl]
  rw [show cellsE (xs.take i ++ x :: xs.drop i) = cellsE (xs.take i) ++ cellsE [x] ++ cellsE (xs.drop i) by rw [show x :: xs.drop i = [x] ++ xs.drop i from rfl, cellsE_append, cellsE_append, List.append_assoc]]
  exact take_join (by simp only [List.length_append, cellsE_len, List.length_take, List.length_drop, List.length_cons, List.length_nil]; omega)
theorem del_cells {C C1 C2 : List Value} {xs : List EnL} {z0 z1 : Value} {i : Nat} (hC : C.take (xs.length * 2) = cellsE xs) (hlen : xs.length * 2 ≤ C.length) (hi : i < xs.length)
  (h1 : C1 = C.take (i * 2) ++ cellsE (xs.drop (i + 1)) ++ C.drop (i * 2 + (cellsE (xs.drop (i + 1))).length)) (h2 : C2 = C1.take ((xs.length - 1) * 2) ++ [z0, z1] ++ C1.drop ((xs.length - 1) * 2 + 2)) :
  C2.length = C.length ∧ C2.take ((xs.take i ++ xs.drop (i + 1)).length * 2) = cellsE (xs.take i ++ xs.drop (i + 1)) := by
 have hd : (cellsE (xs.drop (i + 1))).length = (xs.length - (i + 1)) * 2 := by rw [cellsE_len, List.length_drop]
 have hc1 : C1.length = C.length := by
  rw [h1]
  simp only [List.length_append, cellsE_len, List.length_take, List.length_drop]
  omega
 have e1 : C1.take ((xs.length - 1) * 2) = cellsE (xs.take i) ++ cellsE (xs.drop (i + 1)) := by
  rw [h1, head_cells hC (by omega)]
  exact take_join (by simp only [List.length_append, cellsE_len, List.length_take, List.length_drop]; omega)
 have hl : (xs.take i ++ xs.drop (i + 1)).length = xs.length - 1 := by simp; omega
 rw [h2, hl, cellsE_append, e1]
 refine ⟨?_, ?_⟩
 ·simp only [List.length_append, cellsE_len, List.length_take, List.length_drop, List.length_cons, List.length_nil, hc1]
  omega
 ·rw [List.append_assoc _ _ (C1.drop _)]
  exact take_join (by simp only [List.length_append, cellsE_len, List.length_take, List.length_drop]; omega)
theorem cellsE_set {xs : List EnL} : ∀ {i : Nat} (n : Int), i < xs.length → (cellsE xs).set (i * 2 + 1) (.int .i64 n) = cellsE (xs.set i ⟨⟨(xs.getD i noL).e.pl, n⟩, (xs.getD i noL).A, (xs.getD i noL).c⟩) := by
 induction xs with
 | nil => intro i n h; cases h
 | cons x r ih =>
  intro i n h
  cases i with
  | zero => simp [cellsE]
  | succ i =>
   rw [show (i + 1) * 2 + 1 = (i * 2 + 1) + 1 + 1 by omega]
   simp only [cellsE, List.set_cons_succ, List.getD_cons_succ]
   rw [ih n (by simpa using h)]
theorem RowE.setN {w : World} {g cap : Nat} {xs : List EnL} (h : RowE w g cap xs) {i : Nat} (hi : i < xs.length) (n : Int) : RowE (w.setCell ⟨g, i * 2 + 1, none⟩ (.int .i64 n)) g cap (xs.set i ⟨⟨(xs.getD i noL).e.pl, n⟩, (xs.getD i noL).A, (xs.getD i noL).c⟩) ∧ w.grownBy (w.setCell ⟨g, i * 2 + 1, none⟩ (.int .i64 n)) (some g) := by
 obtain ⟨⟨cur, h1, h2, h3⟩, h4, h5, h6⟩ := h
 rw [setCell_eq_setRow w g (i * 2 + 1) cur _ (0, 0) _ h1]
 refine ⟨?_, grown_setRow ..⟩
 refine ⟨⟨_, setRow_heap w g cur _ _ _ h1, by simpa using h2, ?_⟩, by simpa using h4, h5, fun y hy => ?_⟩
 ·rw [Array.toList_setIfInBounds, List.length_set, ← cellsE_set n hi, ← h3, List.take_set]
 ·refine PlTy.grown (g := g) ?_ h1 (grown_setRow ..)
  rcases List.mem_or_eq_of_mem_set hy with hy | rfl
  ·exact h6 y hy
  ·exact h6 (xs.getD i noL) (enl_mem hi)
theorem lE_append (a b : List EnL) : lE (a ++ b) = lE a ++ lE b := by simp [lE]
theorem lE_take (a : List EnL) (k : Nat) : lE (a.take k) = (lE a).take k := by simp [lE]
theorem lE_drop (a : List EnL) (k : Nat) : lE (a.drop k) = (lE a).drop k := by simp [lE]
theorem lE_ins (xs : List EnL) (x : EnL) (i : Nat) : lE (xs.take i ++ x :: xs.drop i) = (lE xs).take i ++ x.e :: (lE xs).drop i := by simp [lE]
theorem set_new {l : List En} {p : List Int} (h : hasE l p = false) (n : Int) : setL l p n = l.take (cntE l p) ++ ⟨p, n⟩ :: l.drop (cntE l p) := by unfold setL; rw [h]; rfl
theorem set_old {l : List En} {p : List Int} (h : hasE l p = true) (n : Int) : setL l p n = l.set (cntE l p) ⟨(l.getD (cntE l p) noEn).pl, n⟩ ∧ cntE l p < l.length ∧ (l.getD (cntE l p) noEn).pl = p := by
 have hi : cntE l p < l.length := by
  rcases Nat.lt_or_ge (cntE l p) l.length with h1 | h1
  ·exact h1
  ·rw [(has_out rfl h1).1] at h; cases h
 have h2 := has_cmp rfl hi
 rw [h] at h2
 have h3 : (l.getD (cntE l p) noEn).pl = p := by
  rcases cmpL_three (l.getD (cntE l p) noEn).pl p with ⟨e1, _⟩ | ⟨_, _, e3⟩ | ⟨e1, _⟩
  ·rw [e1] at h2; cases h2
  ·exact e3
  ·rw [e1] at h2; cases h2
 refine ⟨?_, hi, h3⟩
 unfold setL
 rw [h, h3, if_pos rfl, List.set_eq_take_append_cons_drop, if_pos hi]
theorem lE_set (xs : List EnL) (i : Nat) (y : EnL) : lE (xs.set i y) = (lE xs).set i y.e := by simp [lE, List.map_set]
end Go.Proofs.YtfngmnhkhfgmjacDoor
