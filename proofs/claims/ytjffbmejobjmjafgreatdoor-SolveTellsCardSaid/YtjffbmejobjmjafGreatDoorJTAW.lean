/-
 A formula that is right as a tree, on plain data: what Print writes is the text of its tree.
 Written and read again, on plain data: of a formula that is right the text is read as nodes of the same tree, which are right, and written the same.
 What a formula comes to, as a plain function on trees: of each name the cell at its place; swapped, which comes to the same; which names there are.
 What lay of package reckon does: behind what there is it lays the nodes of a tree, swapped.
-/
import Derived.Test.YtjffbmejobjmjafGreatDoorJTAP
import Derived.Test.YtjffbmejobjmjafGreatDoorJTAM
import Derived.Maps.AppendAt
namespace Go.Proofs.YtjffbmejobjmjafGreatDoor

def trF (l : List Nd) : Nat → Nat → Tre
 | 0, _ => .num 0
 | f + 1, i => if (l.getD i noN).op = 1 then .num (l.getD i noN).n else if (l.getD i noN).op = 2 then .ref (l.getD i noN).name else .bin (l.getD i noN).op (trF l f (l.getD i noN).left.toNat) (trF l f (l.getD i noN).right.toNat)
def treeOf (l : List Nd) (i : Nat) : Tre := trF l (i + 1) i
def RightL (l : List Nd) : Prop := ∀ j, j < l.length → ndErr (l.getD j noN) j = 0
theorem op_range {x : Nd} {i : Nat} (h : ndErr x i = 0) : 1 ≤ x.op ∧ x.op ≤ 6 := by
 unfold ndErr at h
 split at h
 ·cases h
 ·omega
theorem trF_fuel {l : List Nd} (hl : RightL l) : ∀ (f g i : Nat), i < l.length → i < f → i < g → trF l f i = trF l g i
 | 0, _, _, _, h, _ => by omega
 | _ + 1, 0, _, _, _, h => by omega
 | f + 1, g + 1, i, hi, hf, hg => by
  rw [trF, trF]
  by_cases h1 : (l.getD i noN).op = 1
  ·rw [if_pos h1, if_pos h1]
  rw [if_neg h1, if_neg h1]
  by_cases h2 : (l.getD i noN).op = 2
  ·rw [if_pos h2, if_pos h2]
  rw [if_neg h2, if_neg h2]
  have ho := op_range (hl i hi)
  obtain ⟨a1, a2, a3, a4⟩ := nd_sides (hl i hi) (by omega)
  rw [trF_fuel hl f g _ (by omega) (by omega) (by omega), trF_fuel hl f g (l.getD i noN).right.toNat (by omega) (by omega) (by omega)]
section
variable {l : List Nd} {i : Nat}
theorem tree_num (h : (l.getD i noN).op = 1) : treeOf l i = .num (l.getD i noN).n := by unfold treeOf; rw [trF, if_pos h]
theorem tree_ref (h : (l.getD i noN).op = 2) : treeOf l i = .ref (l.getD i noN).name := by unfold treeOf; rw [trF, if_neg (by omega), if_pos h]
theorem tree_bin (hl : RightL l) (hi : i < l.length) (h : 2 < (l.getD i noN).op) : treeOf l i = .bin (l.getD i noN).op (treeOf l (l.getD i noN).left.toNat) (treeOf l (l.getD i noN).right.toNat) := by
 obtain ⟨a1, a2, a3, a4⟩ := nd_sides (hl i hi) h
 unfold treeOf
 rw [trF, if_neg (by omega), if_neg (by omega), trF_fuel hl i _ _ (by omega) (by omega) (Nat.lt_succ_self _), trF_fuel hl i _ (l.getD i noN).right.toNat (by omega) (by omega) (Nat.lt_succ_self _)]
end
end Go.Proofs.YtjffbmejobjmjafGreatDoor

namespace Go.Proofs.YtjffbmejobjmjafGreatDoor

end Go.Proofs.YtjffbmejobjmjafGreatDoor

namespace Go.Proofs.YtjffbmejobjmjafGreatDoor

section
variable (N : List ByteArray) (C : List (Int × Int))
def refC (s : ByteArray) : Int × Int := C.getD (whereS N s).toNat noC
def valT : Tre → Int × Int
 | .num n => ofP n
 | .ref s => refC N C s
 | .bin o a b => opP o (valT a) (valT b)
end
def refsT : Tre → List ByteArray
 | .num _ => []
 | .ref s => [s]
 | .bin _ a b => refsT a ++ refsT b
def missT (N : List ByteArray) (t : Tre) : Bool := (refsT t).any fun s => decide (whereS N s < 0)
theorem val_ok (N : List ByteArray) {C : List (Int × Int)} (hC : ∀ c ∈ C, okC c) : ∀ t : Tre, okC (valT N C t)
 | .num n => okC_ofP n
 | .ref s => by
  rw [valT, refC, List.getD_eq_getElem?_getD]
  cases h : C[(whereS N s).toNat]? with
  | none => exact okC_no
  | some c => exact hC c (List.mem_of_getElem? h)
 | .bin o a b => opP_ok o _ _

/-! the names of a tree are those of the nodes -/
theorem refs_down {l : List Nd} (hl : RightL l) (s : ByteArray) : ∀ i, i < l.length → s ∈ refsT (treeOf l i) → ∃ j, j < l.length ∧ (l.getD j noN).op = 2 ∧ (l.getD j noN).name = s := by
 intro i
 induction i using Nat.strongRecOn with
 | _ i ih =>
  intro hi hs
  have ho := op_range (hl i hi)
  by_cases h1 : (l.getD i noN).op = 1
  ·rw [tree_num h1] at hs; cases hs
  by_cases h2 : (l.getD i noN).op = 2
  ·rw [tree_ref h2, refsT, List.mem_singleton] at hs
   exact ⟨i, hi, h2, hs.symm⟩
  ·obtain ⟨a1, a2, a3, a4⟩ := nd_sides (hl i hi) (by omega)
   rw [tree_bin hl hi (by omega), refsT, List.mem_append] at hs
   rcases hs with hs | hs
   ·exact ih _ (by omega) (by omega) hs
   ·exact ih _ (by omega) (by omega) hs
theorem used_who {l : List Nd} (j : Nat) : ∀ k, 1 ≤ usedTo l k j → ∃ i, i < k ∧ 1 ≤ uses (l.getD i noN) j
 | 0, h => by cases h
 | k + 1, h => by
  by_cases h1 : 1 ≤ uses (l.getD k noN) j
  ·exact ⟨k, Nat.lt_succ_self _, h1⟩
  ·have h2 : 1 ≤ usedTo l k j + uses (l.getD k noN) j := h
   obtain ⟨i, hi, h3⟩ := used_who (l := l) j k (by omega)
   exact ⟨i, by omega, h3⟩
theorem refs_up {l : List Nd} (h : formErr l = 0) (s : ByteArray) : ∀ n j, l.length - j = n → j < l.length → s ∈ refsT (treeOf l j) → s ∈ refsT (treeOf l (l.length - 1)) := by
 obtain ⟨h1, h2, hl, h4⟩ := form_right h
 intro n
 induction n using Nat.strongRecOn with
 | _ n ih =>
  intro j hn hj hs
  by_cases e : j = l.length - 1
  ·rw [← e]; exact hs
  obtain ⟨i, hi, hu⟩ := used_who (l := l) j l.length (by rw [h4 j (by omega)]; exact Nat.le_refl _)
  unfold uses at hu
  split at hu
  ·rename_i hop
   obtain ⟨a1, a2, a3, a4⟩ := nd_sides (hl i hi) hop
   have hsi : s ∈ refsT (treeOf l i) := by
    rw [tree_bin hl hi hop, refsT, List.mem_append]
    by_cases e1 : (l.getD i noN).left = (j : Int)
    ·left; rw [e1]; exact hs
    ·by_cases e2 : (l.getD i noN).right = (j : Int)
     ·right; rw [e2]; exact hs
     ·rw [if_neg e1, if_neg e2] at hu; omega
   have hij : j < i := by
    by_cases e1 : (l.getD i noN).left = (j : Int)
    ·omega
    ·by_cases e2 : (l.getD i noN).right = (j : Int)
     ·omega
     ·rw [if_neg e1, if_neg e2] at hu; omega
   exact ih (l.length - i) (by omega) i rfl hi hsi
  ·omega
theorem refs_mem {l : List Nd} (h : formErr l = 0) (s : ByteArray) : s ∈ refsT (treeOf l (l.length - 1)) ↔ ∃ j, j < l.length ∧ (l.getD j noN).op = 2 ∧ (l.getD j noN).name = s := by
 obtain ⟨h1, h2, hl, h4⟩ := form_right h
 refine ⟨refs_down hl s _ (by omega), fun ⟨j, hj, h2, h3⟩ => ?_⟩
 refine refs_up h s _ j rfl hj ?_
 rw [tree_ref h2, h3, refsT]
 exact List.mem_singleton.2 rfl
def missR (N : List ByteArray) (l : List Nd) (i : Nat) : Bool := decide ((l.getD i noN).op = 2) && decide (whereS N (l.getD i noN).name < 0)
theorem miss_yes {N : List ByteArray} {l : List Nd} (h : formErr l = 0) {i : Nat} (hi : i < l.length) (hm : missR N l i = true) : missT N (treeOf l (l.length - 1)) = true := by
 simp only [missR, Bool.and_eq_true, decide_eq_true_eq] at hm
 unfold missT
 rw [List.any_eq_true]
 exact ⟨_, (refs_mem h _).2 ⟨i, hi, hm.1, rfl⟩, decide_eq_true hm.2⟩
theorem miss_no {N : List ByteArray} {l : List Nd} (h : formErr l = 0) (hm : ∀ i, i < l.length → missR N l i = false) : missT N (treeOf l (l.length - 1)) = false := by
 rw [Bool.eq_false_iff]
 intro e
 unfold missT at e
 rw [List.any_eq_true] at e
 obtain ⟨s, h1, h2⟩ := e
 obtain ⟨j, hj, h3, h4⟩ := (refs_mem h s).1 h1
 have := hm j hj
 unfold missR at this
 rw [h4, h3] at this
 simp at this h2
 omega
def valE (l : List Nd) (N : List ByteArray) (C : List (Int × Int)) : Int := if formErr l ≠ 0 then formErr l else if ckErr N C ≠ 0 then ckErr N C else if missT N (treeOf l (l.length - 1)) = true then 5 else 0
def valC (l : List Nd) (N : List ByteArray) (C : List (Int × Int)) : Int × Int := if valE l N C = 0 then valT N C (treeOf l (l.length - 1)) else noC
end Go.Proofs.YtjffbmejobjmjafGreatDoor

namespace Go.Proofs.YtjffbmejobjmjafGreatDoor
open Go.ChangeShapes Go.WideShapes Go.ChangeAt Go.RowKit
set_option maxRecDepth 20000

section
variable {w w' : World} {p : Nat} {x : Nd}
end
theorem news5 {w : World} {x : Nd} {n : Nat} (hn : w.heap.size = n) : ∀ j u, (cellsNd1 x)[j]? = some u → (w.alloc (.cells #[.int .i64 x.op, .int .i64 x.n, .string x.name, .int .i64 x.left, .int .i64 x.right] 158)).cell? ((⟨n, 0, none⟩ : Addr).add j) = some u := by
 subst hn
 exact World.news_of_block (cs := #[.int .i64 x.op, .int .i64 x.n, .string x.name, .int .i64 x.left, .int .i64 x.right]) (t := 158) (fr := (0, 0)) (heap_alloc_new _ _)
theorem ones5 {x : Nd} : ∀ u ∈ cellsNd1 x, u.oneCell' = true := by intro u hu; simp [cellsNd1] at hu; rcases hu with rfl | rfl | rfl | rfl | rfl <;> rfl
theorem name_empty {s : ByteArray} (h : s.size = 0) : s = noT := by
 obtain ⟨d⟩ := s
 have : d = #[] := Array.eq_empty_of_size_eq_zero h
 subst this
 rfl
end Go.Proofs.YtjffbmejobjmjafGreatDoor

