/-
 What package tree tells, as plain functions on plain data: the path of a member, its parts, its leafs, how a leaf counts in a member, how long paths are; and small facts on them.
 What isLeaf and path of package tree answer, called in whatever memory: whether a member is a leaf; its path, in new memory.
 What path and places of package tree answer, called in whatever memory: a member's path; the places of those of whom a question is told yes: each a list in new memory.
 Who needs whom in the end, an order in which nobody stands before whom it needs, and lists that rise: plain data.
 Part of part, on plain data: of a member that is no leaf the leafs are those of its parts, each in one; a part's path is the whole's, with itself ahead; a leaf counts in the whole as in the part, times the part's sign.
-/
import Derived.Test.YtjffbmejobjmjafGreatDoorJBAC
import Derived.OwnWalk
namespace Go.Proofs.YtjffbmejobjmjafGreatDoor

def Tr (M : Nat → Mem) (n : Nat) : Prop := ∀ k, k < n → -1 ≤ (M k).parent ∧ (M k).parent < (k : Int)
def Sg (M : Nat → Mem) (n : Nat) : Prop := ∀ k, k < n → -1 ≤ (M k).sign ∧ (M k).sign ≤ 1

theorem memErr_tree {M : Nat → Mem} {i : Nat} (h : memErr M i = 0) : (-1 ≤ (M i).parent ∧ (M i).parent < (i : Int)) ∧ (-1 ≤ (M i).sign ∧ (M i).sign ≤ 1) ∧ (0 ≤ (M i).parent → (M (M i).parent.toNat).formula.size = 0) := by
 unfold memErr at h
 split at h
 ·simp at h
 ·split at h
  ·simp at h
  ·split at h
   ·simp at h
   ·split at h
    ·simp at h
    ·split at h
     ·simp at h
     ·rename_i h1 h2 h3 h4 h5
      refine ⟨by omega, by omega, fun h6 => ?_⟩
      exact Decidable.byContradiction fun h7 => h4 ⟨h6, h7⟩
theorem Tr.of {d : Dm} (h : (dimErr d).2 = 0) : Tr d.mem d.n := fun k hk => (memErr_tree ((dimErr_right h).2.2.2 k hk)).1
theorem Sg.of {d : Dm} (h : (dimErr d).2 = 0) : Sg d.mem d.n := fun k hk => (memErr_tree ((dimErr_right h).2.2.2 k hk)).2.1

def pth (M : Nat → Mem) : Nat → Int → List Int
 | 0, _ => []
 | f + 1, i => if i < 0 then [] else i :: pth M f (M i.toNat).parent
def pathOf (M : Nat → Mem) (i : Int) : List Int := pth M (i.toNat + 1) i

theorem pth_same {M : Nat → Mem} {n : Nat} (ht : Tr M n) (f : Nat) : ∀ (g : Nat) (i : Int), i < n → i < f → i < g → pth M f i = pth M g i := by
 induction f with
 | zero =>
  intro g i _ h2 _
  have : i < 0 := by omega
  cases g with
  | zero => rfl
  | succ g => simp [pth, this]
 | succ f ih =>
  intro g i h1 h2 h3
  cases g with
  | zero =>
   have : i < 0 := by omega
   simp [pth, this]
  | succ g =>
   by_cases h0 : i < 0
   ·simp [pth, h0]
   ·simp only [pth, if_neg h0]
    have := ht i.toNat (by omega)
    rw [ih g _ (by omega) (by omega) (by omega)]
theorem pathOf_neg {M : Nat → Mem} {i : Int} (h : i < 0) : pathOf M i = [] := by simp [pathOf, pth, h]
theorem pathOf_cons {M : Nat → Mem} {n : Nat} (ht : Tr M n) {i : Nat} (h : i < n) : pathOf M i = (i : Int) :: pathOf M (M i).parent := by
 have := ht i h
 unfold pathOf
 rw [show ((i : Int)).toNat = i by omega, pth, if_neg (by omega), show ((i : Int)).toNat = i by omega, pth_same ht i ((M i).parent.toNat + 1) _ (by omega) (by omega) (by omega)]
theorem pathOf_len {M : Nat → Mem} {n : Nat} (ht : Tr M n) (k : Nat) : ∀ i : Int, i < n → i < k → (pathOf M i).length ≤ k := by
 induction k with
 | zero => intro i _ h; rw [pathOf_neg (by omega)]; exact Nat.le_refl _
 | succ k ih =>
  intro i h1 h2
  by_cases h0 : i < 0
  ·rw [pathOf_neg h0]; exact Nat.zero_le _
  ·obtain ⟨j, rfl⟩ : ∃ j : Nat, i = j := ⟨i.toNat, by omega⟩
   have := ht j (by omega)
   rw [pathOf_cons ht (by omega), List.length_cons]
   have := ih (M j).parent (by omega) (by omega)
   omega
theorem pathOf_mem {M : Nat → Mem} {n : Nat} (ht : Tr M n) (k : Nat) : ∀ i : Int, i < n → i < k → ∀ j ∈ pathOf M i, 0 ≤ j ∧ j ≤ i := by
 induction k with
 | zero => intro i _ h j hj; rw [pathOf_neg (by omega)] at hj; cases hj
 | succ k ih =>
  intro i h1 h2 j hj
  by_cases h0 : i < 0
  ·rw [pathOf_neg h0] at hj; cases hj
  ·obtain ⟨q, rfl⟩ : ∃ q : Nat, i = q := ⟨i.toNat, by omega⟩
   have := ht q (by omega)
   rw [pathOf_cons ht (by omega), List.mem_cons] at hj
   rcases hj with rfl | hj
   ·omega
   ·have := ih (M q).parent (by omega) (by omega) j hj
    omega

def selTo (p : Nat → Bool) : Nat → List Int
 | 0 => []
 | k + 1 => selTo p k ++ (if p k = true then [(k : Int)] else [])
theorem selTo_hit {p : Nat → Bool} {k : Nat} (h : p k = true) : selTo p (k + 1) = selTo p k ++ [(k : Int)] := by simp [selTo, h]
theorem selTo_miss {p : Nat → Bool} {k : Nat} (h : p k = false) : selTo p (k + 1) = selTo p k := by simp [selTo, h]
theorem selTo_len (p : Nat → Bool) (k : Nat) : (selTo p k).length ≤ k := by
 induction k with
 | zero => exact Nat.le_refl _
 | succ k ih => rw [selTo, List.length_append]; split <;> simp <;> omega
theorem selTo_mem {p : Nat → Bool} {k : Nat} : ∀ j ∈ selTo p k, ∃ m : Nat, j = m ∧ m < k ∧ p m = true := by
 induction k with
 | zero => intro j hj; cases hj
 | succ k ih =>
  intro j hj
  rw [selTo, List.mem_append] at hj
  rcases hj with hj | hj
  ·obtain ⟨m, h1, h2, h3⟩ := ih j hj; exact ⟨m, h1, by omega, h3⟩
  ·split at hj
   ·rename_i hp; simp at hj; exact ⟨k, hj, by omega, hp⟩
   ·cases hj
theorem selTo_none {p : Nat → Bool} {k : Nat} (h : ∀ j, j < k → p j = false) : selTo p k = [] := by
 induction k with
 | zero => rfl
 | succ k ih => rw [selTo_miss (h k (by omega)), ih fun j hj => h j (by omega)]
def partB (M : Nat → Mem) (i : Int) (k : Nat) : Bool := (M k).parent == i
def leafB (M : Nat → Mem) (n k : Nat) : Bool := decide ((M k).formula.size = 0) && !decide (0 ≤ findFrom (partB M k) n 0)
def inB (L : List Int) (i : Int) : Bool := decide (i ∈ L)
def leafIn (M : Nat → Mem) (n : Nat) (i : Int) (k : Nat) : Bool := leafB M n k && inB (pathOf M k) i
def partsOf (M : Nat → Mem) (n : Nat) (i : Int) : List Int := selTo (partB M i) n
def leafsOf (M : Nat → Mem) (n : Nat) (i : Int) : List Int := selTo (leafIn M n i) n

theorem find_in (L : List Int) (i : Int) : decide (0 ≤ findFrom (fun j => L.getD j 0 == i) L.length 0) = inB L i := by
 unfold inB
 rw [decide_eq_decide]
 rcases findFrom_cases (fun j => L.getD j 0 == i) L.length 0 with ⟨h1, h2⟩ | ⟨k, h1, _, h3, h4, _⟩
 ·rw [h1]
  constructor
  ·intro h; omega
  ·intro h
   obtain ⟨j, hj, e⟩ := List.getElem_of_mem h
   have := h2 j (Nat.zero_le _) (by omega)
   simp [List.getD, List.getElem?_eq_getElem hj, e] at this
 ·rw [h1]
  constructor
  ·intro _
   have hk : k < L.length := by omega
   simp [List.getD, List.getElem?_eq_getElem hk] at h4
   rw [← h4]; exact List.getElem_mem hk
  ·intro _; omega

def wgt (M : Nat → Mem) (i : Int) : List Int → Int → Int
 | [], _ => 0
 | k :: t, a => if k = i then a else wgt M i t (a * (M k.toNat).sign)
def weightOf (M : Nat → Mem) (i j : Int) : Int := wgt M i (pathOf M j) 1
theorem wgt_hit {M : Nat → Mem} {i : Int} (t : List Int) (a : Int) : wgt M i (i :: t) a = a := by simp [wgt]
theorem wgt_miss {M : Nat → Mem} {i k : Int} (h : k ≠ i) (t : List Int) (a : Int) : wgt M i (k :: t) a = wgt M i t (a * (M k.toNat).sign) := by simp [wgt, h]
theorem wgt_out {M : Nat → Mem} {i : Int} (L : List Int) (h : i ∉ L) : ∀ a, wgt M i L a = 0 := by
 induction L with
 | nil => intro a; rfl
 | cons k t ih =>
  intro a
  simp only [List.mem_cons, not_or] at h
  rw [wgt_miss (fun e => h.1 e.symm)]
  exact ih h.2 _
theorem small_mul {a b : Int} (ha : -1 ≤ a ∧ a ≤ 1) (hb : -1 ≤ b ∧ b ≤ 1) : -1 ≤ a * b ∧ a * b ≤ 1 := by
 rcases (show a = -1 ∨ a = 0 ∨ a = 1 by omega) with rfl | rfl | rfl <;> simp <;> omega
theorem wgt_small {M : Nat → Mem} {n : Nat} (hs : Sg M n) (i : Int) (L : List Int) (hL : ∀ j ∈ L, 0 ≤ j ∧ j < n) : ∀ a, (-1 ≤ a ∧ a ≤ 1) → -1 ≤ wgt M i L a ∧ wgt M i L a ≤ 1 := by
 induction L with
 | nil => intro a _; simp [wgt]
 | cons k t ih =>
  intro a ha
  by_cases hk : k = i
  ·subst hk; rw [wgt_hit]; exact ha
  ·rw [wgt_miss hk]
   have := hL k (List.mem_cons_self ..)
   exact ih (fun j hj => hL j (List.mem_cons_of_mem _ hj)) _ (small_mul ha (hs k.toNat (by omega)))

def rangeErr (n : Nat) (L : List Int) : Int := if 0 ≤ findFrom (fun j => decide (L.getD j 0 < 0) || decide ((n : Int) ≤ L.getD j 0)) L.length 0 then 1 else 0
def treeErr (d : Dm) (L : List Int) : Int := if (dimErr d).2 ≠ 0 then (dimErr d).2 else rangeErr d.n L
theorem treeErr_dim {d : Dm} {L : List Int} (h : (dimErr d).2 ≠ 0) : treeErr d L = (dimErr d).2 := by unfold treeErr; rw [if_pos h]
theorem treeErr_one {d : Dm} {i : Int} (h : (dimErr d).2 = 0) : treeErr d [i] = if i < 0 ∨ (d.n : Int) ≤ i then 1 else 0 := by
 unfold treeErr rangeErr; rw [if_neg (by simpa using h)]
 by_cases h1 : i < 0 ∨ (d.n : Int) ≤ i
 ·rw [if_pos h1]; simp [findFrom, h1]
 ·rw [if_neg h1]; simp [findFrom, h1]
theorem treeErr_two {d : Dm} {i j : Int} (h : (dimErr d).2 = 0) : treeErr d [i, j] = if i < 0 ∨ (d.n : Int) ≤ i ∨ j < 0 ∨ (d.n : Int) ≤ j then 1 else 0 := by
 unfold treeErr rangeErr; rw [if_neg (by simpa using h)]
 by_cases h1 : i < 0 ∨ (d.n : Int) ≤ i
 ·have e : i < 0 ∨ (d.n : Int) ≤ i ∨ j < 0 ∨ (d.n : Int) ≤ j := by omega
  rw [if_pos e]; simp [findFrom, h1]
 ·by_cases h2 : j < 0 ∨ (d.n : Int) ≤ j
  ·have e : i < 0 ∨ (d.n : Int) ≤ i ∨ j < 0 ∨ (d.n : Int) ≤ j := by omega
   rw [if_pos e]; simp [findFrom, h1, h2]
  ·have e : ¬ (i < 0 ∨ (d.n : Int) ≤ i ∨ j < 0 ∨ (d.n : Int) ≤ j) := by omega
   rw [if_neg e]; simp [findFrom, h1, h2]
end Go.Proofs.YtjffbmejobjmjafGreatDoor

namespace Go.Proofs.YtjffbmejobjmjafGreatDoor
open Go.ChangeShapes Go.WideShapes Go.ChangeAt Go.RowKit
set_option maxRecDepth 20000

theorem isleaf1_in : EntersO 150 := fun args w => by simp [callFunc, Tryz.func150]; rfl
theorem isleaf1_any (m : Mem) (i : Int) (q : Nat) (w : World) (hq : q < w.heap.size) (h : w.cell? ⟨q, 0, none⟩ = some (.int .i64 i)) : Calls Tryz.prog 150 #[memV m, .pointer (some ⟨q, 0, none⟩)] w fun e w' => e = .returned (.bool (m.parent == i)) ∧ Below w.heap.size w w' := by
 unfold memV
 go_enter Tryz.func150, Tryz.ntmps150
 go_wp2_with fail
 go_ret
 exact ⟨by simp, by go_grown⟩

def ownInt (w : World) (i : Int) (T : Nat) : World := w.alloc (.cells #[.int .i64 i] T)
theorem ownInt_at (w : World) (i : Int) (T : Nat) : (ownInt w i T).cell? ⟨w.heap.size, 0, none⟩ = some (.int .i64 i) := by unfold ownInt; simp
theorem ownInt_size (w : World) (i : Int) (T : Nat) : (ownInt w i T).heap.size = w.heap.size + 1 := by unfold ownInt; simp
theorem ownInt_below (w : World) (i : Int) (T : Nat) : Below w.heap.size w (ownInt w i T) := by unfold ownInt; go_grown

theorem leafB_told {M : Nat → Mem} {n k : Nat} (h : (M k).formula.size ≠ 0) : leafB M n k = false := by simp [leafB, h]
theorem leafB_parts {M : Nat → Mem} {n k : Nat} (h : (M k).formula.size = 0) : leafB M n k = !decide (0 ≤ findFrom (partB M k) n 0) := by simp [leafB, h]

set_option maxHeartbeats 2000000 in
theorem isleaf_any (b o n cap i : Nat) (M : Nat → Mem) (w : World) (hn : n ≤ 12) (hi : i < n) (hM : MemsAt w b o n M) : Calls Tryz.prog 115 #[.slice (some ⟨b, o, none⟩) n cap, .int .i64 i] w fun e w' => e = .returned (.bool (leafB M n i)) ∧ Below w.heap.size w w' := by
 have hS := ownInt_size w i 3
 have hB0 := ownInt_below w i 3
 have hA := ownInt_at w i 3
 have hM0 := hM.later hB0
 have hcl := contains_mems 150 w.heap.size isleaf1_in b o n cap M (partB M i) (ownInt w i 3) hn hM0 (fun j w' _ hw' => isleaf1_any (M j) i w.heap.size w' (by have := hw'.size; omega) ((hw'.cell (p := ⟨w.heap.size, 0, none⟩) (by show w.heap.size < _; omega)).trans hA))
 have HB0 : Hid (Below w.heap.size w (ownInt w i 3)) := hB0
 obtain ⟨-, -, -, h3⟩ := hM.2 i hi
 have hbw := hM.1
 have hii : (i : Int) < (n : Int) := by omega
 have hn' : (n : Int) ≤ 12 := by omega
 clear hM hS hB0 hA hM0
 by_cases hf : (M i).formula.size = 0
 ·have hf' : (M i).formula.toList.isEmpty = true := by rw [empty_same]; simpa using hf
  have HR : Hid (leafB M n i = !decide (0 ≤ findFrom (partB M i) n 0)) := leafB_parts hf
  clear hf
  generalize decide (0 ≤ findFrom (partB M i) n 0) = f at hcl HR
  go_enter Tryz.func115, Tryz.ntmps115
  go_wp2_with fail
  refine hcl.mono ?_
  rintro e w1 ⟨rfl, hb1⟩
  go_wp2_with fail
  go_ret
  exact ⟨by rw [HR.out]; rfl, onB HB0.out hb1⟩
 ·have hf' : (M i).formula.toList.isEmpty = false := by rw [empty_same]; simpa using hf
  have HR : Hid (leafB M n i = false) := leafB_told hf
  clear hf hcl
  go_enter Tryz.func115, Tryz.ntmps115
  go_wp2_with fail
  go_ret
  exact ⟨by rw [HR.out]; rfl, by go_grown⟩
end Go.Proofs.YtjffbmejobjmjafGreatDoor

namespace Go.Proofs.YtjffbmejobjmjafGreatDoor
open Go.ChangeShapes Go.WideShapes Go.ChangeAt Go.RowKit
set_option maxRecDepth 20000

def IntsAt (w : World) (A : Option Addr) (cap : Nat) (L : List Int) : Prop := L.length ≤ cap ∧ (L = [] ∨ ∃ b, A = some ⟨b, 0, none⟩ ∧ b < w.heap.size ∧ ∀ j, j < L.length → w.cell? ⟨b, j, none⟩ = some (.int .i64 (L.getD j 0)))
theorem IntsAt.later {w w' : World} {A : Option Addr} {cap : Nat} {L : List Int} (h : IntsAt w A cap L) (hB : Below w.heap.size w w') : IntsAt w' A cap L := by
 obtain ⟨h1, h2 | ⟨b, h2, h3, h4⟩⟩ := h
 ·exact ⟨h1, Or.inl h2⟩
 ·exact ⟨h1, Or.inr ⟨b, h2, Nat.lt_of_lt_of_le h3 hB.size, fun j hj => (hB.cell (p := ⟨b, j, none⟩) h3).trans (h4 j hj)⟩⟩
theorem IntsAt.nil (w : World) (A : Option Addr) (cap : Nat) : IntsAt w A cap [] := ⟨Nat.zero_le _, Or.inl rfl⟩

def mapI (L : List Int) : List Value := L.map (Value.int .i64)
theorem mapI_snoc (L : List Int) (x : Int) : mapI (L ++ [x]) = mapI L ++ [Value.int .i64 x] := by simp [mapI]
theorem ints_of {w : World} {base e : Nat} {v : Value} {L : List Int} (h : w.ownsRow base e 1 v L.length (mapI L)) : ∃ A cap, v = .slice A L.length cap ∧ IntsAt w A cap L := by
 rcases h.2 with ⟨rfl, h0⟩ | ⟨g, cap, cur, rfl, hb, hg, hc, _, _, _⟩
 ·exact ⟨none, 0, by rw [h0], by omega, Or.inl (List.eq_nil_of_length_eq_zero h0)⟩
 ·refine ⟨_, cap, rfl, hc, Or.inr ⟨g, rfl, (Array.getElem?_eq_some_iff.1 hg).1, fun j hj => ?_⟩⟩
  have hx := h.cells (g := g) rfl j (.int .i64 (L.getD j 0)) (by simp [mapI, List.getD, List.getElem?_eq_getElem hj])
  have hadd : (⟨g, 0, none⟩ : Addr).add j = ⟨g, j, none⟩ := by unfold Addr.add; split <;> simp_all
  rw [hadd] at hx
  exact hx
theorem own_later {w w' : World} {base e size : Nat} {v : Value} {n : Nat} {xs : List Value} (h : w.ownsRow base e size v n xs) (hB : Below w.heap.size w w') : w'.ownsRow base e size v n xs := by
 refine ⟨h.1, ?_⟩
 rcases h.2 with h0 | ⟨g, cap, cur, rfl, hb, hg, h1⟩
 ·exact Or.inl h0
 ·exact Or.inr ⟨g, cap, cur, rfl, hb, (hB.block g (Array.getElem?_eq_some_iff.1 hg).1).trans hg, h1⟩
theorem grown_own {w wr w1 : World} {e size n : Nat} {v : Value} {xs : List Value} {o : Obj} (hB : Below w.heap.size w wr) (hown : wr.ownsRow w.heap.size e size v n xs) (hgrow : (wr.alloc o).grownBy w1 v.ownBlock) : Below w.heap.size w w1 :=
 (hB.alloc hB.size o).grown hgrow (by have := hB.size; simp; omega) (fun j hj => (hown.lt j hj).1)
theorem one_cell {wr : World} {x : Value} {T : Nat} : ∀ j u, [x][j]? = some u → (wr.alloc (.cells #[x] T)).cell? ((⟨wr.heap.size, 0, none⟩ : Addr).add j) = some u := by
 intro j u hj
 match j, hj with
 | 0, hj => simp at hj; subst hj; simp [Addr.add]
theorem one_one {x : Int} : ∀ u ∈ [Value.int .i64 x], u.oneCell' = true := by intro u hu; simp at hu; subst hu; rfl

theorem Tryz.infoInt : (Tryz.prog.info? 3).map (fun i => (i.zero, i.size, i.bytes)) = some (some (.int .i64 0), 1, 8) := by kernel_rfl

set_option maxHeartbeats 2000000 in
theorem path_any (b o n cap i : Nat) (M : Nat → Mem) (w : World) (hn : n ≤ 12) (hi : i < n) (ht : Tr M n) (hM : MemsAt w b o n M) : Calls Tryz.prog 148 #[.slice (some ⟨b, o, none⟩) n cap, .int .i64 i] w fun e w' => (∃ A c, e = .returned (.slice A (pathOf M i).length c) ∧ IntsAt w' A c (pathOf M i)) ∧ Below w.heap.size w w' := by
 obtain ⟨i0, hi0, hz0, hz1, hz2⟩ := info_parts Tryz.infoInt
 have HM : Hid (MemsAt w b o n M) := hM
 have HT : Hid (Tr M n) := ht
 have HL : Hid ((pathOf M i).length ≤ 12) := by have := pathOf_len ht n i (by omega) (by omega); show _ ≤ _; omega
 have hn' : (n : Int) ≤ 12 := by omega
 clear hM ht
 go_enter Tryz.func148, Tryz.ntmps148
 go_wp2_with fail
 go_loopg [1, 5] (i + 1) (fun g s1 s5 wr => ∃ (k : Int) (L : List Int), -1 ≤ k ∧ k < n ∧ g = (k + 1).toNat ∧ s1 = .int .i64 k ∧ L ++ pathOf M k = pathOf M i ∧ wr.ownsRow w.heap.size 3 1 s5 L.length (mapI L) ∧ Below w.heap.size w wr)
 case atStart => exact ⟨i, [], by omega, by omega, by omega, rfl, rfl, World.ownsRow_nil _ _ _ _, Below.refl _ _⟩
 case round =>
  obtain ⟨k, L, hk1, hk2, rfl, rfl, hf, hown, hBw⟩ := hrel
  have HF : Hid (L ++ pathOf M k = pathOf M i) := hf
  have HW : Hid (Below w.heap.size w wr) := hBw
  clear hf
  by_cases h0 : 0 ≤ k
  ·obtain ⟨m, rfl⟩ : ∃ m : Nat, k = m := ⟨k.toNat, by omega⟩
   have hmn : m < n := by omega
   have HC : Hid (pathOf M m = (m : Int) :: pathOf M (M m).parent) := pathOf_cons HT.out hmn
   have hlen : L.length + 1 ≤ 12 := by
    have h1 := HL.out
    rw [← HF.out, HC.out, List.length_append, List.length_cons] at h1
    omega
   have hsz := hBw.size
   have hp := HT.out m hmn
   clear hBw
   go_wp2_with (at_builtin; refine wpList_append_own _ rfl _ _ 27 rfl w.heap.size 3 i0 (.int .i64 0) 1 8 Tryz.underlying27 hi0 hz0 hz1 hz2 rfl (by decide) _ _ _ rfl (hown.alloc _) ⟨wr.heap.size, 0, none⟩ 1 1 [.int .i64 m] rfl rfl one_cell one_one (by unfold maxLen; omega) (by omega) (by simp; omega) ?_)
   intro v' w1 hown' hgrow _
   have HB1 : Hid (Below w.heap.size w w1) := grown_own HW.out hown hgrow
   have HO1 : Hid (w1.ownsRow w.heap.size 3 1 v' (L ++ [(m : Int)]).length (mapI (L ++ [(m : Int)]))) := by
    show World.ownsRow ..
    rw [mapI_snoc, List.length_append]; exact hown'
   obtain ⟨-, h1, -, -⟩ := (HM.out.later HB1.out).2 m hmn
   clear hown' hgrow hown
   go_wp2_with fail
   go_roundg ((M m).parent + 1).toNat
   case measure => omega
   case rel => exact ⟨(M m).parent, L ++ [(m : Int)], by omega, by omega, rfl, rfl, by rw [← HF.out, HC.out]; simp, HO1.out, HB1.out⟩
  ·have hk : k < 0 := by omega
   go_wp2_with fail
   go_ret
   have hL : L = pathOf M i := by rw [← HF.out, pathOf_neg hk]; simp
   rw [← hL]
   obtain ⟨A, c, h1, h2⟩ := ints_of hown
   exact ⟨⟨A, c, by rw [← h1]; rfl, h2⟩, HW.out⟩
end Go.Proofs.YtjffbmejobjmjafGreatDoor

namespace Go.Proofs.YtjffbmejobjmjafGreatDoor

def rowN (N : List (List Int)) (i : Int) : List Int := N.getD i.toNat []
def Inn (N : List (List Int)) : Prop := ∀ (i : Nat), i < N.length → ∀ x ∈ N.getD i [], 0 ≤ x ∧ x < (N.length : Int)
theorem Inn.at {N : List (List Int)} (h : Inn N) {a : Int} (h0 : 0 ≤ a) (h1 : a < (N.length : Int)) {x : Int} (hx : x ∈ rowN N a) : 0 ≤ x ∧ x < (N.length : Int) := h a.toNat (by omega) x hx
inductive Rch (N : List (List Int)) : Int → Int → Prop
 | one {a b : Int} : b ∈ rowN N a → Rch N a b
 | more {a b c : Int} : b ∈ rowN N a → Rch N b c → Rch N a c
theorem Rch.trans {N : List (List Int)} {a b c : Int} (h : Rch N a b) (k : Rch N b c) : Rch N a c := by
 induction h with
 | one h => exact .more h k
 | more h _ ih => exact .more h (ih k)
theorem Rch.snoc {N : List (List Int)} {a b c : Int} (h : Rch N a b) (k : c ∈ rowN N b) : Rch N a c := h.trans (.one k)
theorem Rch.inn {N : List (List Int)} (hN : Inn N) {a b : Int} (h : Rch N a b) : 0 ≤ a → a < (N.length : Int) → 0 ≤ b ∧ b < (N.length : Int) := by
 induction h with
 | one h => exact fun h0 h1 => hN.at h0 h1 h
 | more h _ ih => exact fun h0 h1 => let ⟨x, y⟩ := hN.at h0 h1 h; ih x y
theorem Rch.closed {N : List (List Int)} {S : Int → Prop} {a b : Int} (h : Rch N a b) : (∀ x ∈ rowN N a, S x) → (∀ x, S x → ∀ y ∈ rowN N x, S y) → S b := by
 induction h with
 | one h => exact fun h1 _ => h1 _ h
 | more h _ ih => exact fun h1 h2 => ih (fun x hx => h2 _ (h1 _ h) x hx) h2
noncomputable def cycB (N : List (List Int)) (i : Nat) : Bool := @decide (Rch N i i) (Classical.propDecidable _)
theorem cyc_iff {N : List (List Int)} {i : Nat} : cycB N i = true ↔ Rch N i i := by
 unfold cycB
 exact @decide_eq_true_iff _ (Classical.propDecidable _)
theorem cyc_not {N : List (List Int)} {i : Nat} : cycB N i = false ↔ ¬ Rch N i i := by
 rw [← cyc_iff]
 cases cycB N i <;> simp

theorem few (n : Nat) : ∀ (L : List Int), L.Nodup → (∀ x ∈ L, 0 ≤ x ∧ x < (n : Int)) → L.length ≤ n := by
 induction n with
 | zero =>
  intro L _ h
  cases L with
  | nil => exact Nat.le_refl _
  | cons x r => have := h x (by simp); omega
 | succ n ih =>
  intro L hL h
  have h1 := ih (L.erase (n : Int)) (hL.erase _) fun x hx => by
   have h2 := (hL.mem_erase_iff.1 hx)
   have := h x h2.2
   have := h2.1
   omega
  have h3 : L.length ≤ (L.erase (n : Int)).length + 1 := by
   by_cases hm : (n : Int) ∈ L
   ·rw [List.length_erase_of_mem hm]; omega
   ·rw [List.erase_of_not_mem hm]; omega
  omega

def okN (N : List (List Int)) (out : List Int) (i : Nat) : Bool := !(out.contains (i : Int)) && (N.getD i []).all fun x => out.contains x
def nextO (N : List (List Int)) (out : List Int) : Int := findFrom (okN N out) N.length 0
def ordTo (N : List (List Int)) : Nat → List Int
 | 0 => []
 | k + 1 => ordTo N k ++ (if 0 ≤ nextO N (ordTo N k) then [nextO N (ordTo N k)] else [])
theorem next_some {N : List (List Int)} {out : List Int} (h : 0 ≤ nextO N out) : ∃ k : Nat, nextO N out = (k : Int) ∧ k < N.length ∧ okN N out k = true ∧ ∀ j, j < k → okN N out j = false := by
 unfold nextO at *
 rcases findFrom_cases (okN N out) N.length 0 with ⟨h1, _⟩ | ⟨k, h1, _, h3, h4, h5⟩
 ·omega
 ·exact ⟨k, h1, by omega, h4, fun j hj => h5 j (Nat.zero_le _) hj⟩
theorem ok_out {N : List (List Int)} {out : List Int} {k : Nat} (h : okN N out k = true) : (k : Int) ∉ out ∧ ∀ x ∈ N.getD k [], x ∈ out := by
 unfold okN at h
 simp only [Bool.and_eq_true, Bool.not_eq_true', List.all_eq_true] at h
 refine ⟨fun hm => ?_, fun x hx => ?_⟩
 ·have := h.1
  rw [← Bool.not_eq_true, List.contains_iff_mem] at this
  exact this hm
 ·exact List.contains_iff_mem.1 (h.2 x hx)
theorem ok_of {N : List (List Int)} {out : List Int} {k : Nat} (h1 : (k : Int) ∉ out) (h2 : ∀ x ∈ N.getD k [], x ∈ out) : okN N out k = true := by
 unfold okN
 simp only [Bool.and_eq_true, Bool.not_eq_true', List.all_eq_true]
 refine ⟨?_, fun x hx => List.contains_iff_mem.2 (h2 x hx)⟩
 rw [← Bool.not_eq_true, List.contains_iff_mem]
 exact h1
theorem ord_in (N : List (List Int)) (k : Nat) : (ordTo N k).Nodup ∧ (∀ x ∈ ordTo N k, 0 ≤ x ∧ x < (N.length : Int)) := by
 induction k with
 | zero => exact ⟨List.nodup_nil, fun x hx => by cases hx⟩
 | succ k ih =>
  rw [ordTo]
  split
  ·rename_i h
   obtain ⟨m, h1, h2, h3, -⟩ := next_some h
   rw [h1]
   refine ⟨?_, fun x hx => ?_⟩
   ·rw [List.nodup_append]
    refine ⟨ih.1, by simp, fun a ha b hb => ?_⟩
    rw [List.mem_singleton.1 hb]
    intro e
    exact (ok_out h3).1 (e ▸ ha)
   ·rcases List.mem_append.1 hx with hx | hx
    ·exact ih.2 x hx
    ·rw [List.mem_singleton.1 hx]; omega
  ·rw [List.append_nil]; exact ih
theorem way {N : List (List Int)} {out : List Int} (hN : Inn N) (hno : ∀ i : Nat, i < N.length → okN N out i = false) {a : Nat} (ha : a < N.length) (hao : (a : Int) ∉ out) (k : Nat) :
  (∃ i : Nat, i < N.length ∧ Rch N i i) ∨ ∃ (P : List Int) (x : Int), x ∈ P ∧ P.length = k + 1 ∧ P.Nodup ∧ (∀ y ∈ P, 0 ≤ y ∧ y < (N.length : Int) ∧ y ∉ out) ∧ ∀ y ∈ P, y = x ∨ Rch N y x := by
 induction k with
 | zero => exact Or.inr ⟨[(a : Int)], a, by simp, rfl, by simp, fun y hy => by rw [List.mem_singleton.1 hy]; exact ⟨by omega, by omega, hao⟩, fun y hy => Or.inl (List.mem_singleton.1 hy)⟩
 | succ k ih =>
  rcases ih with h | ⟨P, x, hxP, hlen, hnd, hin, hto⟩
  ·exact Or.inl h
  ·obtain ⟨hx0, hx1, hx2⟩ := hin x hxP
   obtain ⟨m, rfl⟩ : ∃ m : Nat, x = m := ⟨x.toNat, by omega⟩
   have hmf := hno m (by omega)
   obtain ⟨y, hy, hyo⟩ : ∃ y ∈ N.getD m [], y ∉ out := by
    refine Classical.byContradiction fun hc => ?_
    rw [ok_of hx2 fun x hx => Classical.byContradiction fun h => hc ⟨x, hx, h⟩] at hmf
    cases hmf
   have hr : y ∈ rowN N (m : Int) := by unfold rowN; simpa using hy
   have hyi := hN.at hx0 hx1 hr
   by_cases hyP : y ∈ P
   ·refine Or.inl ⟨m, by omega, ?_⟩
    rcases hto y hyP with e | e
    ·exact .one (e ▸ hr)
    ·exact .more hr e
   ·refine Or.inr ⟨y :: P, y, by simp, by simp [hlen], List.nodup_cons.2 ⟨hyP, hnd⟩, fun z hz => ?_, fun z hz => ?_⟩
    ·rcases List.mem_cons.1 hz with rfl | hz
     ·exact ⟨hyi.1, hyi.2, hyo⟩
     ·exact hin z hz
    ·rcases List.mem_cons.1 hz with rfl | hz
     ·exact Or.inl rfl
     ·rcases hto z hz with e | e
      ·exact Or.inr (.one (e ▸ hr))
      ·exact Or.inr (e.snoc hr)
theorem next_there {N : List (List Int)} (hN : Inn N) (hc : ∀ i : Nat, i < N.length → cycB N i = false) {k : Nat} (hk : k < N.length) (hl : (ordTo N k).length = k) : 0 ≤ nextO N (ordTo N k) := by
 unfold nextO
 rcases findFrom_cases (okN N (ordTo N k)) N.length 0 with ⟨_, h2⟩ | ⟨m, h1, _⟩
 ·exfalso
  have hno : ∀ i : Nat, i < N.length → okN N (ordTo N k) i = false := fun i hi => h2 i (Nat.zero_le _) (by omega)
  obtain ⟨a, ha, hao⟩ : ∃ a : Nat, a < N.length ∧ (a : Int) ∉ ordTo N k := by
   refine Classical.byContradiction fun hn => ?_
   have hall : ∀ a : Nat, a < N.length → (a : Int) ∈ ordTo N k := fun a ha => Classical.byContradiction fun h => hn ⟨a, ha, h⟩
   have hmap : (List.range N.length).map (fun a : Nat => (a : Int)) ⊆ ordTo N k := fun x hx => by
    obtain ⟨a, ha, rfl⟩ := List.mem_map.1 hx
    exact hall a (List.mem_range.1 ha)
   have hlen : ∀ (X Y : List Int), X.Nodup → X ⊆ Y → X.length ≤ Y.length := by
    intro X
    induction X with
    | nil => intro Y _ _; exact Nat.zero_le _
    | cons x r ih =>
     intro Y hX hs
     have hx := List.nodup_cons.1 hX
     have hxY : x ∈ Y := hs (by simp)
     have := ih (Y.erase x) hx.2 fun z hz => (List.mem_erase_of_ne (fun e : z = x => hx.1 (by rw [← e]; exact hz))).2 (hs (List.mem_cons_of_mem _ hz))
     rw [List.length_erase_of_mem hxY] at this
     have := List.length_pos_of_mem hxY
     simp only [List.length_cons]
     omega
   have hrn : (List.range N.length).Pairwise (fun a b => a ≠ b) := List.nodup_range
   have := hlen _ _ (show List.Pairwise (fun a b => a ≠ b) _ from List.pairwise_map.2 (hrn.imp fun {a b : Nat} (h : a ≠ b) (e : (a : Int) = (b : Int)) => h (by omega))) hmap
   rw [List.length_map, List.length_range] at this
   omega
  rcases way hN hno ha hao N.length with ⟨i, hi, hr⟩ | ⟨P, x, _, hP, hnd, hin, _⟩
  ·exact (cyc_not.1 (hc i hi)) hr
  ·have := few N.length P hnd fun y hy => ⟨(hin y hy).1, (hin y hy).2.1⟩
   omega
 ·omega
theorem ord_len {N : List (List Int)} (hN : Inn N) (hc : ∀ i : Nat, i < N.length → cycB N i = false) (k : Nat) (hk : k ≤ N.length) : (ordTo N k).length = k := by
 induction k with
 | zero => rfl
 | succ k ih =>
  have h := ih (by omega)
  rw [ordTo, if_pos (next_there hN hc (by omega) h), List.length_append, h]
  rfl
theorem ord_snoc {N : List (List Int)} (hN : Inn N) (hc : ∀ i : Nat, i < N.length → cycB N i = false) {k : Nat} (hk : k < N.length) : ∃ m : Nat, nextO N (ordTo N k) = (m : Int) ∧ m < N.length ∧ okN N (ordTo N k) m = true ∧ (∀ j, j < m → okN N (ordTo N k) j = false) ∧ ordTo N (k + 1) = ordTo N k ++ [(m : Int)] := by
 have h := next_there hN hc hk (ord_len hN hc k (by omega))
 obtain ⟨m, h1, h2, h3, h4⟩ := next_some h
 exact ⟨m, h1, h2, h3, h4, by rw [ordTo, if_pos h, h1]⟩
theorem ord_take {N : List (List Int)} (hN : Inn N) (hc : ∀ i : Nat, i < N.length → cycB N i = false) {k : Nat} (n : Nat) (hk : k ≤ n) (hn : n ≤ N.length) : (ordTo N n).take k = ordTo N k := by
 induction n with
 | zero =>
  have : k = 0 := by omega
  subst this
  rfl
 | succ n ih =>
  by_cases e : k = n + 1
  ·subst e
   exact List.take_of_length_le (by rw [ord_len hN hc _ hn]; exact Nat.le_refl _)
  ·obtain ⟨m, _, _, _, _, h5⟩ := ord_snoc hN hc (k := n) (by omega)
   rw [h5, List.take_append_of_le_length (by rw [ord_len hN hc n (by omega)]; omega)]
   exact ih (by omega) (by omega)
theorem ord_at {N : List (List Int)} (hN : Inn N) (hc : ∀ i : Nat, i < N.length → cycB N i = false) {k : Nat} (hk : k < N.length) : ∃ m : Nat, (ordTo N N.length).getD k 0 = (m : Int) ∧ m < N.length ∧ (m : Int) ∉ (ordTo N N.length).take k ∧ (∀ x ∈ N.getD m [], x ∈ (ordTo N N.length).take k) ∧ (ordTo N N.length).take (k + 1) = (ordTo N N.length).take k ++ [(m : Int)] := by
 obtain ⟨m, _, h2, h3, _, h5⟩ := ord_snoc hN hc hk
 have e1 := ord_take hN hc (k := k) N.length (by omega) (Nat.le_refl _)
 have e2 := ord_take hN hc (k := k + 1) N.length (by omega) (Nat.le_refl _)
 refine ⟨m, ?_, h2, by rw [e1]; exact (ok_out h3).1, by rw [e1]; exact (ok_out h3).2, by rw [e1, e2, h5]⟩
 have hl := ord_len hN hc N.length (Nat.le_refl _)
 have : ((ordTo N N.length).take (k + 1)).getD k 0 = (m : Int) := by
  rw [e2, h5, List.getD_eq_getElem?_getD, List.getElem?_append_right (by rw [ord_len hN hc k (by omega)]; exact Nat.le_refl _), ord_len hN hc k (by omega)]
  simp
 rw [List.getD_eq_getElem?_getD, List.getElem?_take_of_lt (by omega)] at this
 rw [List.getD_eq_getElem?_getD]
 exact this

theorem rise_eq : ∀ (L K : List Int), L.Pairwise (· < ·) → K.Pairwise (· < ·) → (∀ x, x ∈ L ↔ x ∈ K) → L = K
 | [], [], _, _, _ => rfl
 | [], y :: K, _, _, h => by have := (h y).2 (by simp); cases this
 | x :: L, [], _, _, h => by have := (h x).1 (by simp); cases this
 | x :: L, y :: K, hL, hK, h => by
  have hL1 := List.pairwise_cons.1 hL
  have hK1 := List.pairwise_cons.1 hK
  have e : x = y := by
   rcases List.mem_cons.1 ((h x).1 (by simp)) with e | e
   ·exact e
   ·rcases List.mem_cons.1 ((h y).2 (by simp)) with e2 | e2
    ·exact e2.symm
    ·have := hL1.1 _ e2
     have := hK1.1 _ e
     omega
  subst e
  congr 1
  refine rise_eq L K hL1.2 hK1.2 fun z => ⟨fun hz => ?_, fun hz => ?_⟩
  ·rcases List.mem_cons.1 ((h z).1 (List.mem_cons_of_mem _ hz)) with e | e
   ·have := hL1.1 z hz; omega
   ·exact e
  ·rcases List.mem_cons.1 ((h z).2 (List.mem_cons_of_mem _ hz)) with e | e
   ·have := hK1.1 z hz; omega
   ·exact e
theorem sel_rise (p : Nat → Bool) (k : Nat) : (selTo p k).Pairwise (· < ·) := by
 induction k with
 | zero => exact List.Pairwise.nil
 | succ k ih =>
  rw [selTo, List.pairwise_append]
  refine ⟨ih, ?_, fun a ha b hb => ?_⟩
  ·split <;> simp
  ·obtain ⟨m, h1, h2, -⟩ := selTo_mem a ha
   split at hb
   ·rw [List.mem_singleton.1 hb]; omega
   ·cases hb
theorem sel_has {p : Nat → Bool} {k m : Nat} (h : m < k) (hp : p m = true) : (m : Int) ∈ selTo p k := by
 induction k with
 | zero => omega
 | succ k ih =>
  rw [selTo, List.mem_append]
  by_cases e : m = k
  ·subst e; exact Or.inr (by rw [if_pos hp]; simp)
  ·exact Or.inl (ih (by omega))
theorem selru_filter (p q : Nat → Bool) (f : Int → Bool) (k : Nat) (h : ∀ j, j < k → (q j = true ↔ p j = true ∧ f (j : Int) = true)) : (selTo p k).filter f = selTo q k := by
 induction k with
 | zero => rfl
 | succ k ih =>
  rw [selTo, selTo, List.filter_append, ih fun j hj => h j (by omega)]
  congr 1
  have hk := h k (by omega)
  by_cases h1 : p k = true
  ·by_cases h2 : f (k : Int) = true
   ·rw [if_pos h1, if_pos (hk.2 ⟨h1, h2⟩)]; simp [h2]
   ·rw [if_pos h1, if_neg fun e => h2 (hk.1 e).2]; simp [h2]
  ·rw [if_neg h1, if_neg fun e => h1 (hk.1 e).1]; rfl
theorem rise_nodup {L : List Int} (h : L.Pairwise (· < ·)) : L.Nodup := h.imp fun h e => by omega
end Go.Proofs.YtjffbmejobjmjafGreatDoor

namespace Go.Proofs.YtjffbmejobjmjafGreatDoor

def sumTo (f : Nat → Nat) : Nat → Nat
 | 0 => 0
 | k + 1 => sumTo f k + f k
theorem sumTo_congr {f g : Nat → Nat} {n : Nat} (h : ∀ k, k < n → f k = g k) : sumTo f n = sumTo g n := by
 induction n with
 | zero => rfl
 | succ n ih => rw [sumTo, sumTo, ih fun k hk => h k (by omega), h n (by omega)]
theorem sumTo_add (f g : Nat → Nat) (n : Nat) : sumTo (fun k => f k + g k) n = sumTo f n + sumTo g n := by
 induction n with
 | zero => rfl
 | succ n ih => rw [sumTo, sumTo, sumTo, ih]; omega
theorem sumTo_zero {f : Nat → Nat} {n : Nat} (h : ∀ k, k < n → f k = 0) : sumTo f n = 0 := by
 induction n with
 | zero => rfl
 | succ n ih => rw [sumTo, ih fun k hk => h k (by omega), h n (by omega)]
theorem sumTo_single {f : Nat → Nat} {n k : Nat} (hk : k < n) (h : ∀ j, j < n → j ≠ k → f j = 0) : sumTo f n = f k := by
 induction n with
 | zero => omega
 | succ n ih =>
  rw [sumTo]
  by_cases e : k = n
  ·subst e; rw [sumTo_zero fun j hj => h j (by omega) (by omega)]; omega
  ·rw [ih (by omega) fun j hj => h j (by omega), h n (by omega) (fun x => e x.symm)]; rfl

def one (b : Bool) : Nat := if b = true then 1 else 0
theorem one_false : one false = 0 := rfl
theorem inB_true {L : List Int} {i : Int} : inB L i = true ↔ i ∈ L := by simp [inB]
theorem inB_false {L : List Int} {i : Int} : inB L i = false ↔ i ∉ L := by simp [inB]

theorem steps_one {M : Nat → Mem} {n : Nat} (ht : Tr M n) {i : Nat} (f : Nat) : ∀ k : Nat, k < n → k < f → sumTo (fun p => one (partB M i p && inB (pathOf M k) p)) n = one (inB (pathOf M k) i && !decide (k = i)) := by
 induction f with
 | zero => intro k _ h; omega
 | succ f ih =>
  intro k hk hf
  have hp := ht k hk
  have hc := pathOf_cons ht hk
  have hnk : ∀ j ∈ pathOf M (M k).parent, 0 ≤ j ∧ j ≤ (M k).parent := pathOf_mem ht k _ (by omega) (by omega)
  have e : ∀ p, p < n → one (partB M i p && inB (pathOf M k) p) = one (decide (p = k) && partB M i k) + one (partB M i p && inB (pathOf M (M k).parent) p) := by
   intro p _
   by_cases h : p = k
   ·subst h
    have h1 : inB (pathOf M p) p = true := by rw [inB_true, hc]; exact List.mem_cons_self ..
    have h2 : inB (pathOf M (M p).parent) p = false := by rw [inB_false]; intro h; have := hnk _ h; omega
    rw [h1, h2]; simp [one_false]
   ·have h1 : inB (pathOf M k) p = inB (pathOf M (M k).parent) p := by
     unfold inB; rw [decide_eq_decide, hc, List.mem_cons]
     constructor
     ·rintro (h3 | h3)
      ·omega
      ·exact h3
     ·exact Or.inr
    rw [h1]; simp [h, one_false]
  rw [sumTo_congr e, sumTo_add, sumTo_single (f := fun p => one (decide (p = k) && partB M i k)) hk (fun j _ hj => by simp [hj, one_false])]
  have hik : (inB (pathOf M k) i && !decide (k = i)) = inB (pathOf M (M k).parent) i := by
   by_cases h : k = i
   ·subst h
    have h2 : inB (pathOf M (M k).parent) k = false := by rw [inB_false]; intro h; have := hnk _ h; omega
    rw [h2]; simp
   ·have h1 : inB (pathOf M k) i = inB (pathOf M (M k).parent) i := by
     unfold inB; rw [decide_eq_decide, hc, List.mem_cons]
     constructor
     ·rintro (h3 | h3)
      ·omega
      ·exact h3
     ·exact Or.inr
    rw [h1]; simp [h]
  rw [hik]
  by_cases h0 : (M k).parent < 0
  ·rw [pathOf_neg h0, sumTo_zero (fun p _ => by simp [inB, one])]
   have : partB M i k = false := by simp [partB]; omega
   simp [this, inB, one]
  ·obtain ⟨q, hq⟩ : ∃ q : Nat, (M k).parent = q := ⟨(M k).parent.toNat, by omega⟩
   rw [hq, ih q (by omega) (by omega)]
   by_cases h : q = i
   ·subst h
    have h1 : partB M q k = true := by simp [partB, hq]
    have h2 : inB (pathOf M q) q = true := by rw [inB_true, pathOf_cons ht (by omega)]; exact List.mem_cons_self ..
    rw [h1, h2]; simp [one]
   ·have h1 : partB M i k = false := by simp [partB, hq]; omega
    rw [h1]; simp [h, one]

theorem part_has {M : Nat → Mem} {n : Nat} (ht : Tr M n) {i : Nat} (f : Nat) : ∀ k : Nat, k < n → k < f → k ≠ i → (i : Int) ∈ pathOf M k → ∃ p, p < n ∧ partB M i p = true := by
 induction f with
 | zero => intro k _ h; omega
 | succ f ih =>
  intro k hk hf hne hm
  have hp := ht k hk
  rw [pathOf_cons ht hk, List.mem_cons] at hm
  rcases hm with hm | hm
  ·omega
  ·by_cases h0 : (M k).parent < 0
   ·rw [pathOf_neg h0] at hm; cases hm
   ·obtain ⟨q, hq⟩ : ∃ q : Nat, (M k).parent = q := ⟨(M k).parent.toNat, by omega⟩
    by_cases h : q = i
    ·exact ⟨k, hk, by simp [partB, hq, h]⟩
    ·rw [hq] at hm
     exact ih q (by omega) (by omega) h hm

theorem leaf_noparts {M : Nat → Mem} {n i : Nat} (hl : leafB M n i = true) : ∀ p, p < n → partB M i p = false := by
 unfold leafB at hl
 simp only [Bool.and_eq_true, Bool.not_eq_true', decide_eq_false_iff_not] at hl
 intro p hp
 cases h : partB M i p
 ·rfl
 ·exact absurd (findFrom_nonneg (q := partB M i) hp h) hl.2
theorem leaf_parts {M : Nat → Mem} {n i : Nat} (hl : leafB M n i = true) : partsOf M n i = [] := selTo_none (leaf_noparts hl)
theorem part_weight {M : Nat → Mem} {n : Nat} (ht : Tr M n) {p i : Nat} (hp : p < n) (hpi : (M p).parent = i) (f : Nat) : ∀ (l : Nat) (a : Int), l < n → l < f → (p : Int) ∈ pathOf M l → wgt M i (pathOf M l) a = wgt M p (pathOf M l) a * (M p).sign := by
 induction f with
 | zero => intro l _ _ h; omega
 | succ f ih =>
  intro l a hl hf hm
  have h1 := ht l hl
  have h2 := ht p hp
  rw [pathOf_cons ht hl] at hm ⊢
  by_cases h : l = p
  ·subst h
   rw [wgt_hit, wgt_miss (by omega), hpi, pathOf_cons ht (by omega), wgt_hit]
   simp
  ·rcases List.mem_cons.1 hm with hm | hm
   ·omega
   ·have h3 := pathOf_mem ht l (M l).parent (by omega) (by omega) _ hm
    rw [wgt_miss (by omega), wgt_miss (by omega)]
    obtain ⟨q, hq⟩ : ∃ q : Nat, (M l).parent = q := ⟨(M l).parent.toNat, by omega⟩
    rw [hq] at hm ⊢
    exact ih q _ (by omega) (by omega) hm
end Go.Proofs.YtjffbmejobjmjafGreatDoor

