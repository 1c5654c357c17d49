/-
  What package tree tells, as plain functions on plain data: the path of a member, its parts, its leafs, how a leaf counts in a member, how long paths are; and small facts on them.
-/
import Derived.Test.YtfngmnhkhfgmjacDoorOut6
namespace Go.Proofs.YtfngmnhkhfgmjacDoor

/-- of n members each stands behind its parent -/
def Tr (M : Nat → Mem) (n : Nat) : Prop := ∀ k, k < n → -1 ≤ (M k).parent ∧ (M k).parent < (k : Int)
def Sg (M : Nat → Mem) (n : Nat) : Prop := ∀ k, k < n → -1 ≤ (M k).sign ∧ (M k).sign ≤ 1

theorem memErr_tree {M : Nat → Mem} {i : Nat} (h : memErr M i = 0) : (-1 ≤ (M i).parent ∧ (M i).parent < (i : Int)) ∧ (-1 ≤ (M i).sign ∧ (M i).sign ≤ 1) ∧ (0 ≤ (M i).parent → (M (M i).parent.toNat).formula.size = 0) := by
  unfold memErr at h
  split at h
  · simp at h
  · split at h
    · simp at h
    · split at h
      · simp at h
      · split at h
        · simp at h
        · split at h
          · simp at h
          · rename_i h1 h2 h3 h4 h5
            refine ⟨by omega, by omega, fun h6 => ?_⟩
            exact Decidable.byContradiction fun h7 => h4 ⟨h6, h7⟩
theorem Tr.of {d : Dm} (h : (dimErr d).2 = 0) : Tr d.mem d.n := fun k hk => (memErr_tree ((dimErr_right h).2.2.2 k hk)).1
theorem Sg.of {d : Dm} (h : (dimErr d).2 = 0) : Sg d.mem d.n := fun k hk => (memErr_tree ((dimErr_right h).2.2.2 k hk)).2.1

def pth (M : Nat → Mem) : Nat → Int → List Int
  | 0, _ => []
  | f + 1, i => if i < 0 then [] else i :: pth M f (M i.toNat).parent
def pathOf (M : Nat → Mem) (i : Int) : List Int := pth M (i.toNat + 1) i

theorem pth_same {M : Nat → Mem} {n : Nat} (ht : Tr M n) (f : Nat) : ∀ (g : Nat) (i : Int), i < n → i < f → i < g → pth M f i = pth M g i := by
  induction f with
  | zero =>
    intro g i _ h2 _
    have : i < 0 := by omega
    cases g with
    | zero => rfl
    | succ g => simp [pth, this]
  | succ f ih =>
    intro g i h1 h2 h3
    cases g with
    | zero =>
      have : i < 0 := by omega
      simp [pth, this]
    | succ g =>
      by_cases h0 : i < 0
      · simp [pth, h0]
      · simp only [pth, if_neg h0]
        have := ht i.toNat (by omega)
        rw [ih g _ (by omega) (by omega) (by omega)]
theorem pathOf_neg {M : Nat → Mem} {i : Int} (h : i < 0) : pathOf M i = [] := by simp [pathOf, pth, h]
theorem pathOf_cons {M : Nat → Mem} {n : Nat} (ht : Tr M n) {i : Nat} (h : i < n) : pathOf M i = (i : Int) :: pathOf M (M i).parent := by
  have := ht i h
  unfold pathOf
  rw [show ((i : Int)).toNat = i by omega, pth, if_neg (by omega), show ((i : Int)).toNat = i by omega, pth_same ht i ((M i).parent.toNat + 1) _ (by omega) (by omega) (by omega)]
theorem pathOf_len {M : Nat → Mem} {n : Nat} (ht : Tr M n) (k : Nat) : ∀ i : Int, i < n → i < k → (pathOf M i).length ≤ k := by
  induction k with
  | zero => intro i _ h; rw [pathOf_neg (by omega)]; exact Nat.le_refl _
  | succ k ih =>
    intro i h1 h2
    by_cases h0 : i < 0
    · rw [pathOf_neg h0]; exact Nat.zero_le _
    · obtain ⟨j, rfl⟩ : ∃ j : Nat, i = j := ⟨i.toNat, by omega⟩
      have := ht j (by omega)
      rw [pathOf_cons ht (by omega), List.length_cons]
      have := ih (M j).parent (by omega) (by omega)
      omega
theorem pathOf_mem {M : Nat → Mem} {n : Nat} (ht : Tr M n) (k : Nat) : ∀ i : Int, i < n → i < k → ∀ j ∈ pathOf M i, 0 ≤ j ∧ j ≤ i := by
  induction k with
  | zero => intro i _ h j hj; rw [pathOf_neg (by omega)] at hj; cases hj
  | succ k ih =>
    intro i h1 h2 j hj
    by_cases h0 : i < 0
    · rw [pathOf_neg h0] at hj; cases hj
    · obtain ⟨q, rfl⟩ : ∃ q : Nat, i = q := ⟨i.toNat, by omega⟩
      have := ht q (by omega)
      rw [pathOf_cons ht (by omega), List.mem_cons] at hj
      rcases hj with rfl | hj
      · omega
      · have := ih (M q).parent (by omega) (by omega) j hj
        omega

/-- the places of those that are so, of the first of a row -/
def selTo (p : Nat → Bool) : Nat → List Int
  | 0 => []
  | k + 1 => selTo p k ++ (if p k = true then [(k : Int)] else [])
theorem selTo_hit {p : Nat → Bool} {k : Nat} (h : p k = true) : selTo p (k + 1) = selTo p k ++ [(k : Int)] := by simp [selTo, h]
theorem selTo_miss {p : Nat → Bool} {k : Nat} (h : p k = false) : selTo p (k + 1) = selTo p k := by simp [selTo, h]
theorem selTo_len (p : Nat → Bool) (k : Nat) : (selTo p k).length ≤ k := by
  induction k with
  | zero => exact Nat.le_refl _
  | succ k ih => rw [selTo, List.length_append]; split <;> simp <;> omega
theorem selTo_mem {p : Nat → Bool} {k : Nat} : ∀ j ∈ selTo p k, ∃ m : Nat, j = m ∧ m < k ∧ p m = true := by
  induction k with
  | zero => intro j hj; cases hj
  | succ k ih =>
    intro j hj
    rw [selTo, List.mem_append] at hj
    rcases hj with hj | hj
    · obtain ⟨m, h1, h2, h3⟩ := ih j hj; exact ⟨m, h1, by omega, h3⟩
    · split at hj
      · rename_i hp; simp at hj; exact ⟨k, hj, by omega, hp⟩
      · cases hj
theorem selTo_congr {p q : Nat → Bool} {k : Nat} (h : ∀ j, j < k → p j = q j) : selTo p k = selTo q k := by
  induction k with
  | zero => rfl
  | succ k ih => rw [selTo, selTo, ih fun j hj => h j (by omega), h k (by omega)]
theorem selTo_none {p : Nat → Bool} {k : Nat} (h : ∀ j, j < k → p j = false) : selTo p k = [] := by
  induction k with
  | zero => rfl
  | succ k ih => rw [selTo_miss (h k (by omega)), ih fun j hj => h j (by omega)]
theorem selTo_one {p : Nat → Bool} {k i : Nat} (hi : i < k) (hp : p i = true) (h : ∀ j, j < k → p j = true → j = i) : selTo p k = [(i : Int)] := by
  induction k with
  | zero => omega
  | succ k ih =>
    by_cases hk : k = i
    · subst hk
      rw [selTo_hit hp, selTo_none (fun j hj => Bool.eq_false_iff.2 fun hj' => by have := h j (by omega) hj'; omega)]; rfl
    · rw [selTo_miss (Bool.eq_false_iff.2 fun hj' => hk (h k (by omega) hj')), ih (by omega) (fun j hj => h j (by omega))]

def partB (M : Nat → Mem) (i : Int) (k : Nat) : Bool := (M k).parent == i
def leafB (M : Nat → Mem) (n k : Nat) : Bool := decide ((M k).formula.size = 0) && !decide (0 ≤ findFrom (partB M k) n 0)
def inB (L : List Int) (i : Int) : Bool := decide (i ∈ L)
def leafIn (M : Nat → Mem) (n : Nat) (i : Int) (k : Nat) : Bool := leafB M n k && inB (pathOf M k) i
def partsOf (M : Nat → Mem) (n : Nat) (i : Int) : List Int := selTo (partB M i) n
def leafsOf (M : Nat → Mem) (n : Nat) (i : Int) : List Int := selTo (leafIn M n i) n

/-- a row is asked for a number from its beginning on -/
theorem find_in (L : List Int) (i : Int) : decide (0 ≤ findFrom (fun j => L.getD j 0 == i) L.length 0) = inB L i := by
  unfold inB
  rw [decide_eq_decide]
  rcases findFrom_cases (fun j => L.getD j 0 == i) L.length 0 with ⟨h1, h2⟩ | ⟨k, h1, _, h3, h4, _⟩
  · rw [h1]
    constructor
    · intro h; omega
    · intro h
      obtain ⟨j, hj, e⟩ := List.getElem_of_mem h
      have := h2 j (Nat.zero_le _) (by omega)
      simp [List.getD, List.getElem?_eq_getElem hj, e] at this
  · rw [h1]
    constructor
    · intro _
      have hk : k < L.length := by omega
      simp [List.getD, List.getElem?_eq_getElem hk] at h4
      rw [← h4]; exact List.getElem_mem hk
    · intro _; omega

def wgt (M : Nat → Mem) (i : Int) : List Int → Int → Int
  | [], _ => 0
  | k :: t, a => if k = i then a else wgt M i t (a * (M k.toNat).sign)
def weightOf (M : Nat → Mem) (i j : Int) : Int := wgt M i (pathOf M j) 1
theorem wgt_hit {M : Nat → Mem} {i : Int} (t : List Int) (a : Int) : wgt M i (i :: t) a = a := by simp [wgt]
theorem wgt_miss {M : Nat → Mem} {i k : Int} (h : k ≠ i) (t : List Int) (a : Int) : wgt M i (k :: t) a = wgt M i t (a * (M k.toNat).sign) := by simp [wgt, h]
theorem wgt_out {M : Nat → Mem} {i : Int} (L : List Int) (h : i ∉ L) : ∀ a, wgt M i L a = 0 := by
  induction L with
  | nil => intro a; rfl
  | cons k t ih =>
    intro a
    simp only [List.mem_cons, not_or] at h
    rw [wgt_miss (fun e => h.1 e.symm)]
    exact ih h.2 _
theorem small_mul {a b : Int} (ha : -1 ≤ a ∧ a ≤ 1) (hb : -1 ≤ b ∧ b ≤ 1) : -1 ≤ a * b ∧ a * b ≤ 1 := by
  rcases (show a = -1 ∨ a = 0 ∨ a = 1 by omega) with rfl | rfl | rfl <;> simp <;> omega
theorem wgt_small {M : Nat → Mem} {n : Nat} (hs : Sg M n) (i : Int) (L : List Int) (hL : ∀ j ∈ L, 0 ≤ j ∧ j < n) : ∀ a, (-1 ≤ a ∧ a ≤ 1) → -1 ≤ wgt M i L a ∧ wgt M i L a ≤ 1 := by
  induction L with
  | nil => intro a _; simp [wgt]
  | cons k t ih =>
    intro a ha
    by_cases hk : k = i
    · subst hk; rw [wgt_hit]; exact ha
    · rw [wgt_miss hk]
      have := hL k (List.mem_cons_self ..)
      exact ih (fun j hj => hL j (List.mem_cons_of_mem _ hj)) _ (small_mul ha (hs k.toNat (by omega)))

def depTo (M : Nat → Mem) : Nat → Nat
  | 0 => 0
  | k + 1 => max (depTo M k) (pathOf M k).length
theorem depTo_le {M : Nat → Mem} {n : Nat} (ht : Tr M n) (k : Nat) (hk : k ≤ n) : depTo M k ≤ k := by
  induction k with
  | zero => exact Nat.le_refl _
  | succ k ih =>
    have := pathOf_len ht (k + 1) k (by omega) (by omega)
    have := ih (by omega)
    rw [depTo]
    omega

def rangeErr (n : Nat) (L : List Int) : Int := if 0 ≤ findFrom (fun j => decide (L.getD j 0 < 0) || decide ((n : Int) ≤ L.getD j 0)) L.length 0 then 1 else 0
def treeErr (d : Dm) (L : List Int) : Int := if (dimErr d).2 ≠ 0 then (dimErr d).2 else rangeErr d.n L
theorem treeErr_dim {d : Dm} {L : List Int} (h : (dimErr d).2 ≠ 0) : treeErr d L = (dimErr d).2 := by unfold treeErr; rw [if_pos h]
theorem treeErr_none {d : Dm} (h : (dimErr d).2 = 0) : treeErr d [] = 0 := by unfold treeErr; rw [if_neg (by simpa using h)]; rfl
theorem treeErr_one {d : Dm} {i : Int} (h : (dimErr d).2 = 0) : treeErr d [i] = if i < 0 ∨ (d.n : Int) ≤ i then 1 else 0 := by
  unfold treeErr rangeErr; rw [if_neg (by simpa using h)]
  by_cases h1 : i < 0 ∨ (d.n : Int) ≤ i
  · rw [if_pos h1]; simp [findFrom, h1]
  · rw [if_neg h1]; simp [findFrom, h1]
theorem treeErr_two {d : Dm} {i j : Int} (h : (dimErr d).2 = 0) : treeErr d [i, j] = if i < 0 ∨ (d.n : Int) ≤ i ∨ j < 0 ∨ (d.n : Int) ≤ j then 1 else 0 := by
  unfold treeErr rangeErr; rw [if_neg (by simpa using h)]
  by_cases h1 : i < 0 ∨ (d.n : Int) ≤ i
  · have e : i < 0 ∨ (d.n : Int) ≤ i ∨ j < 0 ∨ (d.n : Int) ≤ j := by omega
    rw [if_pos e]; simp [findFrom, h1]
  · by_cases h2 : j < 0 ∨ (d.n : Int) ≤ j
    · have e : i < 0 ∨ (d.n : Int) ≤ i ∨ j < 0 ∨ (d.n : Int) ≤ j := by omega
      rw [if_pos e]; simp [findFrom, h1, h2]
    · have e : ¬ (i < 0 ∨ (d.n : Int) ≤ i ∨ j < 0 ∨ (d.n : Int) ≤ j) := by omega
      rw [if_neg e]; simp [findFrom, h1, h2]
end Go.Proofs.YtfngmnhkhfgmjacDoor
