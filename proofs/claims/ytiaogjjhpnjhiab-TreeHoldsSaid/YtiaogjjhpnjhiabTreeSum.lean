/-
  Part of part, on plain data: of a member that is no leaf the leafs are those of its parts, each in one; a part's path is the whole's, with itself ahead; a leaf counts in the whole as in the part, times the part's sign.
-/
import Derived.Test.YtiaogjjhpnjhiabTree1
namespace Go.Proofs.Ytiaogjjhpnjhiab

def sumTo (f : Nat → Nat) : Nat → Nat
  | 0 => 0
  | k + 1 => sumTo f k + f k
theorem sumTo_congr {f g : Nat → Nat} {n : Nat} (h : ∀ k, k < n → f k = g k) : sumTo f n = sumTo g n := by
  induction n with
  | zero => rfl
  | succ n ih => rw [sumTo, sumTo, ih fun k hk => h k (by omega), h n (by omega)]
theorem sumTo_add (f g : Nat → Nat) (n : Nat) : sumTo (fun k => f k + g k) n = sumTo f n + sumTo g n := by
  induction n with
  | zero => rfl
  | succ n ih => rw [sumTo, sumTo, sumTo, ih]; omega
theorem sumTo_zero {f : Nat → Nat} {n : Nat} (h : ∀ k, k < n → f k = 0) : sumTo f n = 0 := by
  induction n with
  | zero => rfl
  | succ n ih => rw [sumTo, ih fun k hk => h k (by omega), h n (by omega)]
theorem sumTo_swap (f : Nat → Nat → Nat) (m n : Nat) : sumTo (fun a => sumTo (f a) n) m = sumTo (fun b => sumTo (fun a => f a b) m) n := by
  induction m with
  | zero => exact (sumTo_zero (f := fun b => sumTo (fun a => f a b) 0) fun _ _ => rfl).symm
  | succ m ih => rw [sumTo, ih, ← sumTo_add]; rfl
theorem sumTo_single {f : Nat → Nat} {n k : Nat} (hk : k < n) (h : ∀ j, j < n → j ≠ k → f j = 0) : sumTo f n = f k := by
  induction n with
  | zero => omega
  | succ n ih =>
    rw [sumTo]
    by_cases e : k = n
    · subst e; rw [sumTo_zero fun j hj => h j (by omega) (by omega)]; omega
    · rw [ih (by omega) fun j hj => h j (by omega), h n (by omega) (fun x => e x.symm)]; rfl

def one (b : Bool) : Nat := if b = true then 1 else 0
theorem one_true : one true = 1 := rfl
theorem one_false : one false = 0 := rfl
theorem selTo_count (p : Nat → Bool) (n : Nat) : (selTo p n).length = sumTo (fun k => one (p k)) n := by
  induction n with
  | zero => rfl
  | succ n ih =>
    rw [sumTo, ← ih]
    cases hp : p n
    · rw [selTo_miss hp]; rfl
    · rw [selTo_hit hp, List.length_append]; rfl

/-- the sum of what is told of each of a row -/
def sumL (g : Int → Nat) : List Int → Nat
  | [] => 0
  | x :: t => g x + sumL g t
theorem sumL_append (g : Int → Nat) (a b : List Int) : sumL g (a ++ b) = sumL g a + sumL g b := by
  induction a with
  | nil => simp [sumL]
  | cons x t ih => rw [List.cons_append, sumL, sumL, ih]; omega
theorem sumL_sel (g : Int → Nat) (p : Nat → Bool) (n : Nat) : sumL g (selTo p n) = sumTo (fun k => one (p k) * g k) n := by
  induction n with
  | zero => rfl
  | succ n ih =>
    rw [sumTo, ← ih]
    cases hp : p n
    · rw [selTo_miss hp, one_false]; omega
    · rw [selTo_hit hp, sumL_append, one_true]; simp [sumL]

theorem inB_true {L : List Int} {i : Int} : inB L i = true ↔ i ∈ L := by simp [inB]
theorem inB_false {L : List Int} {i : Int} : inB L i = false ↔ i ∉ L := by simp [inB]

/-- of a member's path as many have i for a parent as i is in the path's tail: one, or none -/
theorem steps_one {M : Nat → Mem} {n : Nat} (ht : Tr M n) {i : Nat} (f : Nat) : ∀ k : Nat, k < n → k < f → sumTo (fun p => one (partB M i p && inB (pathOf M k) p)) n = one (inB (pathOf M k) i && !decide (k = i)) := by
  induction f with
  | zero => intro k _ h; omega
  | succ f ih =>
    intro k hk hf
    have hp := ht k hk
    have hc := pathOf_cons ht hk
    have hnk : ∀ j ∈ pathOf M (M k).parent, 0 ≤ j ∧ j ≤ (M k).parent := pathOf_mem ht k _ (by omega) (by omega)
    have e : ∀ p, p < n → one (partB M i p && inB (pathOf M k) p) = one (decide (p = k) && partB M i k) + one (partB M i p && inB (pathOf M (M k).parent) p) := by
      intro p _
      by_cases h : p = k
      · subst h
        have h1 : inB (pathOf M p) p = true := by rw [inB_true, hc]; exact List.mem_cons_self ..
        have h2 : inB (pathOf M (M p).parent) p = false := by rw [inB_false]; intro h; have := hnk _ h; omega
        rw [h1, h2]; simp [one_false]
      · have h1 : inB (pathOf M k) p = inB (pathOf M (M k).parent) p := by
          unfold inB; rw [decide_eq_decide, hc, List.mem_cons]
          constructor
          · rintro (h3 | h3)
            · omega
            · exact h3
          · exact Or.inr
        rw [h1]; simp [h, one_false]
    rw [sumTo_congr e, sumTo_add, sumTo_single (f := fun p => one (decide (p = k) && partB M i k)) hk (fun j _ hj => by simp [hj, one_false])]
    have hik : (inB (pathOf M k) i && !decide (k = i)) = inB (pathOf M (M k).parent) i := by
      by_cases h : k = i
      · subst h
        have h2 : inB (pathOf M (M k).parent) k = false := by rw [inB_false]; intro h; have := hnk _ h; omega
        rw [h2]; simp
      · have h1 : inB (pathOf M k) i = inB (pathOf M (M k).parent) i := by
          unfold inB; rw [decide_eq_decide, hc, List.mem_cons]
          constructor
          · rintro (h3 | h3)
            · omega
            · exact h3
          · exact Or.inr
        rw [h1]; simp [h]
    rw [hik]
    by_cases h0 : (M k).parent < 0
    · rw [pathOf_neg h0, sumTo_zero (fun p _ => by simp [inB, one])]
      have : partB M i k = false := by simp [partB]; omega
      simp [this, inB, one]
    · obtain ⟨q, hq⟩ : ∃ q : Nat, (M k).parent = q := ⟨(M k).parent.toNat, by omega⟩
      rw [hq, ih q (by omega) (by omega)]
      by_cases h : q = i
      · subst h
        have h1 : partB M q k = true := by simp [partB, hq]
        have h2 : inB (pathOf M q) q = true := by rw [inB_true, pathOf_cons ht (by omega)]; exact List.mem_cons_self ..
        rw [h1, h2]; simp [one]
      · have h1 : partB M i k = false := by simp [partB, hq]; omega
        rw [h1]; simp [h, one]

theorem leafs_sum {M : Nat → Mem} {n : Nat} (ht : Tr M n) {i : Nat} (hl : leafB M n i = false) : sumL (fun p => (leafsOf M n p).length) (partsOf M n i) = (leafsOf M n i).length := by
  unfold partsOf
  rw [sumL_sel]
  have e1 : ∀ p, p < n → one (partB M i p) * (leafsOf M n p).length = sumTo (fun k => one (leafB M n k) * one (partB M i p && inB (pathOf M k) p)) n := by
    intro p _
    unfold leafsOf
    rw [selTo_count]
    cases partB M i p
    · rw [one_false, Nat.zero_mul]; exact (sumTo_zero (fun k _ => by simp [one])).symm
    · rw [one_true, Nat.one_mul]
      refine sumTo_congr fun k _ => ?_
      unfold leafIn
      cases leafB M n k <;> simp [one]
  rw [sumTo_congr e1, sumTo_swap, leafsOf, selTo_count]
  refine sumTo_congr fun k hk => ?_
  have e2 : ∀ g : Nat → Nat, ∀ c m, sumTo (fun p => c * g p) m = c * sumTo g m := by
    intro g c m
    induction m with
    | zero => rfl
    | succ m ih => rw [sumTo, sumTo, ih, Nat.mul_add]
  rw [e2, steps_one ht (k + 1) k hk (by omega)]
  unfold leafIn
  by_cases h : k = i
  · subst h; rw [hl]; simp [one]
  · cases leafB M n k <;> simp [one, h]

theorem part_has {M : Nat → Mem} {n : Nat} (ht : Tr M n) {i : Nat} (f : Nat) : ∀ k : Nat, k < n → k < f → k ≠ i → (i : Int) ∈ pathOf M k → ∃ p, p < n ∧ partB M i p = true := by
  induction f with
  | zero => intro k _ h; omega
  | succ f ih =>
    intro k hk hf hne hm
    have hp := ht k hk
    rw [pathOf_cons ht hk, List.mem_cons] at hm
    rcases hm with hm | hm
    · omega
    · by_cases h0 : (M k).parent < 0
      · rw [pathOf_neg h0] at hm; cases hm
      · obtain ⟨q, hq⟩ : ∃ q : Nat, (M k).parent = q := ⟨(M k).parent.toNat, by omega⟩
        by_cases h : q = i
        · exact ⟨k, hk, by simp [partB, hq, h]⟩
        · rw [hq] at hm
          exact ih q (by omega) (by omega) h hm

theorem leaf_noparts {M : Nat → Mem} {n i : Nat} (hl : leafB M n i = true) : ∀ p, p < n → partB M i p = false := by
  unfold leafB at hl
  simp only [Bool.and_eq_true, Bool.not_eq_true', decide_eq_false_iff_not] at hl
  intro p hp
  cases h : partB M i p
  · rfl
  · exact absurd (findFrom_nonneg (q := partB M i) hp h) hl.2
theorem leaf_parts {M : Nat → Mem} {n i : Nat} (hl : leafB M n i = true) : partsOf M n i = [] := selTo_none (leaf_noparts hl)
theorem leaf_leafs {M : Nat → Mem} {n i : Nat} (ht : Tr M n) (hi : i < n) (hl : leafB M n i = true) : leafsOf M n i = [(i : Int)] := by
  refine selTo_one hi ?_ fun j hj hp => ?_
  · unfold leafIn; rw [hl, inB_true.2]; rfl
    rw [pathOf_cons ht hi]; exact List.mem_cons_self ..
  · unfold leafIn at hp
    simp only [Bool.and_eq_true, inB_true] at hp
    exact Decidable.byContradiction fun h => by
      obtain ⟨p, h1, h2⟩ := part_has ht (j + 1) j hj (by omega) h hp.2
      rw [leaf_noparts hl p h1] at h2; cases h2

theorem part_weight {M : Nat → Mem} {n : Nat} (ht : Tr M n) {p i : Nat} (hp : p < n) (hpi : (M p).parent = i) (f : Nat) : ∀ (l : Nat) (a : Int), l < n → l < f → (p : Int) ∈ pathOf M l → wgt M i (pathOf M l) a = wgt M p (pathOf M l) a * (M p).sign := by
  induction f with
  | zero => intro l _ _ h; omega
  | succ f ih =>
    intro l a hl hf hm
    have h1 := ht l hl
    have h2 := ht p hp
    rw [pathOf_cons ht hl] at hm ⊢
    by_cases h : l = p
    · subst h
      rw [wgt_hit, wgt_miss (by omega), hpi, pathOf_cons ht (by omega), wgt_hit]
      simp
    · rcases List.mem_cons.1 hm with hm | hm
      · omega
      · have h3 := pathOf_mem ht l (M l).parent (by omega) (by omega) _ hm
        rw [wgt_miss (by omega), wgt_miss (by omega)]
        obtain ⟨q, hq⟩ : ∃ q : Nat, (M l).parent = q := ⟨(M l).parent.toNat, by omega⟩
        rw [hq] at hm ⊢
        exact ih q _ (by omega) (by omega) hm
end Go.Proofs.Ytiaogjjhpnjhiab
