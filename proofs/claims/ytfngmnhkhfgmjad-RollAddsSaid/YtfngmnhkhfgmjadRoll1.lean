/-
  All parts together, on plain data: how a place counts in another one, what comes of entries at a place, and that a number more is as much more.
-/
import Derived.Test.YtfngmnhkhfgmjadInp1
namespace Go.Proofs.Ytfngmnhkhfgmjad

/-- is a place part of another one, as far as k dims; how it counts there -/
def inTo (D : Nat → Dm) (p q : List Int) : Nat → Bool
  | 0 => true
  | k + 1 => inTo D p q k && inB (pathOf (D k).mem (q.getD k 0)) (p.getD k 0)
def pwTo (D : Nat → Dm) (p q : List Int) : Nat → Int
  | 0 => 1
  | k + 1 => pwTo D p q k * weightOf (D k).mem (p.getD k 0) (q.getD k 0)
theorem pwTo_out {D : Nat → Dm} {p q : List Int} {k : Nat} (h : inTo D p q k = false) : pwTo D p q k = 0 := by
  induction k with
  | zero => simp [inTo] at h
  | succ k ih =>
    simp only [inTo, Bool.and_eq_false_iff] at h
    rcases h with h | h
    · rw [pwTo, ih h, Int.zero_mul]
    · have h1 : p.getD k 0 ∉ pathOf (D k).mem (q.getD k 0) := by unfold inB at h; exact of_decide_eq_false h
      rw [pwTo, weightOf, wgt_out _ h1, Int.mul_zero]
theorem weight_small {D : Nat → Dm} {n : Nat} {q : List Int} (hq : InO D n q) {k : Nat} (hk : k < n) (i : Int) : -1 ≤ weightOf (D k).mem i (q.getD k 0) ∧ weightOf (D k).mem i (q.getD k 0) ≤ 1 := by
  have hd := (allErr_right hq.right).2 k hk
  have hlo := hq.lo k hk
  have hhi := hq.hi k hk
  have ht : Tr (D k).mem (D k).n := Tr.of hd
  refine wgt_small (Sg.of hd) i _ (fun j hj => ?_) 1 (by omega)
  have := pathOf_mem ht (D k).n (q.getD k 0) hhi hhi j hj
  omega
theorem pwTo_small {D : Nat → Dm} {n : Nat} {q : List Int} (hq : InO D n q) (p : List Int) : ∀ k, k ≤ n → -1 ≤ pwTo D p q k ∧ pwTo D p q k ≤ 1
  | 0, _ => by simp [pwTo]
  | k + 1, hk => by
    rw [pwTo]
    exact small_mul (pwTo_small hq p k (by omega)) (weight_small hq (by omega) _)

/-- does an entry count at a place, and how much -/
def cntR (D : Nat → Dm) (n : Nat) (p : List Int) (e : En) : Bool := inTo D p e.pl n && !(pwTo D p e.pl n == 0)
def valR (D : Nat → Dm) (n : Nat) (p : List Int) (e : En) : Int := pwTo D p e.pl n * e.n
def rollN (D : Nat → Dm) (n : Nat) (p : List Int) : List En → Int
  | [] => 0
  | e :: r => (if cntR D n p e = true then valR D n p e else 0) + rollN D n p r
def rollK (D : Nat → Dm) (n : Nat) (p : List Int) (l : List En) : Int := if l.any (cntR D n p) = true then 1 else 0
def rollV (D : Nat → Dm) (n : Nat) (l : List En) (p : List Int) : Int × Int := (rollK D n p l, rollN D n p l)
/-- as it is reckoned, entry by entry -/
def rollStep (D : Nat → Dm) (n : Nat) (p : List Int) (c : Int × Int) (e : En) : Int × Int := if cntR D n p e = true then (1, c.2 + valR D n p e) else c
theorem roll_steps (D : Nat → Dm) (n : Nat) (p : List Int) (l : List En) : ∀ c : Int × Int, l.foldl (rollStep D n p) c = (if l.any (cntR D n p) = true then 1 else c.1, c.2 + rollN D n p l) := by
  induction l with
  | nil => intro c; simp [rollN]
  | cons e r ih =>
    intro c
    rw [List.foldl_cons, ih, rollStep, rollN, List.any_cons]
    by_cases h : cntR D n p e = true
    · simp only [h, Bool.true_or, if_true]
      refine Prod.ext ?_ (by simp only; omega)
      simp only
      split <;> rfl
    · simp only [h, Bool.false_eq_true, if_false] at *
      simp
theorem roll_fold (D : Nat → Dm) (n : Nat) (l : List En) (p : List Int) : l.foldl (rollStep D n p) (0, 0) = rollV D n l p := by
  rw [roll_steps]
  unfold rollV rollK
  simp
theorem rollN_append (D : Nat → Dm) (n : Nat) (p : List Int) (a b : List En) : rollN D n p (a ++ b) = rollN D n p a + rollN D n p b := by
  induction a with
  | nil => simp [rollN]
  | cons e r ih => rw [List.cons_append, rollN, rollN, ih]; omega
/-- a number more, as much more -/
theorem roll_more {D : Nat → Dm} {n : Nat} {l : List En} {q : List Int} (h : hasE l q = false) (p : List Int) (x : Int) :
    (cntR D n p ⟨q, x⟩ = true → rollV D n (setL l q x) p = (1, (rollV D n l p).2 + pwTo D p q n * x)) ∧ (cntR D n p ⟨q, x⟩ = false → rollV D n (setL l q x) p = rollV D n l p) := by
  have e1 : setL l q x = l.take (cntE l q) ++ ⟨q, x⟩ :: l.drop (cntE l q) := by unfold setL; rw [h]; rfl
  have e2 : l = l.take (cntE l q) ++ l.drop (cntE l q) := (List.take_append_drop _ _).symm
  have n1 : rollN D n p (setL l q x) = rollN D n p l + (if cntR D n p ⟨q, x⟩ = true then valR D n p ⟨q, x⟩ else 0) := by
    rw [e1, rollN_append, rollN]
    conv => rhs; rw [e2, rollN_append]
    omega
  have k1 : (setL l q x).any (cntR D n p) = (l.any (cntR D n p) || cntR D n p ⟨q, x⟩) := by
    rw [e1, List.any_append, List.any_cons]
    conv => rhs; rw [e2, List.any_append]
    cases (l.take (cntE l q)).any (cntR D n p) <;> cases (l.drop (cntE l q)).any (cntR D n p) <;> cases cntR D n p ⟨q, x⟩ <;> rfl
  unfold rollV rollK
  refine ⟨fun hc => ?_, fun hc => ?_⟩
  · rw [n1, k1, hc]
    simp [valR]
  · rw [n1, k1, hc]
    simp
/-- what comes of entries that are right is bounded -/
theorem roll_bound {D : Nat → Dm} {n : Nat} (p : List Int) : ∀ l : List En, (∀ e ∈ l, InO D n e.pl ∧ leafV D n e.pl = true ∧ numOk e.n = true) → -1000000 * (l.length : Int) ≤ rollN D n p l ∧ rollN D n p l ≤ 1000000 * (l.length : Int)
  | [], _ => by simp [rollN]
  | e :: r, h => by
    obtain ⟨h1, -, h2⟩ := h e (List.mem_cons_self ..)
    have ih := roll_bound p r fun x hx => h x (List.mem_cons_of_mem _ hx)
    have hw := pwTo_small h1 p n (Nat.le_refl _)
    have hn : -1000000 ≤ e.n ∧ e.n ≤ 1000000 := by simpa [numOk] using h2
    have hv : -1000000 ≤ valR D n p e ∧ valR D n p e ≤ 1000000 := by
      unfold valR
      have h3 : pwTo D p e.pl n = -1 ∨ pwTo D p e.pl n = 0 ∨ pwTo D p e.pl n = 1 := by omega
      rcases h3 with h3 | h3 | h3 <;> rw [h3] <;> omega
    rw [rollN, List.length_cons]
    split <;> omega
end Go.Proofs.Ytfngmnhkhfgmjad
