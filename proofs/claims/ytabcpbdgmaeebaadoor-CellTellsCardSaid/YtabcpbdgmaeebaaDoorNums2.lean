/-
  Numerals once more: which rows of bytes are just what is written of a number, case by case as the document's own reading goes.
-/
import Derived.Test.YtabcpbdgmaeebaaDoorNums
namespace Go.Proofs.YtabcpbdgmaeebaaDoor
open Go.Lib

theorem ofNat_digit {b : UInt8} {d : Nat} (h : digitVal b = some d) : UInt8.ofNat (48 + d) = b := by
  have h1 := (digit_toNat h).1
  rw [← h1]
  exact UInt8.ofNat_toNat

theorem digits_rev (m : List UInt8) : ∀ u, (∀ a r, m.reverse = a :: r → a.toNat ≠ 48) → m.reverse ≠ [] → decFrom 0 m.reverse = some u → decDigits u = m.reverse ∧ 1 ≤ u := by
  induction m with
  | nil => intro u _ h; exact absurd rfl h
  | cons b m ih =>
    intro u hh _ hu
    rw [List.reverse_cons] at hu hh ⊢
    generalize m.reverse = l at hu hh ih ⊢
    rw [decFrom_append] at hu
    cases hl : decFrom 0 l with
    | none => rw [hl] at hu; cases hu
    | some v =>
      rw [hl] at hu
      simp only [Option.bind_some, decFrom] at hu
      cases hb : digitVal b with
      | none => rw [hb] at hu; cases hu
      | some d =>
        rw [hb] at hu
        simp only [Option.some.injEq] at hu
        obtain ⟨b1, b2⟩ := digit_toNat hb
        by_cases hn : l = []
        · subst hn
          simp only [decFrom, Option.some.injEq] at hl
          have h48 := hh b [] rfl
          subst hl
          have e : u = d := by omega
          subst e
          exact ⟨by rw [decDigits_one b2, ofNat_digit hb]; rfl, by omega⟩
        · obtain ⟨i1, i2⟩ := ih v (fun a r e => hh a (r ++ [b]) (by rw [e]; rfl)) hn hl
          have e1 : u / 10 = v := by omega
          have e2 : u % 10 = d := by omega
          exact ⟨by rw [decDigits, dif_neg (by omega), e1, e2, i1, ofNat_digit hb], by omega⟩

theorem digits_back (l : List UInt8) (u : Nat) (h1 : ∀ a r, l = a :: r → a.toNat ≠ 48) (h2 : l ≠ []) (h3 : decFrom 0 l = some u) : decDigits u = l ∧ 1 ≤ u := by
  have h := digits_rev l.reverse u
  rw [List.reverse_reverse] at h
  exact h h1 h2 h3

theorem numP_nil : numP [] = none := by decide
theorem u8_eq {a b : UInt8} (h : a.toNat = b.toNat) : a = b := UInt8.toNat_inj.mp h

theorem trim_keep (a : UInt8) (r : List UInt8) (h : a.toNat ≠ 45) : trimPrefix (a :: r) [45] = a :: r := by
  unfold trimPrefix
  rw [if_neg]
  unfold hasPrefix
  have hne : ¬ (45 : UInt8) = a := fun e => h (by rw [← e]; rfl)
  simp [hne]
theorem trim_less (r : List UInt8) : trimPrefix (45 :: r) [45] = r := by simp [trimPrefix, hasPrefix]

theorem atoi_plain (a : UInt8) (r : List UInt8) (h1 : a.toNat ≠ 45) (h2 : a.toNat ≠ 43) : atoi (a :: r) = (decFrom 0 (a :: r)).map fun (m : Nat) => (m : Int) := by
  have e1 : (a == 45) = false := by rw [beq_eq_false_iff_ne]; intro e; exact h1 (by rw [e]; rfl)
  have e2 : (a == 43) = false := by rw [beq_eq_false_iff_ne]; intro e; exact h2 (by rw [e]; rfl)
  simp only [atoi, e1, e2, Bool.false_eq_true, if_false, decNat, List.isEmpty_cons]
theorem atoi_less (r : List UInt8) (h : r ≠ []) : atoi (45 :: r) = (decFrom 0 r).map fun (m : Nat) => -(m : Int) := by
  unfold atoi decNat
  simp [h]

theorem numP_if (l : List UInt8) (h : (trimPrefix l [45]).length ≤ 15) (v : Int) (h1 : atoi l = some v) (h2 : itoa v = l) : numP l = some v := by
  unfold numP; rw [if_pos h, h1]; simp [h2]
theorem numP_long (l : List UInt8) (h : 15 < (trimPrefix l [45]).length) : numP l = none := by
  unfold numP; rw [if_neg (by omega)]
theorem numP_never (l : List UInt8) (h : ∀ v, itoa v ≠ l) : numP l = none := by
  cases e : numP l with
  | none => rfl
  | some v => exact absurd (numP_back e) (h v)
theorem numP_noatoi (l : List UInt8) (h : atoi l = none) : numP l = none := by
  unfold numP; split
  · rw [h]
  · rfl

theorem itoa_head (v : Int) : (∃ u r, v < 0 ∧ 1 ≤ u ∧ itoa v = 45 :: decDigits u ∧ decDigits u = r) ∨ (∃ u, itoa v = decDigits u) := by
  unfold itoa
  split
  · left; exact ⟨v.natAbs, _, by assumption, by omega, rfl, rfl⟩
  · right; exact ⟨v.toNat, rfl⟩

/-- A needless nought. -/
theorem numP_nought (a b : UInt8) (r : List UInt8) (h : a.toNat = 48) : numP (a :: b :: r) = none := by
  refine numP_never _ fun v hv => ?_
  rcases itoa_head v with ⟨u, r', _, _, e, _⟩ | ⟨u, e⟩
  · rw [e] at hv
    injection hv with h1 _
    rw [← h1] at h
    exact absurd h (by decide)
  · rw [e] at hv
    obtain ⟨d, r', e', hd, h1, h2⟩ := head_decDigits u
    rw [e'] at hv
    injection hv with h3 h4
    have h5 := ofNat_toNat_digit d hd
    rw [h3, h] at h5
    have hu : ¬ 1 ≤ u := fun hu => by have := h1 hu; omega
    have := h2 (by omega)
    rw [this] at h4
    cases h4
theorem numP_lessnought (a : UInt8) (r : List UInt8) (h : a.toNat = 48) : numP (45 :: a :: r) = none := by
  refine numP_never _ fun v hv => ?_
  rcases itoa_head v with ⟨u, r', _, hu, e, _⟩ | ⟨u, e⟩
  · rw [e] at hv
    injection hv with _ hv
    obtain ⟨d, r', e', hd, h1, _⟩ := head_decDigits u
    rw [e'] at hv
    injection hv with h3 _
    have h5 := ofNat_toNat_digit d hd
    rw [h3, h] at h5
    have := h1 hu
    omega
  · rw [e] at hv
    obtain ⟨d, r', e', hd, _, _⟩ := head_decDigits u
    rw [e'] at hv
    injection hv with h3 _
    have h5 := ofNat_toNat_digit d hd
    rw [h3] at h5
    have e45 : (45 : UInt8).toNat = 45 := rfl
    omega
theorem decFrom_head (a : UInt8) (r : List UInt8) (v : Nat) (h : decFrom 0 (a :: r) = some v) : 48 ≤ a.toNat ∧ a.toNat ≤ 57 := by
  obtain ⟨d, hd⟩ := digit_of_decFrom _ 0 v h 0 a rfl
  have := digit_toNat hd
  omega
theorem itoa_nat (u : Nat) : itoa (u : Int) = decDigits u := itoa_nonneg u

/-- One byte. -/
theorem numP_one (a : UInt8) : numP [a] = (decFrom 0 [a]).map fun (m : Nat) => (m : Int) := by
  by_cases h45 : a.toNat = 45
  · have e : a = 45 := u8_eq h45
    subst e
    decide
  · by_cases h43 : a.toNat = 43
    · have e : a = 43 := u8_eq h43
      subst e
      decide
    · cases hd : decFrom 0 [a] with
      | none => exact numP_noatoi _ (by rw [atoi_plain a [] h45 h43, hd]; rfl)
      | some v =>
        have hb : digitVal a = some v := by
          simp only [decFrom] at hd
          cases hb : digitVal a with
          | none => rw [hb] at hd; cases hd
          | some d => rw [hb] at hd; simp only [Option.some.injEq] at hd; congr 1; omega
        refine numP_if _ (by rw [trim_keep a [] h45]; simp) _ (by rw [atoi_plain a [] h45 h43, hd]; rfl) ?_
        rw [itoa_nat, decDigits_one (digit_toNat hb).2, ofNat_digit hb]
/-- Several, no less sign, no nought ahead. -/
theorem numP_more (a : UInt8) (r : List UInt8) (h : (a :: r).length ≤ 15) (h45 : a.toNat ≠ 45) (h48 : a.toNat ≠ 48) : numP (a :: r) = (decFrom 0 (a :: r)).map fun (m : Nat) => (m : Int) := by
  cases hd : decFrom 0 (a :: r) with
  | none =>
    by_cases h43 : a.toNat = 43
    · refine numP_never _ fun v hv => ?_
      rcases itoa_head v with ⟨u, r', _, _, e, _⟩ | ⟨u, e⟩
      · rw [e] at hv
        injection hv with h1 _
        rw [← h1] at h43
        exact absurd h43 (by decide)
      · rw [e] at hv
        obtain ⟨d, r', e', hd', _, _⟩ := head_decDigits u
        rw [e'] at hv
        injection hv with h3 _
        have h5 := ofNat_toNat_digit d hd'
        rw [h3] at h5
        omega
    · exact numP_noatoi _ (by rw [atoi_plain a r h45 h43, hd]; rfl)
  | some v =>
    have hh := decFrom_head a r v hd
    obtain ⟨i1, _⟩ := digits_back (a :: r) v (fun x y e => by injection e with e1 _; rw [← e1]; exact h48) (by simp) hd
    exact numP_if _ (by rw [trim_keep a r h45]; exact h) _ (by rw [atoi_plain a r h45 (by omega), hd]; rfl) (by rw [itoa_nat]; exact i1)
/-- Behind a less sign, no nought ahead. -/
theorem numP_less (a : UInt8) (r : List UInt8) (h : (a :: r).length ≤ 15) (h48 : a.toNat ≠ 48) : numP (45 :: a :: r) = (decFrom 0 (a :: r)).map fun (m : Nat) => -(m : Int) := by
  cases hd : decFrom 0 (a :: r) with
  | none => exact numP_noatoi _ (by rw [atoi_less _ (by simp), hd]; rfl)
  | some v =>
    obtain ⟨i1, i2⟩ := digits_back (a :: r) v (fun x y e => by injection e with e1 _; rw [← e1]; exact h48) (by simp) hd
    exact numP_if _ (by rw [trim_less]; exact h) _ (by rw [atoi_less _ (by simp), hd]; rfl) (by rw [itoa_neg v i2, i1])
end Go.Proofs.YtabcpbdgmaeebaaDoor
