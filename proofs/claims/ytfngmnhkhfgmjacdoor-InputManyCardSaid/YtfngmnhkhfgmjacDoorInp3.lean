/-
  Places compared, entries found and entries checked, step by step as the program does it: on plain data.
-/
import Derived.Test.YtfngmnhkhfgmjacDoorInp2
namespace Go.Proofs.YtfngmnhkhfgmjacDoor

/-- two places compared: ahead, behind, the same -/
def cmpL : List Int → List Int → Int
  | [], [] => 0
  | [], _ :: _ => -1
  | _ :: _, [] => 1
  | a :: r, b :: t => if a < b then -1 else if b < a then 1 else cmpL r t
theorem cmpL_three : ∀ a b : List Int, (cmpL a b = -1 ∧ lessL a b = true ∧ a ≠ b) ∨ (cmpL a b = 0 ∧ lessL a b = false ∧ a = b) ∨ (cmpL a b = 1 ∧ lessL a b = false ∧ a ≠ b)
  | [], [] => Or.inr (Or.inl ⟨rfl, rfl, rfl⟩)
  | [], _ :: _ => Or.inl ⟨rfl, rfl, by simp⟩
  | _ :: _, [] => Or.inr (Or.inr ⟨rfl, rfl, by simp⟩)
  | a :: r, b :: t => by
    simp only [cmpL, lessL]
    by_cases h1 : a < b
    · rw [if_pos h1, if_neg (by omega)]
      exact Or.inl ⟨rfl, decide_eq_true h1, by simp; omega⟩
    · rw [if_neg h1]
      by_cases h2 : b < a
      · rw [if_pos h2, if_neg (by omega)]
        exact Or.inr (Or.inr ⟨rfl, decide_eq_false h1, by simp; omega⟩)
      · have h3 : a = b := by omega
        rw [if_neg h2, if_pos h3]
        subst h3
        rcases cmpL_three r t with ⟨e1, e2, e3⟩ | ⟨e1, e2, e3⟩ | ⟨e1, e2, e3⟩
        · exact Or.inl ⟨e1, e2, by simpa using e3⟩
        · exact Or.inr (Or.inl ⟨e1, e2, by rw [e3]⟩)
        · exact Or.inr (Or.inr ⟨e1, e2, by simpa using e3⟩)
theorem cmpL_neg (a b : List Int) : decide (cmpL a b < 0) = lessL a b := by
  rcases cmpL_three a b with ⟨e1, e2, _⟩ | ⟨e1, e2, _⟩ | ⟨e1, e2, _⟩ <;> rw [e1, e2] <;> rfl
theorem cmpL_nonneg (a b : List Int) : decide (0 ≤ cmpL a b) = !lessL a b := by
  rcases cmpL_three a b with ⟨e1, e2, _⟩ | ⟨e1, e2, _⟩ | ⟨e1, e2, _⟩ <;> rw [e1, e2] <;> rfl
theorem cmpL_small (a b : List Int) : -1 ≤ cmpL a b ∧ cmpL a b ≤ 1 := by
  rcases cmpL_three a b with ⟨e1, _⟩ | ⟨e1, _⟩ | ⟨e1, _⟩ <;> rw [e1] <;> omega
theorem dropI_at (l : List Int) {k : Nat} (h : k < l.length) : l.drop k = l.getD k 0 :: l.drop (k + 1) := by
  rw [List.drop_eq_getElem_cons h, List.getD_eq_getElem?_getD, List.getElem?_eq_getElem h]
  rfl
theorem cmpL_in {a b : List Int} {k : Nat} (h1 : k < a.length) (h2 : k < b.length) : cmpL (a.drop k) (b.drop k) = if a.getD k 0 < b.getD k 0 then -1 else if b.getD k 0 < a.getD k 0 then 1 else cmpL (a.drop (k + 1)) (b.drop (k + 1)) := by
  rw [dropI_at a h1, dropI_at b h2, cmpL]
theorem cmpL_long {a b : List Int} {k : Nat} (h1 : k < a.length) (h2 : b.length ≤ k) : cmpL (a.drop k) (b.drop k) = 1 := by
  rw [dropI_at a h1, List.drop_eq_nil_of_le h2]; rfl
theorem cmpL_short {a b : List Int} {k : Nat} (h1 : a.length ≤ k) (h2 : k < b.length) : cmpL (a.drop k) (b.drop k) = -1 := by
  rw [dropI_at b h2, List.drop_eq_nil_of_le h1]; rfl
theorem cmpL_end {a b : List Int} {k : Nat} (h1 : a.length ≤ k) (h2 : b.length ≤ k) : cmpL (a.drop k) (b.drop k) = 0 := by
  rw [List.drop_eq_nil_of_le h1, List.drop_eq_nil_of_le h2]; rfl
theorem lessL_in {a b : List Int} {k : Nat} (h1 : k < a.length) (h2 : k < b.length) : lessL (a.drop k) (b.drop k) = if a.getD k 0 = b.getD k 0 then lessL (a.drop (k + 1)) (b.drop (k + 1)) else decide (a.getD k 0 < b.getD k 0) := by
  rw [dropI_at a h1, dropI_at b h2, lessL]
theorem lessL_long {a b : List Int} {k : Nat} (h2 : b.length ≤ k) : lessL (a.drop k) (b.drop k) = false := by
  rw [List.drop_eq_nil_of_le h2]
  cases a.drop k <;> rfl
theorem lessL_short {a b : List Int} {k : Nat} (h1 : a.length ≤ k) (h2 : k < b.length) : lessL (a.drop k) (b.drop k) = true := by
  rw [dropI_at b h2, List.drop_eq_nil_of_le h1]; rfl

theorem drop_en (l : List En) {k : Nat} (h : k < l.length) : l.drop k = l.getD k noEn :: l.drop (k + 1) := by
  rw [List.drop_eq_getElem_cons h, List.getD_eq_getElem?_getD, List.getElem?_eq_getElem h]
  rfl
/-- how many stand ahead: all up to one that does not -/
theorem cnt_at : ∀ (l : List En) (p : List Int) (i : Nat), i ≤ l.length → (∀ t, t < i → lessL (l.getD t noEn).pl p = true) → (i < l.length → lessL (l.getD i noEn).pl p = false) → cntE l p = i
  | [], p, i, hi, _, _ => by simp at hi; subst hi; rfl
  | e :: r, p, 0, _, _, h2 => by
    have h3 := h2 (by simp)
    simp at h3
    simp [cntE, h3]
  | e :: r, p, i + 1, hi, h1, h2 => by
    have h3 := h1 0 (by omega)
    simp at h3
    have h4 := cnt_at r p i (by simpa using hi) (fun t ht => by simpa using h1 (t + 1) (by omega)) (fun ht => by simpa using h2 (by simpa using ht))
    unfold cntE at h4 ⊢
    rw [List.takeWhile_cons, if_pos h3, List.length_cons, h4]
theorem cnt_le (l : List En) (p : List Int) : cntE l p ≤ l.length := by
  unfold cntE
  exact (List.takeWhile_sublist _).length_le
theorem has_in {l : List En} {p : List Int} {i : Nat} (h : cntE l p = i) (hi : i < l.length) : hasE l p = !lessL p (l.getD i noEn).pl ∧ getE l p = if lessL p (l.getD i noEn).pl = true then (0, 0) else (1, (l.getD i noEn).n) := by
  have e : l.drop (cntE l p) = l.getD i noEn :: l.drop (i + 1) := by rw [h, drop_en l hi]
  unfold hasE getE
  rw [e]
  exact ⟨rfl, rfl⟩
theorem has_out {l : List En} {p : List Int} {i : Nat} (h : cntE l p = i) (hi : l.length ≤ i) : hasE l p = false ∧ getE l p = (0, 0) := by
  have e : l.drop (cntE l p) = [] := by rw [h, List.drop_eq_nil_of_le hi]
  unfold hasE getE
  rw [e]
  exact ⟨rfl, rfl⟩
theorem rise_at {l : List En} (h : l.Pairwise fun a b => lessL a.pl b.pl = true) {a b : Nat} (hab : a < b) (hb : b < l.length) : lessL (l.getD a noEn).pl (l.getD b noEn).pl = true := by
  have := List.pairwise_iff_getElem.1 h a b (by omega) hb hab
  rw [List.getD_eq_getElem?_getD, List.getD_eq_getElem?_getD, List.getElem?_eq_getElem hb, List.getElem?_eq_getElem (by omega : a < l.length)]
  exact this
theorem less_mono {l : List En} (h : l.Pairwise fun a b => lessL a.pl b.pl = true) {p : List Int} {a b : Nat} (hab : a ≤ b) (hb : b < l.length) (hl : lessL (l.getD b noEn).pl p = true) : lessL (l.getD a noEn).pl p = true := by
  rcases Nat.eq_or_lt_of_le hab with rfl | h1
  · exact hl
  · exact lessL_trans _ _ _ (rise_at h h1 hb) hl
theorem not_mono {l : List En} (h : l.Pairwise fun a b => lessL a.pl b.pl = true) {p : List Int} {a b : Nat} (hab : a ≤ b) (hb : b < l.length) (hl : lessL (l.getD a noEn).pl p = false) : lessL (l.getD b noEn).pl p = false := by
  cases h1 : lessL (l.getD b noEn).pl p with
  | false => rfl
  | true => rw [less_mono h hab hb h1] at hl; cases hl
/-- one is there just if the first that is not ahead is the same -/
theorem has_cmp {l : List En} {p : List Int} {i : Nat} (h : cntE l p = i) (hi : i < l.length) : decide (cmpL (l.getD i noEn).pl p = 0) = hasE l p := by
  have h1 : lessL (l.getD i noEn).pl p = false := by
    have e : l.dropWhile (fun e => lessL e.pl p) = l.getD i noEn :: l.drop (i + 1) := by rw [← drop_while]; show l.drop (cntE l p) = _; rw [h, drop_en l hi]
    exact head_while (q := fun e : En => lessL e.pl p) e
  rw [(has_in h hi).1]
  rcases cmpL_three (l.getD i noEn).pl p with ⟨_, e2, _⟩ | ⟨e1, _, e3⟩ | ⟨e1, _, e3⟩
  · rw [e2] at h1; cases h1
  · rw [e1, e3, lessL_self]; rfl
  · rw [e1]
    rcases lessL_total _ _ e3 with h2 | h2
    · rw [h2] at h1; cases h1
    · rw [h2]; rfl

/-- the place ahead of an entry -/
def qOf (l : List En) : Nat → Option (List Int)
  | 0 => none
  | k + 1 => some (l.getD k noEn).pl
theorem ent_step {D : Nat → Dm} {n : Nat} {l : List En} {k : Nat} (h : k < l.length) : entFrom D n (qOf l k) (l.drop k) = if entOne D n (l.getD k noEn) ≠ 0 then entOne D n (l.getD k noEn) else if aheadOk (qOf l k) (l.getD k noEn).pl = true then entFrom D n (qOf l (k + 1)) (l.drop (k + 1)) else 7 := by
  rw [drop_en l h, entFrom]
  rfl
theorem ent_bad {D : Nat → Dm} {n : Nat} {l : List En} {k : Nat} (h : k < l.length) (he : entOne D n (l.getD k noEn) ≠ 0) : entFrom D n (qOf l k) (l.drop k) = entOne D n (l.getD k noEn) := by rw [ent_step h, if_pos he]
theorem ent_clash {D : Nat → Dm} {n : Nat} {l : List En} {k : Nat} (h : k < l.length) (he : entOne D n (l.getD k noEn) = 0) (hq : aheadOk (qOf l k) (l.getD k noEn).pl = false) : entFrom D n (qOf l k) (l.drop k) = 7 := by rw [ent_step h, if_neg (by simpa using he), if_neg (by rw [hq]; decide)]
theorem ent_on {D : Nat → Dm} {n : Nat} {l : List En} {k : Nat} (h : k < l.length) (he : entOne D n (l.getD k noEn) = 0) (hq : aheadOk (qOf l k) (l.getD k noEn).pl = true) : entFrom D n (qOf l k) (l.drop k) = entFrom D n (qOf l (k + 1)) (l.drop (k + 1)) := by rw [ent_step h, if_neg (by simpa using he), if_pos hq]
theorem ent_end {D : Nat → Dm} {n : Nat} {l : List En} {k : Nat} (h : l.length ≤ k) : entFrom D n (qOf l k) (l.drop k) = 0 := by
  rw [List.drop_eq_nil_of_le h]
  cases qOf l k <;> rfl
theorem ents_bad {D : Nat → Dm} {n : Nat} (l : List En) (h : (allErr D n).2.2 ≠ 0) : entsErr D n l = (allErr D n).2.2 := by unfold entsErr; rw [if_pos h]
theorem ents_in {D : Nat → Dm} {n : Nat} (l : List En) (h : (allErr D n).2.2 = 0) : entsErr D n l = entFrom D n (qOf l 0) (l.drop 0) := by unfold entsErr; rw [if_neg (by simpa using h)]; rfl
theorem one_place {D : Nat → Dm} {n : Nat} {e : En} (hR : (allErr D n).2.2 = 0) (h : placeErr D n e.pl ≠ 0) : entOne D n e = placeErr D n e.pl := by
  rw [pe1 hR] at h ⊢
  unfold entOne
  rw [if_pos h]
theorem one_leaf {D : Nat → Dm} {n : Nat} {e : En} (hR : (allErr D n).2.2 = 0) (h : placeErr D n e.pl = 0) (hf : leafV D n e.pl = false) : entOne D n e = 6 := by
  rw [pe1 hR] at h
  unfold entOne
  rw [if_neg (by simpa using h), if_pos hf]
theorem one_num {D : Nat → Dm} {n : Nat} {e : En} (hR : (allErr D n).2.2 = 0) (h : placeErr D n e.pl = 0) (hf : leafV D n e.pl = true) : entOne D n e = if numOk e.n = false then 1 else 0 := by
  rw [pe1 hR] at h
  unfold entOne
  rw [if_neg (by simpa using h), if_neg (by simp [hf])]
end Go.Proofs.YtfngmnhkhfgmjacDoor
