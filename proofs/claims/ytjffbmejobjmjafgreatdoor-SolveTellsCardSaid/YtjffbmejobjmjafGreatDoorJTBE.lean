/-
 Numbers put into a list that rises, one by one: plain data.
-/
import Derived.Test.YtjffbmejobjmjafGreatDoorJTAV
import Derived.Test.YtjffbmejobjmjafGreatDoorJTBD
namespace Go.Proofs.YtjffbmejobjmjafGreatDoor

theorem put_mem (L : List Int) (n x : Int) : x ∈ putL L n ↔ x ∈ L ∨ x = n := by
 induction L with
 | nil => simp [putL]
 | cons y r ih =>
  unfold putL
  split
  ·rw [List.mem_cons, ih, List.mem_cons, or_assoc]
  ·split
   ·rename_i _ h
    constructor
    ·exact Or.inl
    ·rintro (h' | h')
     ·exact h'
     ·rw [h', ← h]; simp
   ·rw [List.mem_cons]
    exact or_comm
theorem put_rise (L : List Int) (n : Int) (h : L.Pairwise (· < ·)) : (putL L n).Pairwise (· < ·) := by
 induction L with
 | nil => simp [putL]
 | cons y r ih =>
  have h1 := List.pairwise_cons.1 h
  unfold putL
  split
  ·refine List.pairwise_cons.2 ⟨fun z hz => ?_, ih h1.2⟩
   rcases (put_mem r n z).1 hz with e | e
   ·exact h1.1 z e
   ·omega
  ·split
   ·exact h
   ·refine List.pairwise_cons.2 ⟨fun z hz => ?_, h⟩
    rcases List.mem_cons.1 hz with e | e
    ·omega
    ·have := h1.1 z e; omega
def putsL (d : Dm) : List Nd → List Int → List Int
 | [], L => L
 | x :: r, L => putsL d r (if x.op = 2 then putL L (whL d x.name.data.toList) else L)
theorem puts_rise (d : Dm) : ∀ (l : List Nd) (L : List Int), L.Pairwise (· < ·) → (putsL d l L).Pairwise (· < ·)
 | [], _, h => h
 | x :: r, L, h => by
  unfold putsL
  refine puts_rise d r _ ?_
  split
  ·exact put_rise _ _ h
  ·exact h
theorem puts_mem (d : Dm) : ∀ (l : List Nd) (L : List Int) (z : Int), z ∈ putsL d l L ↔ z ∈ L ∨ ∃ x ∈ l, x.op = 2 ∧ z = whL d x.name.data.toList
 | [], L, z => by simp [putsL]
 | x :: r, L, z => by
  unfold putsL
  rw [puts_mem d r]
  by_cases h : x.op = 2
  ·rw [if_pos h, put_mem]
   constructor
   ·rintro ((h1 | h1) | ⟨y, hy, h1⟩)
    ·exact Or.inl h1
    ·exact Or.inr ⟨x, by simp, h, h1⟩
    ·exact Or.inr ⟨y, List.mem_cons_of_mem _ hy, h1⟩
   ·rintro (h1 | ⟨y, hy, h1, h2⟩)
    ·exact Or.inl (Or.inl h1)
    ·rcases List.mem_cons.1 hy with rfl | hy
     ·exact Or.inl (Or.inr h2)
     ·exact Or.inr ⟨y, hy, h1, h2⟩
  ·rw [if_neg h]
   constructor
   ·rintro (h1 | ⟨y, hy, h1⟩)
    ·exact Or.inl h1
    ·exact Or.inr ⟨y, List.mem_cons_of_mem _ hy, h1⟩
   ·rintro (h1 | ⟨y, hy, h1, h2⟩)
    ·exact Or.inl h1
    ·rcases List.mem_cons.1 hy with rfl | hy
     ·exact absurd h1 h
     ·exact Or.inr ⟨y, hy, h1, h2⟩
theorem puts_need {d : Dm} (hd : (dimErr d).2 = 0) {i : Nat} (hf : (d.mem i).formula.size ≠ 0) (he : mErr d i = 0) : putsL d (prsL (d.mem i).formula) [] = mNd d i := by
 refine rise_eq _ _ (puts_rise d _ _ List.Pairwise.nil) (sel_rise _ _) fun z => ?_
 rw [puts_mem, need_names hd hf he]
 constructor
 ·rintro (h | ⟨x, hx, h1, h2⟩)
  ·cases h
  ·exact ⟨x.name.data.toList, nms_has hx h1, h2⟩
 ·rintro ⟨nm, h1, h2⟩
  obtain ⟨x, hx, h3, rfl⟩ := has_nms h1
  exact Or.inr ⟨x, hx, h3, h2⟩
def putsP (f : Int → Bool) : List Int → List Int → List Int
 | [], L => L
 | x :: r, L => putsP f r (if f x = true then putL L x else L)
theorem putsP_rise (f : Int → Bool) : ∀ (l : List Int) (L : List Int), L.Pairwise (· < ·) → (putsP f l L).Pairwise (· < ·)
 | [], _, h => h
 | x :: r, L, h => by
  unfold putsP
  refine putsP_rise f r _ ?_
  split
  ·exact put_rise _ _ h
  ·exact h
theorem putsP_mem (f : Int → Bool) : ∀ (l : List Int) (L : List Int) (z : Int), z ∈ putsP f l L ↔ z ∈ L ∨ z ∈ l ∧ f z = true
 | [], L, z => by simp [putsP]
 | x :: r, L, z => by
  unfold putsP
  rw [putsP_mem f r, List.mem_cons]
  by_cases h : f x = true
  ·rw [if_pos h, put_mem]
   constructor
   ·rintro ((h1 | h1) | ⟨h1, h2⟩)
    ·exact Or.inl h1
    ·exact Or.inr ⟨Or.inl h1, by rw [h1]; exact h⟩
    ·exact Or.inr ⟨Or.inr h1, h2⟩
   ·rintro (h1 | ⟨h1 | h1, h2⟩)
    ·exact Or.inl (Or.inl h1)
    ·exact Or.inl (Or.inr h1)
    ·exact Or.inr ⟨h1, h2⟩
  ·rw [if_neg h]
   constructor
   ·rintro (h1 | ⟨h1, h2⟩)
    ·exact Or.inl h1
    ·exact Or.inr ⟨Or.inr h1, h2⟩
   ·rintro (h1 | ⟨h1 | h1, h2⟩)
    ·exact Or.inl h1
    ·rw [h1] at h2; exact absurd h2 h
    ·exact Or.inr ⟨h1, h2⟩
theorem putsP_need {d : Dm} {i : Nat} (hf : (d.mem i).formula.size = 0) : putsP (sgB d) (partsOf d.mem d.n i) [] = mNd d i := by
 rw [← parts_need hf]
 refine rise_eq _ _ (putsP_rise _ _ _ List.Pairwise.nil) ((sel_rise _ _).filter _) fun z => ?_
 rw [putsP_mem, List.mem_filter]
 simp
theorem puts_snoc (d : Dm) (x : Nd) : ∀ (l : List Nd) (L : List Int), putsL d (l ++ [x]) L = if x.op = 2 then putL (putsL d l L) (whL d x.name.data.toList) else putsL d l L
 | [], L => by simp [putsL]
 | y :: r, L => by
  show putsL d (r ++ [x]) _ = _
  rw [puts_snoc d x r]
  rfl
theorem putsP_snoc (f : Int → Bool) (x : Int) : ∀ (l : List Int) (L : List Int), putsP f (l ++ [x]) L = if f x = true then putL (putsP f l L) x else putsP f l L
 | [], L => by simp [putsP]
 | y :: r, L => by
  show putsP f (r ++ [x]) _ = _
  rw [putsP_snoc f x r]
  rfl
theorem put_len (L : List Int) (n : Int) : (putL L n).length ≤ L.length + 1 := by
 induction L with
 | nil => simp [putL]
 | cons y r ih =>
  unfold putL
  split
  ·simp only [List.length_cons]; omega
  ·split <;> simp
theorem put_more {L : List Int} {n : Int} (h : n ∉ L) : (putL L n).length = L.length + 1 := by
 induction L with
 | nil => simp [putL]
 | cons y r ih =>
  have h1 : n ∉ r := fun e => h (List.mem_cons_of_mem _ e)
  unfold putL
  split
  ·simp only [List.length_cons, ih h1]
  ·split
   ·rename_i e
    exact absurd (by rw [e]; simp) h
   ·simp
def putTo (d : Dm) (l : List Nd) (k : Nat) : List Int := putsL d (l.take k) []
theorem putTo_next {d : Dm} {l : List Nd} {k : Nat} {x : Nd} (hk : k < l.length) (hx : l.getD k noN = x) : putTo d l (k + 1) = if x.op = 2 then putL (putTo d l k) (whL d x.name.data.toList) else putTo d l k := by
 unfold putTo
 rw [take_snoc l hk, hx, puts_snoc]
theorem putTo_len (d : Dm) (l : List Nd) (k : Nat) (hk : k ≤ l.length) : (putTo d l k).length ≤ k := by
 induction k with
 | zero => simp [putTo, putsL]
 | succ k ih =>
  rw [putTo_next (by omega) rfl]
  have := ih (by omega)
  split
  ·exact Nat.le_trans (put_len _ _) (by omega)
  ·omega
def partTo (d : Dm) (l : List Int) (k : Nat) : List Int := putsP (sgB d) (l.take k) []
theorem partTo_next {d : Dm} {l : List Int} {k : Nat} {x : Int} (hk : k < l.length) (hx : l.getD k 0 = x) : partTo d l (k + 1) = if sgB d x = true then putL (partTo d l k) x else partTo d l k := by
 unfold partTo
 have e : l.take (k + 1) = l.take k ++ [x] := by
  rw [List.take_succ_eq_append_getElem hk, ← hx, List.getD_eq_getElem?_getD, List.getElem?_eq_getElem hk]
  rfl
 rw [e, putsP_snoc]
theorem partTo_len (d : Dm) (l : List Int) (k : Nat) (hk : k ≤ l.length) : (partTo d l k).length ≤ k := by
 induction k with
 | zero => simp [partTo, putsP]
 | succ k ih =>
  rw [partTo_next (by omega) rfl]
  have := ih (by omega)
  split
  ·exact Nat.le_trans (put_len _ _) (by omega)
  ·omega
theorem mErr_ref {d : Dm} {i : Nat} (hf : (d.mem i).formula.size ≠ 0) (hp : prsE (d.mem i).formula = 0) {x : Nd} (hx : x ∈ prsL (d.mem i).formula) (h2 : x.op = 2) (hw : whL d x.name.data.toList < 0) : mErr d i = 5 := by
 unfold mErr
 rw [if_neg hf, if_neg (by simpa using hp), if_pos]
 rw [List.any_eq_true]
 exact ⟨_, nms_has hx h2, decide_eq_true hw⟩
theorem mErr_all {d : Dm} {i : Nat} (hf : (d.mem i).formula.size ≠ 0) (hp : prsE (d.mem i).formula = 0) (h : ∀ x ∈ prsL (d.mem i).formula, x.op = 2 → 0 ≤ whL d x.name.data.toList) : mErr d i = 0 := by
 unfold mErr
 rw [if_neg hf, if_neg (by simpa using hp), if_neg]
 rw [List.any_eq_true]
 rintro ⟨nm, hnm, hw⟩
 obtain ⟨x, hx, h2, rfl⟩ := has_nms hnm
 have := h x hx h2
 have := of_decide_eq_true hw
 omega
theorem mErr_prs {d : Dm} {i : Nat} (hf : (d.mem i).formula.size ≠ 0) (hp : prsE (d.mem i).formula ≠ 0) : mErr d i = prsE (d.mem i).formula := by
 unfold mErr
 rw [if_neg hf, if_pos hp]
end Go.Proofs.YtjffbmejobjmjafGreatDoor

