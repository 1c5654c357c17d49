/-
  Cells joined by an op; names, and where one of them is; what is wrong with names and cells: plain data.
-/
import Derived.Test.YtklfenojapgmnaeDoorCel1
import Derived.Sort.Walk0
namespace Go.Proofs.YtklfenojapgmnaeDoor

def noS : ByteArray := ⟨#[]⟩
def okC (c : Int × Int) : Prop := good c.1 c.2 = true
theorem okC_no : okC noC := rfl
theorem okC_ofP (n : Int) : okC (ofP n) := by
  unfold okC ofP good
  split
  · rename_i h; simp [h.1, h.2]
  · simp
theorem okC_quo (x y : Int) : okC (quoP x y) := by
  unfold quoP
  split
  · rfl
  · exact okC_ofP _
theorem okC_join (b : Bool) (ka kb : Int) {r : Int × Int} (h : okC r) : okC (joinP b ka kb r) := by
  unfold joinP
  split
  · rfl
  · split
    · rfl
    · exact h
/-- two cells joined by an op -/
def opP (o : Int) (a b : Int × Int) : Int × Int := if o = 3 then plusP a.1 a.2 b.1 b.2 else if o = 4 then minusP a.1 a.2 b.1 b.2 else if o = 5 then timesP a.1 a.2 b.1 b.2 else overP a.1 a.2 b.1 b.2
theorem opP_ok (o : Int) (a b : Int × Int) : okC (opP o a b) := by
  unfold opP
  split
  · exact okC_join _ _ _ (okC_ofP _)
  · split
    · exact okC_join _ _ _ (okC_ofP _)
    · split
      · exact okC_join _ _ _ (okC_ofP _)
      · exact okC_join _ _ _ (okC_quo _ _)
theorem join_comm (b : Bool) (ka kb : Int) (r : Int × Int) : joinP b ka kb r = joinP b kb ka r := by
  unfold joinP
  by_cases h : ka = 2 ∨ kb = 2
  · rw [if_pos h, if_pos h.symm]
  · have h2 : ¬ (kb = 2 ∨ ka = 2) := fun e => h e.symm
    rw [if_neg h, if_neg h2]
theorem opP_comm (o : Int) (h : o = 3 ∨ o = 5) (a b : Int × Int) : opP o a b = opP o b a := by
  unfold opP
  rcases h with rfl | rfl
  · rw [if_pos rfl, if_pos rfl]
    unfold plusP
    rw [join_comm, Int.add_comm, Bool.or_comm]
  · rw [if_neg (by omega), if_neg (by omega), if_pos rfl, if_neg (by omega), if_neg (by omega), if_pos rfl]
    unfold timesP
    rw [join_comm, Int.mul_comm, Bool.or_comm]

/-- the place of a name among names, or -1 -/
def isS (N : List ByteArray) (s : ByteArray) (i : Nat) : Bool := decide (N.getD i noS = s)
def whereS (N : List ByteArray) (s : ByteArray) : Int := findFrom (isS N s) N.length 0
theorem where_cases (N : List ByteArray) (s : ByteArray) : (whereS N s = -1 ∧ ∀ j, j < N.length → N.getD j noS ≠ s) ∨ ∃ i : Nat, whereS N s = (i : Int) ∧ i < N.length ∧ N.getD i noS = s := by
  unfold whereS
  rcases findFrom_cases (isS N s) N.length 0 with ⟨h1, h2⟩ | ⟨m, h1, h2, h3, h4, h5⟩
  · left
    refine ⟨h1, fun j hj => ?_⟩
    have := h2 j (Nat.zero_le _) (by omega)
    simpa [isS] using this
  · right
    exact ⟨m, h1, by omega, of_decide_eq_true h4⟩

def downS (N : List ByteArray) (i : Nat) : Bool := Op.bytesLess (N.getD i noS).toList (N.getD (i - 1) noS).toList || (N.getD i noS).toList == (N.getD (i - 1) noS).toList
/-- what is wrong with names and cells -/
def ckErr (N : List ByteArray) (C : List (Int × Int)) : Int := if C.length ≠ N.length then 3 else if 0 ≤ findFrom (goodB C) C.length 0 then 1 else if 0 ≤ findFrom (downS N) (N.length - 1) 1 then 7 else 0
theorem ck_nil : ckErr [] [] = 0 := by decide
theorem ck_shape {N : List ByteArray} {C : List (Int × Int)} (h : C.length ≠ N.length) : ckErr N C = 3 := by unfold ckErr; rw [if_pos h]
theorem ck_cell {N : List ByteArray} {C : List (Int × Int)} (h : C.length = N.length) {i : Nat} (hi : i < C.length) (hb : goodB C i = true) : ckErr N C = 1 := by
  unfold ckErr
  rw [if_neg (by simpa using h)]
  rcases findFrom_cases (goodB C) C.length 0 with ⟨_, h5⟩ | ⟨m, e, _⟩
  · rw [h5 i (Nat.zero_le _) (by omega)] at hb; cases hb
  · rw [e, if_pos (by omega)]
theorem ck_down {N : List ByteArray} {C : List (Int × Int)} (h : C.length = N.length) (hg : ∀ j, j < C.length → goodB C j = false) {i : Nat} (h1 : 1 ≤ i) (hi : i < N.length) (hb : downS N i = true) : ckErr N C = 7 := by
  unfold ckErr
  rw [if_neg (by simpa using h), findFrom_none (fun j _ hj => hg j (by omega)), if_neg (by omega)]
  rcases findFrom_cases (downS N) (N.length - 1) 1 with ⟨_, h5⟩ | ⟨m, e, _⟩
  · rw [h5 i h1 (by omega)] at hb; cases hb
  · rw [e, if_pos (by omega)]
theorem ck_good {N : List ByteArray} {C : List (Int × Int)} (h : C.length = N.length) (hg : ∀ j, j < C.length → goodB C j = false) (hd : ∀ j, 1 ≤ j → j < N.length → downS N j = false) : ckErr N C = 0 := by
  unfold ckErr
  rw [if_neg (by simpa using h), findFrom_none (fun j _ hj => hg j (by omega)), if_neg (by omega), findFrom_none (fun j h1 hj => hd j h1 (by omega)), if_neg (by omega)]
theorem ck_right {N : List ByteArray} {C : List (Int × Int)} (h : ckErr N C = 0) : C.length = N.length ∧ (∀ j, j < C.length → goodB C j = false) ∧ ∀ j, 1 ≤ j → j < N.length → downS N j = false := by
  by_cases h1 : C.length = N.length
  · refine ⟨h1, ?_⟩
    by_cases h2 : ∀ j, j < C.length → goodB C j = false
    · refine ⟨h2, fun j hj1 hj => ?_⟩
      cases hd : downS N j
      · rfl
      · rw [ck_down h1 h2 hj1 hj hd] at h; cases h
    · exfalso
      apply h2
      intro j hj
      cases hd : goodB C j
      · rfl
      · rw [ck_cell h1 hj hd] at h; cases h
  · rw [ck_shape h1] at h; cases h
theorem ck_ok {N : List ByteArray} {C : List (Int × Int)} (h : ckErr N C = 0) : ∀ c ∈ C, okC c := by
  intro c hc
  obtain ⟨j, hj, rfl⟩ := List.getElem_of_mem hc
  have := (ck_right h).2.1 j hj
  unfold goodB at this
  rw [List.getD_eq_getElem?_getD, List.getElem?_eq_getElem hj] at this
  simpa [okC] using this

/-! names that rise -/
theorem down_not {N : List ByteArray} {i : Nat} (h : downS N i = false) : (N.getD (i - 1) noS).toList < (N.getD i noS).toList := by
  unfold downS at h
  rw [Bool.or_eq_false_iff, bytesLess_eq] at h
  have h1 := of_decide_eq_false h.1
  have h2 : (N.getD i noS).toList ≠ (N.getD (i - 1) noS).toList := by simpa using h.2
  rcases Std.lt_trichotomy (N.getD i noS).toList (N.getD (i - 1) noS).toList with h3 | h3 | h3
  · exact absurd h3 h1
  · exact absurd h3 h2
  · exact h3
theorem rise_all {N : List ByteArray} (h : ∀ j, 1 ≤ j → j < N.length → downS N j = false) : ∀ i j, i < j → j < N.length → (N.getD i noS).toList < (N.getD j noS).toList := by
  intro i j hij
  induction j with
  | zero => omega
  | succ j ih =>
    intro hj
    have h1 := down_not (h (j + 1) (by omega) hj)
    by_cases e : i = j
    · subst e; exact h1
    · exact List.lt_trans (ih (by omega) (by omega)) h1
end Go.Proofs.YtklfenojapgmnaeDoor
