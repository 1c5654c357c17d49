/-
  What package place tells, as plain functions on plain data: what is wrong with a place, its number, a number's place, its text, a text's place; and that each undoes the other.
-/
import Derived.Test.YtfngmnhkhfgmjacDoorPlace1
import Derived.Test.YtfngmnhkhfgmjacDoorCut1
import Derived.Lib.Strings
namespace Go.Proofs.YtfngmnhkhfgmjacDoor

def outP (D : Nat → Dm) (L : List Int) (i : Nat) : Bool := decide (L.getD i 0 < 0) || decide (((D i).n : Int) ≤ L.getD i 0)
def shapeErr (D : Nat → Dm) (n : Nat) (L : List Int) : Int := if L.length ≠ n then 3 else if 0 ≤ findFrom (outP D L) n 0 then 1 else 0
def placeErr (D : Nat → Dm) (n : Nat) (L : List Int) : Int := if (allErr D n).2.2 ≠ 0 then (allErr D n).2.2 else shapeErr D n L

theorem sh0 {D : Nat → Dm} {n : Nat} {L : List Int} (h : L.length ≠ n) : shapeErr D n L = 3 := by unfold shapeErr; rw [if_pos h]
theorem sh1 {D : Nat → Dm} {n : Nat} {L : List Int} (h : L.length = n) (h1 : 0 ≤ findFrom (outP D L) n 0) : shapeErr D n L = 1 := by unfold shapeErr; rw [if_neg (by simpa using h), if_pos h1]
theorem sh2 {D : Nat → Dm} {n : Nat} {L : List Int} (h : L.length = n) (h1 : ¬ 0 ≤ findFrom (outP D L) n 0) : shapeErr D n L = 0 := by unfold shapeErr; rw [if_neg (by simpa using h), if_neg h1]
theorem pe0 {D : Nat → Dm} {n : Nat} {L : List Int} (h : (allErr D n).2.2 ≠ 0) : placeErr D n L = (allErr D n).2.2 := by unfold placeErr; rw [if_pos h]
theorem pe1 {D : Nat → Dm} {n : Nat} {L : List Int} (h : (allErr D n).2.2 = 0) : placeErr D n L = shapeErr D n L := by unfold placeErr; rw [if_neg (by simpa using h)]

/-- an outline that is right, and a place in it -/
structure InO (D : Nat → Dm) (n : Nat) (L : List Int) : Prop where
  right : (allErr D n).2.2 = 0
  len : L.length = n
  lo : ∀ i, i < n → 0 ≤ L.getD i 0
  hi : ∀ i, i < n → L.getD i 0 < ((D i).n : Int)

theorem allErr_some {D : Nat → Dm} {n : Nat} (h : (allErr D n).2.2 = 0) : 1 ≤ n ∧ n ≤ 4 ∧ prodN D n ≤ 3000 ∧ ∀ i, i < n → 1 ≤ (D i).n ∧ (D i).n ≤ 12 := by
  have h4 := allErr_right h
  unfold allErr at h
  split at h
  · simp at h
  · split at h
    · simp at h
    · split at h
      · rename_i h3; exact absurd h h3
      · split at h
        · simp at h
        · rename_i a b c d
          exact ⟨by omega, by omega, by omega, fun i hi => ⟨(dimErr_right (h4.2 i hi)).2.1, (dimErr_right (h4.2 i hi)).2.2.1⟩⟩

theorem inO_of {D : Nat → Dm} {n : Nat} {L : List Int} (h : placeErr D n L = 0) : InO D n L := by
  unfold placeErr at h
  split at h
  · rename_i h1; exact absurd h h1
  · rename_i h1
    unfold shapeErr at h
    split at h
    · cases h
    · split at h
      · cases h
      · rename_i h2 h3
        have hn : ∀ i, i < n → outP D L i = false := fun i hi => by
          rcases findFrom_cases (outP D L) n 0 with ⟨_, h4⟩ | ⟨k, h4, _⟩
          · exact h4 i (Nat.zero_le _) (by omega)
          · rw [h4] at h3; omega
        exact ⟨by simpa using h1, by simpa using h2, fun i hi => by have := hn i hi; simp [outP, -List.getD_eq_getElem?_getD] at this; omega, fun i hi => by have := hn i hi; simp [outP, -List.getD_eq_getElem?_getD] at this; omega⟩
theorem InO.ok {D : Nat → Dm} {n : Nat} {L : List Int} (h : InO D n L) : placeErr D n L = 0 := by
  rw [pe1 h.right, sh2 h.len]
  rw [findFrom_none]
  · decide
  · intro j _ hj
    have h1 := h.lo j (by omega)
    have h2 := h.hi j (by omega)
    simp [outP, -List.getD_eq_getElem?_getD]
    omega

def numI (D : Nat → Dm) (L : List Int) : Nat → Int
  | 0 => 0
  | k + 1 => numI D L k * ((D k).n : Int) + L.getD k 0
theorem numI_nat {D : Nat → Dm} {L : List Int} (k : Nat) (h : ∀ i, i < k → 0 ≤ L.getD i 0) : numI D L k = (numTo D (fun i => (L.getD i 0).toNat) k : Int) := by
  induction k with
  | zero => rfl
  | succ k ih =>
    have := h k (by omega)
    rw [numI, numTo, ih fun i hi => h i (by omega), Int.natCast_add, Int.natCast_mul, Int.toNat_of_nonneg this]
theorem prodN_small {D : Nat → Dm} {k : Nat} (h : ∀ j, j < k → (D j).n ≤ 12) (hk : k ≤ 4) : prodN D k ≤ 20736 := by
  have h1 := prodN_le h
  have h2 : 12 ^ k ≤ 12 ^ 4 := Nat.pow_le_pow_right (by decide) hk
  have h3 : (12 : Nat) ^ 4 = 20736 := by decide
  omega
theorem numI_bound {D : Nat → Dm} {n : Nat} {L : List Int} (h : InO D n L) {k : Nat} (hk : k ≤ n) : 0 ≤ numI D L k ∧ numI D L k < (prodN D k : Int) ∧ prodN D k ≤ 20736 := by
  obtain ⟨_, h4, _, hd⟩ := allErr_some h.right
  rw [numI_nat k fun i hi => h.lo i (by omega)]
  have h1 := numTo_lt (D := D) (P := fun i => (L.getD i 0).toNat) k fun j hj => by
    have := h.lo j (by omega)
    have := h.hi j (by omega)
    omega
  refine ⟨by omega, by omega, prodN_small (fun j hj => (hd j (by omega)).2) (by omega)⟩

def numV (D : Nat → Dm) (n : Nat) (L : List Int) : Int := if placeErr D n L = 0 then numI D L n else 0

/-- the place of a number, its last r members told -/
def digL (D : Nat → Dm) (n x r : Nat) : List Int := (List.range n).map fun j => if n - r ≤ j then (digitAt D n x j : Int) else 0
def placeL (D : Nat → Dm) (n x : Nat) : List Int := (List.range n).map fun j => (digitAt D n x j : Int)
theorem digL_len (D : Nat → Dm) (n x r : Nat) : (digL D n x r).length = n := by simp [digL]
theorem placeL_len (D : Nat → Dm) (n x : Nat) : (placeL D n x).length = n := by simp [placeL]
theorem digL_zero (D : Nat → Dm) (n x : Nat) : digL D n x 0 = List.replicate n 0 := by
  apply List.ext_getElem
  · simp [digL]
  · intro i h1 h2
    simp [digL] at h1 ⊢
    omega
theorem digL_all (D : Nat → Dm) (n x : Nat) : digL D n x n = placeL D n x := by simp [digL, placeL]
theorem digL_set (D : Nat → Dm) (n x r : Nat) (hr : r < n) : (digL D n x r).set (n - 1 - r) (digitAt D n x (n - 1 - r) : Int) = digL D n x (r + 1) := by
  apply List.ext_getElem
  · simp [digL]
  · intro i h1 h2
    simp only [digL, List.length_set, List.length_map, List.length_range] at h1
    rw [List.getElem_set]
    simp only [digL, List.getElem_map, List.getElem_range]
    by_cases h3 : n - 1 - r = i
    · subst h3
      rw [if_pos rfl, if_pos (by omega)]
    · rw [if_neg h3]
      by_cases h4 : n - r ≤ i
      · rw [if_pos h4, if_pos (by omega)]
      · rw [if_neg h4, if_neg (by omega)]
theorem placeL_at {D : Nat → Dm} {n x i : Nat} (h : i < n) : (placeL D n x).getD i 0 = (digitAt D n x i : Int) := by
  simp [placeL, List.getD, h]
theorem placeL_in {D : Nat → Dm} {n x : Nat} (h : (allErr D n).2.2 = 0) : InO D n (placeL D n x) := by
  obtain ⟨_, _, _, hd⟩ := allErr_some h
  exact ⟨h, placeL_len .., fun i hi => by rw [placeL_at hi]; omega, fun i hi => by rw [placeL_at hi]; have := digit_lt (D := D) (m := n) (n := x) (k := i) (hd i hi).1; omega⟩
theorem numTo_same {D : Nat → Dm} {P Q : Nat → Nat} (k : Nat) (h : ∀ i, i < k → P i = Q i) : numTo D P k = numTo D Q k := by
  induction k with
  | zero => rfl
  | succ k ih => rw [numTo, numTo, ih fun i hi => h i (by omega), h k (by omega)]
/-- the number of a number's place -/
theorem num_place {D : Nat → Dm} {n x : Nat} (h : (allErr D n).2.2 = 0) (hx : x < prodN D n) : numI D (placeL D n x) n = (x : Int) := by
  rw [numI_nat n (placeL_in h).lo, numTo_same (Q := digitAt D n x) n fun i hi => by rw [placeL_at hi]; omega, num_back hx]
/-- the place of a place's number -/
theorem place_num {D : Nat → Dm} {n : Nat} {L : List Int} (h : InO D n L) : placeL D n (numI D L n).toNat = L := by
  have h1 : ∀ j, j < n → (L.getD j 0).toNat < (D j).n := fun j hj => by have := h.lo j hj; have := h.hi j hj; omega
  rw [numI_nat n h.lo, Int.toNat_natCast]
  apply List.ext_getElem
  · rw [placeL_len, h.len]
  · intro i h2 h3
    rw [placeL_len] at h2
    have h4 := digit_num h1 h2
    have h5 := h.lo i h2
    have h6 : L.getD i 0 = L[i] := by simp [List.getD, h3]
    simp only [placeL, List.getElem_map, List.getElem_range]
    rw [h4, ← h6]
    omega

def ofErr (D : Nat → Dm) (n : Nat) (x : Int) : Int := if (allErr D n).2.2 ≠ 0 then (allErr D n).2.2 else if x < 0 ∨ (prodN D n : Int) ≤ x then 1 else 0
theorem of0 {D : Nat → Dm} {n : Nat} {x : Int} (h : (allErr D n).2.2 ≠ 0) : ofErr D n x = (allErr D n).2.2 := by unfold ofErr; rw [if_pos h]
theorem of1 {D : Nat → Dm} {n : Nat} {x : Int} (h : (allErr D n).2.2 = 0) (h1 : x < 0 ∨ (prodN D n : Int) ≤ x) : ofErr D n x = 1 := by unfold ofErr; rw [if_neg (by simpa using h), if_pos h1]
theorem of2 {D : Nat → Dm} {n : Nat} {x : Int} (h : (allErr D n).2.2 = 0) (h1 : ¬ (x < 0 ∨ (prodN D n : Int) ≤ x)) : ofErr D n x = 0 := by unfold ofErr; rw [if_neg (by simpa using h), if_neg h1]
def ofL (D : Nat → Dm) (n : Nat) (x : Int) : List Int := if ofErr D n x = 0 then placeL D n x.toNat else []
theorem ofErr_in {D : Nat → Dm} {n : Nat} {x : Int} (h : ofErr D n x = 0) : (allErr D n).2.2 = 0 ∧ ∃ k : Nat, x = k ∧ k < prodN D n := by
  unfold ofErr at h
  split at h
  · rename_i h1; exact absurd h h1
  · split at h
    · cases h
    · rename_i h1 h2; exact ⟨by simpa using h1, x.toNat, by omega, by omega⟩

/-- the names of a place -/
def nameB (D : Nat → Dm) (L : List Int) (i : Nat) : ByteArray := ((D i).mem (L.getD i 0).toNat).name
def textTo (D : Nat → Dm) (L : List Int) : Nat → List UInt8
  | 0 => []
  | k + 1 => textTo D L k ++ ((if k = 0 then [] else [46]) ++ (nameB D L k).data.toList)
def nameL (D : Nat → Dm) (L : List Int) (k : Nat) : List (List UInt8) := (List.range k).map fun i => (nameB D L i).data.toList
def textV (D : Nat → Dm) (n : Nat) (L : List Int) : ByteArray := if placeErr D n L = 0 then ⟨(textTo D L n).toArray⟩ else ⟨#[]⟩
theorem joinB_snoc (c : UInt8) (l : List (List UInt8)) (x : List UInt8) : joinB c (l ++ [x]) = joinB c l ++ ((if l.length = 0 then [] else [c]) ++ x) := by
  induction l with
  | nil => simp [joinB]
  | cons a r ih =>
    rw [List.cons_append, joinB_cons c a (by simp), ih]
    cases r with
    | nil => simp [joinB]
    | cons b r => rw [joinB_cons c a (by simp)]; simp
theorem text_join (D : Nat → Dm) (L : List Int) (k : Nat) : textTo D L k = joinB 46 (nameL D L k) := by
  induction k with
  | zero => rfl
  | succ k ih => rw [textTo, nameL, List.range_succ, List.map_append, List.map_singleton, joinB_snoc, ih]; simp [nameL]

/-- a name that is right has no dot, and is of 8 bytes at most -/
theorem name_good {s : ByteArray} (h : nameErr s = 0) : (46 : UInt8) ∉ s.data.toList ∧ s.size ≤ 8 := by
  unfold nameErr at h
  split at h
  · cases h
  · split at h
    · cases h
    · rename_i h1 h2
      refine ⟨fun hm => ?_, by omega⟩
      obtain ⟨i, hi, he⟩ := List.getElem_of_mem hm
      have hsz : s.data.toList.length = s.size := by simp
      rcases findFrom_cases (badByte s) s.size 0 with ⟨_, h4⟩ | ⟨k, h4, _⟩
      · have h5 := h4 i (Nat.zero_le _) (by omega)
        have h6 : byteN s i = 46 := by
          unfold byteN
          rw [List.getD, List.getElem?_eq_getElem hi, Option.getD_some, he]
          decide
        rw [badByte, h6] at h5
        exact absurd h5 (by decide)
      · rw [h4] at h2; omega
theorem mem_name {M : Nat → Mem} {i : Nat} (h : memErr M i = 0) : nameErr (M i).name = 0 := by
  unfold memErr at h
  split at h
  · simp at h
  · rename_i h1; simpa using h1
theorem InO.name {D : Nat → Dm} {n : Nat} {L : List Int} (h : InO D n L) {i : Nat} (hi : i < n) : (46 : UInt8) ∉ (nameB D L i).data.toList ∧ (nameB D L i).size ≤ 8 := by
  have h1 := (allErr_right h.right).2 i hi
  have h2 := h.lo i hi
  have h3 := h.hi i hi
  exact name_good (mem_name ((dimErr_right h1).2.2.2 _ (by omega)))
theorem InO.cut {D : Nat → Dm} {n : Nat} {L : List Int} (h : InO D n L) : cutB 46 (textTo D L n) = nameL D L n := by
  have h1 := (allErr_some h.right).1
  rw [text_join]
  refine cut_join (fun e => ?_) fun a ha => ?_
  · have := congrArg List.length e
    simp [nameL] at this
    omega
  · simp [nameL] at ha
    obtain ⟨i, hi, rfl⟩ := ha
    exact (h.name hi).1
theorem InO.short {D : Nat → Dm} {n : Nat} {L : List Int} (h : InO D n L) {k : Nat} (hk : k ≤ n) : (textTo D L k).length ≤ 9 * k := by
  induction k with
  | zero => exact Nat.le_refl _
  | succ k ih =>
    have h1 := ih (by omega)
    have h2 := (h.name (i := k) (by omega)).2
    have h3 : (nameB D L k).data.toList.length = (nameB D L k).size := by simp
    rw [textTo, List.length_append, List.length_append]
    split <;> simp_all <;> omega

/-- the pieces of a text, and where they are -/
def pieces (s : ByteArray) : List ByteArray := (cutB 46 s.data.toList).map fun l => ⟨l.toArray⟩
def pieceB (s : ByteArray) (i : Nat) : ByteArray := (pieces s).getD i ⟨#[]⟩
def pk (D : Nat → Dm) (s : ByteArray) (i : Nat) : Int := findFrom (fun j => same ((D i).mem j).name (pieceB s i)) (D i).n 0
def noneB (D : Nat → Dm) (s : ByteArray) (i : Nat) : Bool := decide (pk D s i < 0)
def readErr (D : Nat → Dm) (n : Nat) (s : ByteArray) : Int := if (pieces s).length ≠ n then 2 else if 0 ≤ findFrom (noneB D s) n 0 then 5 else 0
def parseErr (D : Nat → Dm) (n : Nat) (s : ByteArray) : Int := if (allErr D n).2.2 ≠ 0 then (allErr D n).2.2 else readErr D n s
def readL (D : Nat → Dm) (s : ByteArray) (k : Nat) : List Int := (List.range k).map (pk D s)
def parseL (D : Nat → Dm) (n : Nat) (s : ByteArray) : List Int := if parseErr D n s = 0 then readL D s n else []
theorem rd0 {D : Nat → Dm} {n : Nat} {s : ByteArray} (h : (pieces s).length ≠ n) : readErr D n s = 2 := by unfold readErr; rw [if_pos h]
theorem rd1 {D : Nat → Dm} {n : Nat} {s : ByteArray} (h : (pieces s).length = n) (h1 : 0 ≤ findFrom (noneB D s) n 0) : readErr D n s = 5 := by unfold readErr; rw [if_neg (by simpa using h), if_pos h1]
theorem rd2 {D : Nat → Dm} {n : Nat} {s : ByteArray} (h : (pieces s).length = n) (h1 : ¬ 0 ≤ findFrom (noneB D s) n 0) : readErr D n s = 0 := by unfold readErr; rw [if_neg (by simpa using h), if_neg h1]
theorem pa0 {D : Nat → Dm} {n : Nat} {s : ByteArray} (h : (allErr D n).2.2 ≠ 0) : parseErr D n s = (allErr D n).2.2 := by unfold parseErr; rw [if_pos h]
theorem pa1 {D : Nat → Dm} {n : Nat} {s : ByteArray} (h : (allErr D n).2.2 = 0) : parseErr D n s = readErr D n s := by unfold parseErr; rw [if_neg (by simpa using h)]
theorem readL_len (D : Nat → Dm) (s : ByteArray) (k : Nat) : (readL D s k).length = k := by simp [readL]
theorem readL_at {D : Nat → Dm} {s : ByteArray} {k i : Nat} (h : i < k) : (readL D s k).getD i 0 = pk D s i := by simp [readL, List.getD, h]
theorem parse_in {D : Nat → Dm} {n : Nat} {s : ByteArray} (h : parseErr D n s = 0) : (allErr D n).2.2 = 0 ∧ (pieces s).length = n ∧ ∀ i, i < n → 0 ≤ pk D s i := by
  unfold parseErr at h
  split at h
  · rename_i h1; exact absurd h h1
  · rename_i h1
    unfold readErr at h
    split at h
    · cases h
    · split at h
      · cases h
      · rename_i h2 h3
        refine ⟨by simpa using h1, by simpa using h2, fun i hi => ?_⟩
        rcases findFrom_cases (noneB D s) n 0 with ⟨_, h4⟩ | ⟨k, h4, _⟩
        · have := h4 i (Nat.zero_le _) (by omega)
          simp [noneB] at this
          exact this
        · rw [h4] at h3; omega
theorem pk_some {D : Nat → Dm} {s : ByteArray} {i : Nat} (h : 0 ≤ pk D s i) : pk D s i < ((D i).n : Int) ∧ same ((D i).mem (pk D s i).toNat).name (pieceB s i) = true := by
  unfold pk at h ⊢
  rcases findFrom_cases (fun j => same ((D i).mem j).name (pieceB s i)) (D i).n 0 with ⟨h1, _⟩ | ⟨k, h1, _, h3, h4, _⟩
  · rw [h1] at h; omega
  · rw [h1]
    exact ⟨by omega, by simpa using h4⟩
/-- what is read is a place -/
theorem read_in {D : Nat → Dm} {n : Nat} {s : ByteArray} (h : parseErr D n s = 0) : InO D n (readL D s n) := by
  obtain ⟨h1, _, h3⟩ := parse_in h
  exact ⟨h1, readL_len .., fun i hi => by rw [readL_at hi]; exact h3 i hi, fun i hi => by rw [readL_at hi]; exact (pk_some (h3 i hi)).1⟩
theorem same_data {s t : ByteArray} (h : same s t = true) : s.data.toList = t.data.toList := by
  have h1 : s.toList = t.toList := by simpa [same] using h
  rwa [Lib.toList_data, Lib.toList_data] at h1
theorem pieceB_at {s : ByteArray} {i : Nat} (h : i < (pieces s).length) : (pieceB s i).data.toList = (cutB 46 s.data.toList).getD i [] := by
  have h2 : i < (cutB 46 s.data.toList).length := by simpa [pieces] using h
  simp [pieceB, pieces, List.getD, h2]
/-- what is read is written the same -/
theorem read_text {D : Nat → Dm} {n : Nat} {s : ByteArray} (h : parseErr D n s = 0) : textTo D (readL D s n) n = s.data.toList := by
  obtain ⟨_, h2, h3⟩ := parse_in h
  rw [text_join]
  have e : nameL D (readL D s n) n = cutB 46 s.data.toList := by
    apply List.ext_getElem
    · simp [nameL]; simpa [pieces] using h2.symm
    · intro i h4 h5
      simp [nameL] at h4
      have h6 := same_data (pk_some (h3 i h4)).2
      rw [pieceB_at (by omega)] at h6
      simp only [nameL, List.getElem_map, List.getElem_range]
      unfold nameB
      rw [readL_at h4, h6]
      simp [List.getD, h5]
  rw [e, join_cut]
/-- what is written is read the same -/
theorem text_read {D : Nat → Dm} {n : Nat} {L : List Int} (h : InO D n L) : parseErr D n ⟨(textTo D L n).toArray⟩ = 0 ∧ readL D ⟨(textTo D L n).toArray⟩ n = L := by
  have hc := h.cut
  have hl : (pieces ⟨(textTo D L n).toArray⟩).length = n := by simp [pieces, hc, nameL]
  have hp : ∀ i, i < n → pk D ⟨(textTo D L n).toArray⟩ i = L.getD i 0 := fun i hi => by
    have h1 := (allErr_right h.right).2 i hi
    have h2 := h.lo i hi
    have h3 := h.hi i hi
    have h4 := find_own h1 (m := (L.getD i 0).toNat) (by omega)
    have h5 : pieceB ⟨(textTo D L n).toArray⟩ i = nameB D L i := by
      simp [pieceB, pieces, hc, nameL, List.getD, hi]
    unfold pk
    rw [h5]
    unfold findErr at h4
    rw [if_neg (by simpa using h1)] at h4
    split at h4
    · exact absurd (congrArg Prod.snd h4) (by show ¬ (5 : Int) = 0; decide)
    · have := congrArg Prod.fst h4
      simp only at this
      unfold nameB
      rw [this]
      omega
  refine ⟨?_, ?_⟩
  · rw [pa1 h.right, rd2 hl]
    rw [findFrom_none]
    · decide
    · intro j _ hj
      have := h.lo j (by omega)
      simp [noneB, hp j (by omega), -List.getD_eq_getElem?_getD]
      omega
  · apply List.ext_getElem
    · rw [readL_len, h.len]
    · intro i h1 h2
      rw [readL_len] at h1
      have := hp i h1
      simp [List.getD, h2] at this
      simp [readL, this]
end Go.Proofs.YtfngmnhkhfgmjacDoor
