/-
  All parts together, on plain data: how the members of a dim count in one of them, laid out; the leafs of a place, dim by dim, and that these are the places of the outline, in order, that are leafs of it.
-/
import Derived.Test.YtfngmnhkhfgmjadRoll1
namespace Go.Proofs.Ytfngmnhkhfgmjad

/-- the leafs of a place's members -/
def lfs (D : Nat → Dm) (p : List Int) (i : Nat) : List Int := leafsOf (D i).mem (D i).n (p.getD i 0)
/-- how members count in one: those of a list; all others not -/
def cnts (d : Dm) (i : Int) (X : List Int) : List Int := (List.range d.n).map fun (k : Nat) => if (k : Int) ∈ X then weightOf d.mem i (k : Int) else 0
theorem cnts_len (d : Dm) (i : Int) (X : List Int) : (cnts d i X).length = d.n := by simp [cnts]
theorem cnts_nil (d : Dm) (i : Int) : cnts d i [] = List.replicate d.n 0 := by
  apply List.ext_getElem
  · simp [cnts]
  · intro j h1 h2; simp [cnts]
theorem cnts_at {d : Dm} {i : Int} {X : List Int} {k : Nat} (hk : k < d.n) : (cnts d i X).getD k 0 = if (k : Int) ∈ X then weightOf d.mem i k else 0 := by
  simp [cnts, List.getD, hk]
theorem cnts_set {d : Dm} {i : Int} {X : List Int} {k : Nat} : (cnts d i X).set k (weightOf d.mem i k) = cnts d i (X ++ [(k : Int)]) := by
  apply List.ext_getElem
  · simp [cnts]
  · intro j h1 h2
    rw [List.getElem_set]
    by_cases e : k = j
    · subst e; simp [cnts]
    · have e' : ¬ ((j : Int) = (k : Int)) := by omega
      rw [if_neg e]; simp [cnts, e']
theorem sel_in {p : Nat → Bool} {k m : Nat} (hm : m < k) (hp : p m = true) : (m : Int) ∈ selTo p k := by
  induction k with
  | zero => omega
  | succ k ih =>
    by_cases e : m = k
    · subst e; rw [selTo_hit hp]; simp
    · have h1 := ih (by omega)
      cases hk : p k
      · rw [selTo_miss hk]; exact h1
      · rw [selTo_hit hk]; simp [h1]
theorem lfs_mem {D : Nat → Dm} {p : List Int} {i : Nat} : ∀ j ∈ lfs D p i, ∃ m : Nat, j = m ∧ m < (D i).n ∧ leafIn (D i).mem (D i).n (p.getD i 0) m = true := selTo_mem
theorem lfs_len (D : Nat → Dm) (p : List Int) (i : Nat) : (lfs D p i).length ≤ (D i).n := selTo_len _ _
/-- how each member counts, dim by dim -/
def wts (D : Nat → Dm) (p : List Int) (i : Nat) : List Int := cnts (D i) (p.getD i 0) (lfs D p i)
theorem wts_at {D : Nat → Dm} {p : List Int} {i k : Nat} (hk : k < (D i).n) (hl : leafB (D i).mem (D i).n k = true) : (wts D p i).getD k 0 = weightOf (D i).mem (p.getD i 0) k := by
  unfold wts
  rw [cnts_at hk]
  by_cases h : (k : Int) ∈ lfs D p i
  · rw [if_pos h]
  · rw [if_neg h]
    have h1 : inB (pathOf (D i).mem k) (p.getD i 0) = false := by
      cases hb : inB (pathOf (D i).mem k) (p.getD i 0)
      · rfl
      · exact absurd (sel_in hk (by unfold leafIn; rw [hl, hb]; rfl)) h
    have h2 : p.getD i 0 ∉ pathOf (D i).mem k := by unfold inB at h1; exact of_decide_eq_false h1
    rw [weightOf, wgt_out _ h2]
theorem wts_small {D : Nat → Dm} {n : Nat} (hR : (allErr D n).2.2 = 0) (p : List Int) {i : Nat} (hi : i < n) (k : Nat) : -1 ≤ (wts D p i).getD k 0 ∧ (wts D p i).getD k 0 ≤ 1 := by
  by_cases hk : k < (D i).n
  · unfold wts
    rw [cnts_at hk]
    split
    · have hd := (allErr_right hR).2 i hi
      refine wgt_small (Sg.of hd) _ _ (fun j hj => ?_) 1 (by omega)
      have := pathOf_mem (Tr.of hd) (D i).n k (by omega) (by omega) j hj
      omega
    · omega
  · have : (wts D p i).getD k 0 = 0 := by unfold wts; rw [List.getD_eq_getElem?_getD, List.getElem?_eq_none (by rw [cnts_len]; omega)]; rfl
    rw [this]; omega
/-- the product of what a place's members count, as it is laid out -/
def prTo (R : Nat → List Int) (q : List Int) : Nat → Int
  | 0 => 1
  | k + 1 => prTo R q k * (R k).getD (q.getD k 0).toNat 0
theorem leaf_each {D : Nat → Dm} {n : Nat} {q : List Int} (h : leafV D n q = true) : ∀ k, k < n → leafB (D k).mem (D k).n (q.getD k 0).toNat = true := by
  unfold leafV at h
  split at h
  · intro k hk
    cases hb : leafB (D k).mem (D k).n (q.getD k 0).toNat
    · have h1 : ∀ m i, i ≤ k → k < i + m → 0 ≤ findFrom (notLeaf D q) m i := by
        intro m
        induction m with
        | zero => intro i h1 h2; omega
        | succ m ih =>
          intro i h1 h2
          cases hn : notLeaf D q i
          · rw [findFrom_miss _ hn]
            refine ih (i + 1) ?_ (by omega)
            rcases Nat.lt_or_ge i k with h3 | h3
            · omega
            · have : i = k := by omega
              subst this
              unfold notLeaf at hn
              rw [hb] at hn
              cases hn
          · rw [findFrom_hit _ hn]; omega
      have := h1 n 0 (by omega) (by omega)
      rw [decide_eq_true this] at h
      cases h
    · rfl
  · cases h
theorem leaf_all {D : Nat → Dm} {n : Nat} {q : List Int} (hq : InO D n q) (h : ∀ k, k < n → leafB (D k).mem (D k).n (q.getD k 0).toNat = true) : leafV D n q = true := by
  unfold leafV
  rw [if_pos hq.ok]
  have h1 : ∀ m i, i + m ≤ n → findFrom (notLeaf D q) m i < 0 := by
    intro m
    induction m with
    | zero => intro i _; simp [findFrom]
    | succ m ih =>
      intro i hi
      have hn : notLeaf D q i = false := by unfold notLeaf; rw [h i (by omega)]; rfl
      rw [findFrom_miss _ hn]
      exact ih (i + 1) (by omega)
  have := h1 n 0 (by omega)
  rw [decide_eq_false (by omega)]
  rfl
theorem pr_wts {D : Nat → Dm} {n : Nat} {q : List Int} (hq : InO D n q) (hl : leafV D n q = true) (p : List Int) : ∀ k, k ≤ n → prTo (wts D p) q k = pwTo D p q k
  | 0, _ => rfl
  | k + 1, hk => by
    have hlo := hq.lo k (by omega)
    have hhi := hq.hi k (by omega)
    rw [prTo, pwTo, pr_wts hq hl p k (by omega), wts_at (by omega) (leaf_each hl k (by omega)), show ((q.getD k 0).toNat : Int) = q.getD k 0 by omega]
theorem prTo_small {D : Nat → Dm} {n : Nat} (hR : (allErr D n).2.2 = 0) (p q : List Int) : ∀ k, k ≤ n → -1 ≤ prTo (wts D p) q k ∧ prTo (wts D p) q k ≤ 1
  | 0, _ => by simp [prTo]
  | k + 1, hk => by
    rw [prTo]
    exact small_mul (prTo_small hR p q k (by omega)) (wts_small hR p (by omega) _)
theorem cnt_pw {D : Nat → Dm} {n : Nat} {p : List Int} {e : En} : cntR D n p e = !(pwTo D p e.pl n == 0) := by
  unfold cntR
  cases h : inTo D p e.pl n
  · rw [pwTo_out h]; rfl
  · rfl
theorem roll_none {D : Nat → Dm} {n : Nat} {p : List Int} : ∀ {l : List En}, l.any (cntR D n p) = false → rollN D n p l = 0
  | [], _ => rfl
  | e :: r, h => by
    rw [List.any_cons, Bool.or_eq_false_iff] at h
    rw [rollN, roll_none h.2, if_neg (by rw [h.1]; simp)]
    rfl

/-- places, each with each member behind it -/
def longL (Ps : List (List Int)) (X : List Int) : List (List Int) := Ps.flatMap fun h => X.map fun k => h ++ [k]
theorem longL_nil (X : List Int) : longL [] X = [] := rfl
theorem longL_cons (h : List Int) (Ps : List (List Int)) (X : List Int) : longL (h :: Ps) X = (X.map fun k => h ++ [k]) ++ longL Ps X := by simp [longL]
theorem longL_len (Ps : List (List Int)) (X : List Int) : (longL Ps X).length = Ps.length * X.length := by
  induction Ps with
  | nil => simp [longL]
  | cons h r ih => rw [longL_cons, List.length_append, ih, List.length_map, List.length_cons, Nat.succ_mul]; omega
theorem longL_snoc (Ps : List (List Int)) (h : List Int) (X : List Int) : longL (Ps ++ [h]) X = longL Ps X ++ X.map fun k => h ++ [k] := by simp [longL]
/-- the leafs of a place, dim by dim -/
def lfTo (D : Nat → Dm) (p : List Int) : Nat → List (List Int)
  | 0 => [[]]
  | k + 1 => longL (lfTo D p k) (lfs D p k)
theorem lfTo_len {D : Nat → Dm} (p : List Int) : ∀ k, (lfTo D p k).length ≤ prodN D k
  | 0 => by simp [lfTo, prodN]
  | k + 1 => by
    rw [lfTo, longL_len, prodN]
    exact Nat.mul_le_mul (lfTo_len p k) (lfs_len D p k)
theorem lfTo_each {D : Nat → Dm} (p : List Int) : ∀ k, ∀ q ∈ lfTo D p k, q.length = k
  | 0, q, h => by simp [lfTo] at h; simp [h]
  | k + 1, q, h => by
    simp only [lfTo, longL, List.mem_flatMap, List.mem_map] at h
    obtain ⟨h1, h2, x, h3, rfl⟩ := h
    simp [lfTo_each p k h1 h2]

/-- all places, dim by dim -/
def allTo (D : Nat → Dm) : Nat → List (List Int)
  | 0 => [[]]
  | k + 1 => longL (allTo D k) ((List.range (D k).n).map fun j => ((j : Nat) : Int))
theorem allTo_each {D : Nat → Dm} : ∀ k, ∀ q ∈ allTo D k, q.length = k
  | 0, q, h => by simp [allTo] at h; simp [h]
  | k + 1, q, h => by
    simp only [allTo, longL, List.mem_flatMap, List.mem_map] at h
    obtain ⟨h1, h2, x, h3, rfl⟩ := h
    simp [allTo_each k h1 h2]
theorem rest_next (D : Nat → Dm) (k x : Nat) : ∀ r, restAt D (k + 1) x (r + 1) = restAt D k (x / (D k).n) r
  | 0 => by simp [restAt]
  | r + 1 => by
    rw [restAt, rest_next D k x r]
    conv => rhs; rw [restAt]
    rw [show k + 1 - 1 - (r + 1) = k - 1 - r by omega]
theorem place_next (D : Nat → Dm) (k x : Nat) : placeL D (k + 1) x = placeL D k (x / (D k).n) ++ [((x % (D k).n : Nat) : Int)] := by
  unfold placeL
  rw [List.range_succ, List.map_append]
  congr 1
  · apply List.map_congr_left
    intro j hj
    have hj' : j < k := by simpa using hj
    unfold digitAt
    rw [show k + 1 - 1 - j = (k - 1 - j) + 1 by omega, rest_next]
  · simp [digitAt, restAt]
theorem range_mul {α : Type} (f : Nat → α) (a b : Nat) : (List.range (a * b)).map f = (List.range a).flatMap fun i => (List.range b).map fun j => f (i * b + j) := by
  induction a with
  | zero => simp
  | succ a ih =>
    rw [Nat.succ_mul, List.range_add, List.map_append, ih, List.range_succ, List.flatMap_append]
    simp [Function.comp_def]
theorem all_range (D : Nat → Dm) : ∀ k, (∀ j, j < k → 1 ≤ (D j).n) → (List.range (prodN D k)).map (placeL D k) = allTo D k
  | 0, _ => by simp [prodN, allTo, placeL]
  | k + 1, h => by
    have hk := h k (by omega)
    rw [prodN, range_mul, allTo, ← all_range D k fun j hj => h j (by omega)]
    unfold longL
    rw [List.flatMap_map]
    congr 1
    funext i
    rw [List.map_map]
    apply List.map_congr_left
    intro j hj
    have hj' : j < (D k).n := by simpa using hj
    rw [place_next, show i * (D k).n + j = j + (D k).n * i by rw [Nat.mul_comm]; omega, Nat.add_mul_div_left _ _ hk, Nat.add_mul_mod_self_left, Nat.div_eq_of_lt hj', Nat.mod_eq_of_lt hj', Nat.zero_add]
    rfl
/-- is a place one of the leafs, dim by dim -/
def okTo (D : Nat → Dm) (p q : List Int) : Nat → Bool
  | 0 => true
  | k + 1 => okTo D p q k && leafIn (D k).mem (D k).n (p.getD k 0) (q.getD k 0).toNat
theorem okTo_head {D : Nat → Dm} {p h : List Int} {x : Int} : ∀ k, k ≤ h.length → okTo D p (h ++ [x]) k = okTo D p h k
  | 0, _ => rfl
  | k + 1, hk => by
    rw [okTo, okTo, okTo_head k (by omega)]
    congr 3
    simp only [List.getD_eq_getElem?_getD]
    rw [List.getElem?_append_left (by omega)]
theorem filter_long {P : List Int → Bool} {p1 : List Int → Bool} {p2 : Int → Bool} {X : List Int} : ∀ Ps : List (List Int), (∀ h ∈ Ps, ∀ x, P (h ++ [x]) = (p1 h && p2 x)) → (longL Ps X).filter P = longL (Ps.filter p1) (X.filter p2)
  | [], _ => rfl
  | h :: r, hh => by
    rw [longL_cons, List.filter_append, filter_long r fun a ha => hh a (List.mem_cons_of_mem _ ha), List.filter_map]
    have e : (P ∘ fun k => h ++ [k]) = fun x => (p1 h && p2 x) := funext fun x => hh h (List.mem_cons_self ..) x
    rw [e, List.filter_cons]
    cases h1 : p1 h
    · simp
    · simp only [Bool.true_and, if_true]
      rw [longL_cons]
theorem sel_filter (f : Nat → Bool) : ∀ n, ((List.range n).map fun j => ((j : Nat) : Int)).filter (fun x => f x.toNat) = selTo f n
  | 0 => rfl
  | n + 1 => by
    rw [List.range_succ, List.map_append, List.filter_append, sel_filter f n]
    cases h : f n
    · rw [selTo_miss h]; simp [h]
    · rw [selTo_hit h]; simp [h]
theorem all_filter (D : Nat → Dm) (p : List Int) : ∀ k, (allTo D k).filter (fun q => okTo D p q k) = lfTo D p k
  | 0 => rfl
  | k + 1 => by
    rw [allTo, filter_long (p1 := fun q => okTo D p q k) (p2 := fun x => leafIn (D k).mem (D k).n (p.getD k 0) x.toNat), all_filter D p k, lfTo, sel_filter]
    · rfl
    · intro h hh x
      have hl := allTo_each k h hh
      rw [okTo, okTo_head k (by omega)]
      congr 2
      rw [List.getD_eq_getElem?_getD, List.getElem?_append_right (by omega), hl, Nat.sub_self]
      rfl
theorem ok_is {D : Nat → Dm} {n : Nat} {p q : List Int} (hq : InO D n q) : okTo D p q n = (leafV D n q && inTo D p q n) := by
  have h1 : ∀ k, k ≤ n → (okTo D p q k = true ↔ (∀ j, j < k → leafB (D j).mem (D j).n (q.getD j 0).toNat = true) ∧ inTo D p q k = true) := by
    intro k
    induction k with
    | zero => intro _; simp [okTo, inTo]
    | succ k ih =>
      intro hk
      have hlo := hq.lo k (by omega)
      have e : ((q.getD k 0).toNat : Int) = q.getD k 0 := by omega
      have ih' := ih (by omega)
      simp only [okTo, inTo, leafIn, Bool.and_eq_true, e]
      rw [ih']
      constructor
      · rintro ⟨⟨a, b⟩, c, d⟩
        refine ⟨fun j hj => ?_, b, d⟩
        rcases Nat.lt_succ_iff_lt_or_eq.1 hj with h | rfl
        · exact a j h
        · exact c
      · rintro ⟨a, b, d⟩
        exact ⟨⟨fun j hj => a j (by omega), b⟩, a k (by omega), d⟩
  have h2 := h1 n (Nat.le_refl _)
  cases hl : leafV D n q
  · rw [Bool.false_and]
    cases ho : okTo D p q n
    · rfl
    · rw [leaf_all hq (h2.1 ho).1] at hl
      cases hl
  · rw [Bool.true_and]
    cases hi : inTo D p q n
    · cases ho : okTo D p q n
      · rfl
      · rw [(h2.1 ho).2] at hi
        cases hi
    · exact h2.2 ⟨leaf_each hl, hi⟩
/-- the leafs of a place are those of its outline's, in order, that are leafs of it -/
def docL (D : Nat → Dm) (n : Nat) (p : List Int) (m : Nat) : List (List Int) := ((List.range m).map (placeL D n)).filter fun q => leafV D n q && inTo D p q n
theorem docL_all {D : Nat → Dm} {n : Nat} (hR : (allErr D n).2.2 = 0) (p : List Int) : docL D n p (prodN D n) = lfTo D p n := by
  obtain ⟨-, -, -, hd⟩ := allErr_some hR
  rw [← all_filter, ← all_range D n fun j hj => (hd j hj).1]
  unfold docL
  apply List.filter_congr
  intro q hq
  simp only [List.mem_map] at hq
  obtain ⟨x, -, rfl⟩ := hq
  exact (ok_is (placeL_in hR)).symm
theorem docL_step (D : Nat → Dm) (n : Nat) (p : List Int) (m : Nat) : docL D n p (m + 1) = docL D n p m ++ (if (leafV D n (placeL D n m) && inTo D p (placeL D n m) n) = true then [placeL D n m] else []) := by
  unfold docL
  rw [List.range_succ, List.map_append, List.filter_append]
  congr 1
  simp only [List.map_cons, List.map_nil, List.filter_cons, List.filter_nil]
theorem docL_len (D : Nat → Dm) (n : Nat) (p : List Int) (m : Nat) : (docL D n p m).length ≤ m := by
  unfold docL
  refine Nat.le_trans (List.length_filter_le _ _) ?_
  simp
end Go.Proofs.Ytfngmnhkhfgmjad
