/-
  What the members of a dim need, what is wrong with a dim with all its formulas, and what both readings of a formula's refs come to: plain data.
  What places of package tree answers: the places of those of whom a question is told yes; slices.Index, IndexFunc, Contains, ContainsFunc over ints; what check of package tree answers.
  slices.IndexFunc and slices.ContainsFunc over ints, at the question of package tree's check; what check answers: what is wrong with a dim, or else with places in it.
  What Parts, Path and Leaf of package tree answer: of a dim and a place the parts, the path, whether it is a leaf, or what is wrong.
  The parts of a member, as Parts of package tree answers, in a block that was not there before.
  Lists of ints at the head of a block of ints, and rows of such lists, in memory.
  What slices.IndexFunc and slices.DeleteFunc over ints answer where the question is told of the list's own numbers alone: the rest of a list in a row of one's own.
  The parts of a member, as Parts of package tree answers, in a row of the call's own.
-/
import Derived.Test.YtpnfmpbgjkhicaeGreatDoorRuA
import Derived.Test.YtpnfmpbgjkhicaeGreatDoorFmQ
import Derived.Test.YtpnfmpbgjkhicaeGreatDoorTree3
import Derived.Deep.QuietTactic
import Derived.BigQuiet
import Derived.WalkSmall
import Derived.Lib.SliceRun
import Derived.OwnWalk
import Derived.Laws.CopyRow
import Derived.Laws.CopyOwn
import Derived.Laws.IdiomCopy
namespace Go.Proofs.YtpnfmpbgjkhicaeGreatDoor

/-- the place of a name among the members of a dim, or -1 -/
def whL (d : Dm) (nm : List UInt8) : Int := findFrom (fun j => same (d.mem j).name ⟨nm.toArray⟩) d.n 0
theorem same_bytesL (s : ByteArray) (nm : List UInt8) : same s ⟨nm.toArray⟩ = decide (s.data.toList = nm) := by
  unfold same
  rw [ByteArray.toList_eq, ByteArray.toList_eq]
  by_cases h : s.data.toList = nm
  · simp [h]
  · simp [h]
theorem whL_cases (d : Dm) (nm : List UInt8) : (whL d nm = -1 ∧ ∀ j, j < d.n → (d.mem j).name.data.toList ≠ nm) ∨ ∃ k : Nat, whL d nm = (k : Int) ∧ k < d.n ∧ (d.mem k).name.data.toList = nm := by
  unfold whL
  rcases findFrom_cases (fun j => same (d.mem j).name ⟨nm.toArray⟩) d.n 0 with ⟨h1, h2⟩ | ⟨k, h1, _, h3, h4, _⟩
  · refine Or.inl ⟨h1, fun j hj => ?_⟩
    have := h2 j (Nat.zero_le _) (by omega)
    rw [same_bytesL] at this
    exact of_decide_eq_false this
  · refine Or.inr ⟨k, h1, by omega, ?_⟩
    rw [same_bytesL] at h4
    exact of_decide_eq_true h4
theorem name_once {d : Dm} (h : (dimErr d).2 = 0) {j k : Nat} (hj : j < d.n) (hk : k < d.n) (e : (d.mem j).name.data.toList = (d.mem k).name.data.toList) : j = k := by
  obtain ⟨_, _, _, hall⟩ := dimErr_right h
  have hs : ∀ {a b : Nat}, (d.mem a).name.data.toList = (d.mem b).name.data.toList → same (d.mem a).name (d.mem b).name = true := fun {a b} e => by
    unfold same
    rw [ByteArray.toList_eq, ByteArray.toList_eq, e]
    simp
  rcases Nat.lt_trichotomy j k with h1 | h1 | h1
  · have := memErr_noclash (hall k hk)
    have := findFrom_nonneg (q := fun i => same (d.mem i).name (d.mem k).name) h1 (hs e)
    omega
  · exact h1
  · have := memErr_noclash (hall j hj)
    have := findFrom_nonneg (q := fun i => same (d.mem i).name (d.mem j).name) h1 (hs e.symm)
    omega
theorem whL_own {d : Dm} (h : (dimErr d).2 = 0) {k : Nat} (hk : k < d.n) : whL d (d.mem k).name.data.toList = (k : Int) := by
  rcases whL_cases d (d.mem k).name.data.toList with ⟨_, h2⟩ | ⟨m, h1, h2, h3⟩
  · exact absurd rfl (h2 k hk)
  · rw [h1, name_once h h2 hk h3]

/-- the names to whom the formula of a member refers, as they come -/
def nmsOf (d : Dm) (i : Nat) : List (List UInt8) := nmsTo (prsL (d.mem i).formula) (prsL (d.mem i).formula).length
theorem nms_has {l : List Nd} {x : Nd} (hx : x ∈ l) (h : x.op = 2) : x.name.data.toList ∈ nmsTo l l.length := by
  unfold nmsTo
  rw [List.take_length]
  exact List.mem_map.2 ⟨x, List.mem_filter.2 ⟨hx, by simp [h]⟩, rfl⟩
theorem has_nms {l : List Nd} {nm : List UInt8} (h : nm ∈ nmsTo l l.length) : ∃ x ∈ l, x.op = 2 ∧ x.name.data.toList = nm := by
  unfold nmsTo at h
  rw [List.take_length] at h
  obtain ⟨x, hx, rfl⟩ := List.mem_map.1 h
  obtain ⟨h1, h2⟩ := List.mem_filter.1 hx
  exact ⟨x, h1, by simpa using h2, rfl⟩
/-- what is wrong with a member's formula -/
def mErr (d : Dm) (i : Nat) : Int := if (d.mem i).formula.size = 0 then 0 else if prsE (d.mem i).formula ≠ 0 then prsE (d.mem i).formula else if (nmsOf d i).any (fun nm => decide (whL d nm < 0)) = true then 5 else 0
/-- a part counts -/
def sgB (d : Dm) (k : Int) : Bool := decide ((d.mem k.toNat).sign ≠ 0)
def needB (d : Dm) (i k : Nat) : Bool := if (d.mem i).formula.size = 0 then partB d.mem i k && sgB d k else (nmsOf d i).contains (d.mem k).name.data.toList
/-- whom a member needs, rising -/
def mNd (d : Dm) (i : Nat) : List Int := selTo (needB d i) d.n
theorem mNd_rise (d : Dm) (i : Nat) : (mNd d i).Pairwise (· < ·) := sel_rise _ _
theorem mNd_in {d : Dm} {i : Nat} {x : Int} (h : x ∈ mNd d i) : 0 ≤ x ∧ x < (d.n : Int) := by
  obtain ⟨m, rfl, h2, -⟩ := selTo_mem x h
  omega
theorem mNd_len (d : Dm) (i : Nat) : (mNd d i).length ≤ d.n := selTo_len _ _
/-- of all members -/
def ndL (d : Dm) : List (List Int) := (List.range d.n).map (mNd d)
theorem ndL_len (d : Dm) : (ndL d).length = d.n := by simp [ndL]
theorem ndL_at {d : Dm} {i : Nat} (h : i < d.n) : (ndL d).getD i [] = mNd d i := by
  unfold ndL
  simp [List.getD, h]
theorem ndL_inn (d : Dm) : Inn (ndL d) := fun i hi x hx => by
  rw [ndL_len] at hi ⊢
  rw [ndL_at hi] at hx
  exact mNd_in hx
def badM (d : Dm) (i : Nat) : Bool := decide (mErr d i ≠ 0)
/-- which member of a dim is wrong, and how -/
noncomputable def rErr (d : Dm) : Int × Int :=
  if (dimErr d).2 ≠ 0 then dimErr d
  else if 0 ≤ findFrom (badM d) d.n 0 then (findFrom (badM d) d.n 0, mErr d (findFrom (badM d) d.n 0).toNat)
  else if 0 ≤ findFrom (cycB (ndL d)) d.n 0 then (findFrom (cycB (ndL d)) d.n 0, 8)
  else (-1, 0)
theorem re0 {d : Dm} (h : (dimErr d).2 ≠ 0) : rErr d = dimErr d := by unfold rErr; rw [if_pos h]
theorem re1 {d : Dm} (h : (dimErr d).2 = 0) {i : Nat} (hi : i < d.n) (he : mErr d i ≠ 0) (hf : ∀ j, j < i → mErr d j = 0) : rErr d = ((i : Int), mErr d i) := by
  have e : findFrom (badM d) d.n 0 = (i : Int) := findFrom_at (Nat.zero_le _) (by omega) (decide_eq_true he) fun j _ hj => decide_eq_false (by simpa using hf j hj)
  unfold rErr
  rw [if_neg (by simpa using h), e, if_pos (by omega), Int.toNat_natCast]
theorem re2a {d : Dm} (hf : ∀ j, j < d.n → mErr d j = 0) : findFrom (badM d) d.n 0 = -1 := findFrom_none fun j _ hj => decide_eq_false (by simpa using hf j (by omega))
theorem re2 {d : Dm} (h : (dimErr d).2 = 0) (hf : ∀ j, j < d.n → mErr d j = 0) {i : Nat} (hi : i < d.n) (hc : cycB (ndL d) i = true) (hn : ∀ j, j < i → cycB (ndL d) j = false) : rErr d = ((i : Int), 8) := by
  unfold rErr
  rw [if_neg (by simpa using h), re2a hf, if_neg (by omega), findFrom_at (Nat.zero_le _) (by omega) hc fun j _ hj => hn j hj, if_pos (by omega)]
theorem re3 {d : Dm} (h : (dimErr d).2 = 0) (hf : ∀ j, j < d.n → mErr d j = 0) (hn : ∀ j, j < d.n → cycB (ndL d) j = false) : rErr d = (-1, 0) := by
  unfold rErr
  rw [if_neg (by simpa using h), re2a hf, if_neg (by omega), findFrom_none fun j _ hj => hn j (by omega), if_neg (by omega)]
theorem mErr_no {d : Dm} {i : Nat} (h : prsE (d.mem i).formula = 0) : mErr d i = 0 ∨ mErr d i = 5 := by
  unfold mErr
  split
  · exact Or.inl rfl
  · split
    · rename_i h2; exact absurd h h2
    · split
      · exact Or.inr rfl
      · exact Or.inl rfl
/-- of a dim that is right all is right -/
theorem rErr_right {d : Dm} (h : (rErr d).2 = 0) : (dimErr d).2 = 0 ∧ (∀ j, j < d.n → mErr d j = 0) ∧ (∀ j, j < d.n → cycB (ndL d) j = false) ∧ (rErr d).1 = -1 := by
  by_cases h0 : (dimErr d).2 = 0
  · rcases findFrom_cases (badM d) d.n 0 with ⟨_, h2⟩ | ⟨k, _, _, h3, h4, h5⟩
    · have hm : ∀ j, j < d.n → mErr d j = 0 := fun j hj => by
        have := h2 j (Nat.zero_le _) (by omega)
        unfold badM at this
        simpa using this
      rcases findFrom_cases (cycB (ndL d)) d.n 0 with ⟨_, h6⟩ | ⟨k, _, _, h3, h4, h5⟩
      · have hc : ∀ j, j < d.n → cycB (ndL d) j = false := fun j hj => h6 j (Nat.zero_le _) (by omega)
        exact ⟨h0, hm, hc, by rw [re3 h0 hm hc]⟩
      · rw [re2 h0 hm (by omega) h4 fun j hj => h5 j (Nat.zero_le _) hj] at h
        cases h
    · have hb : mErr d k ≠ 0 := of_decide_eq_true h4
      rw [re1 h0 (by omega) hb fun j hj => by have := h5 j (Nat.zero_le _) hj; unfold badM at this; simpa using this] at h
      exact absurd h hb
  · rw [re0 h0] at h
    exact absurd h h0
theorem rErr_acyc {d : Dm} (h : (rErr d).2 = 0) : ∀ i : Nat, i < (ndL d).length → cycB (ndL d) i = false := fun i hi => (rErr_right h).2.2.1 i (by rw [← ndL_len d]; exact hi)

/-- of a member with a formula that is right: whom it needs -/
theorem need_names {d : Dm} (hd : (dimErr d).2 = 0) {i : Nat} (hf : (d.mem i).formula.size ≠ 0) (he : mErr d i = 0) (z : Int) : z ∈ mNd d i ↔ ∃ nm ∈ nmsOf d i, z = whL d nm := by
  have hall : ∀ nm ∈ nmsOf d i, 0 ≤ whL d nm := fun nm hnm => by
    unfold mErr at he
    rw [if_neg hf] at he
    split at he
    · rename_i h1; exact absurd he h1
    · split at he
      · cases he
      · rename_i h2
        rw [List.any_eq_true] at h2
        exact Decidable.byContradiction fun h3 => h2 ⟨nm, hnm, decide_eq_true (by omega)⟩
  constructor
  · intro h
    obtain ⟨m, rfl, h2, h3⟩ := selTo_mem z h
    unfold needB at h3
    rw [if_neg hf, List.contains_iff_mem] at h3
    exact ⟨_, h3, (whL_own hd h2).symm⟩
  · rintro ⟨nm, h1, rfl⟩
    rcases whL_cases d nm with ⟨h2, _⟩ | ⟨k, h2, h3, h4⟩
    · have := hall nm h1; omega
    · rw [h2]
      refine sel_has h3 ?_
      unfold needB
      rw [if_neg hf, List.contains_iff_mem, h4]
      exact h1
theorem parts_need {d : Dm} {i : Nat} (hf : (d.mem i).formula.size = 0) : (partsOf d.mem d.n i).filter (sgB d) = mNd d i := by
  refine sel_filter _ _ _ _ fun j _ => ?_
  unfold needB
  rw [if_pos hf, Bool.and_eq_true]

/-! sorted, each once -/
theorem srt_le (zs : List (List UInt8)) : (zs.mergeSort fun x y => decide (x ≤ y)).Pairwise (fun a b => a ≤ b) := by
  have h := List.pairwise_mergeSort (le := fun x y : List UInt8 => decide (x ≤ y)) (fun a b c h k => by simp at *; exact List.le_trans h k) (fun a b => by simp; exact List.le_total a b) zs
  exact h.imp fun h => by simpa using h
theorem srt_ints (zs : List Int) : (zs.mergeSort fun x y => decide (x ≤ y)).Pairwise (fun a b => a ≤ b) := by
  have h := List.pairwise_mergeSort (le := fun x y : Int => decide (x ≤ y)) (fun a b c h k => by simp at *; omega) (fun a b => by simp; omega) zs
  exact h.imp fun h => by simpa using h
theorem comp_mem (zs : List (List UInt8)) (x : List UInt8) : x ∈ Lib.compact zs ↔ x ∈ zs := by
  unfold Lib.compact
  have h : ∀ m, m ≤ zs.length → ∀ x, x ∈ Lib.compactUpTo zs.toArray m ↔ ∃ j, j < m ∧ zs.toArray[j]! = x := by
    intro m
    induction m with
    | zero => intro _ x; simp [Lib.compactUpTo]
    | succ m ih =>
      intro hm x
      rw [Lib.compactUpTo_succ, List.mem_append, ih (by omega)]
      constructor
      · rintro (⟨j, h1, h2⟩ | h1)
        · exact ⟨j, by omega, h2⟩
        · split at h1
          · exact ⟨m, by omega, (List.mem_singleton.1 h1).symm⟩
          · cases h1
      · rintro ⟨j, h1, h2⟩
        by_cases e : j < m
        · exact Or.inl ⟨j, e, h2⟩
        · have e : j = m := by omega
          subst e
          by_cases hk : Lib.keeps zs.toArray j = true
          · exact Or.inr (by rw [if_pos hk, ← h2]; simp)
          · unfold Lib.keeps at hk
            rw [decide_eq_true_iff] at hk
            have h3 : j ≠ 0 := fun e => hk (Or.inl e)
            have h4 : zs.toArray[j]! = zs.toArray[j - 1]! := Decidable.byContradiction fun e => hk (Or.inr e)
            exact Or.inl ⟨j - 1, by omega, by rw [← h4]; exact h2⟩
  rw [h _ (Nat.le_refl _)]
  constructor
  · rintro ⟨j, h1, rfl⟩
    rw [getElem!_pos _ j (by simpa using h1)]
    simp
  · intro hx
    obtain ⟨j, hj, rfl⟩ := List.getElem_of_mem hx
    exact ⟨j, hj, by rw [getElem!_pos _ j (by simpa using hj)]; simp⟩
theorem comp_nodup (zs : List (List UInt8)) (hs : zs.Pairwise (fun a b => a ≤ b)) : (Lib.compact zs).Nodup := by
  unfold Lib.compact
  have hle : ∀ i j, i ≤ j → j < zs.length → zs.toArray[i]! ≤ zs.toArray[j]! := fun i j hij hj => by
    rw [getElem!_pos _ i (by simp; omega), getElem!_pos _ j (by simpa using hj)]
    by_cases e : i = j
    · subst e; exact List.le_refl _
    · have := List.pairwise_iff_getElem.1 hs i j (by omega) hj (by omega)
      simpa using this
  have h : ∀ m, m ≤ zs.length → (Lib.compactUpTo zs.toArray m).Nodup ∧ ∀ x ∈ Lib.compactUpTo zs.toArray m, ∃ j, j < m ∧ zs.toArray[j]! = x := by
    intro m
    induction m with
    | zero => intro _; exact ⟨by simp [Lib.compactUpTo], fun x hx => by simp [Lib.compactUpTo] at hx⟩
    | succ m ih =>
      intro hm
      obtain ⟨h1, h2⟩ := ih (by omega)
      rw [Lib.compactUpTo_succ]
      refine ⟨?_, fun x hx => ?_⟩
      · rw [List.nodup_append]
        refine ⟨h1, by split <;> simp, fun a ha b hb e => ?_⟩
        split at hb
        · rename_i hk
          rw [List.mem_singleton.1 hb] at e
          obtain ⟨j, h3, h4⟩ := h2 a ha
          unfold Lib.keeps at hk
          rcases of_decide_eq_true hk with h5 | h5
          · omega
          · refine h5 (List.le_antisymm ?_ (hle (m - 1) m (by omega) (by omega)))
            rw [← e, ← h4]
            exact hle j (m - 1) (by omega) (by omega)
        · cases hb
      · rcases List.mem_append.1 hx with hx | hx
        · obtain ⟨j, h3, h4⟩ := h2 x hx
          exact ⟨j, by omega, h4⟩
        · split at hx
          · exact ⟨m, by omega, (List.mem_singleton.1 hx).symm⟩
          · cases hx
  exact (h _ (Nat.le_refl _)).1
theorem form_read {s : ByteArray} (h : prsE s = 0) : formErr (prsL s) = 0 := by
  have hL : prsL s = nodesP s := by unfold prsL; rw [if_pos h]
  rw [hL]
  unfold prsE at h
  split at h
  · split at h <;> cases h
  · split at h
    · exact h
    · cases h
theorem refs_once {l : List Nd} (h : formErr l = 0) : (refsP l).Nodup ∧ ∀ x, x ∈ refsP l ↔ x ∈ nmsTo l l.length := by
  unfold refsP
  rw [if_pos h]
  refine ⟨comp_nodup _ (srt_le _), fun x => ?_⟩
  rw [comp_mem]
  exact (List.mergeSort_perm _ _).mem_iff
/-- where the refs are, sorted, is what a member needs -/
theorem sort_need {d : Dm} (hd : (dimErr d).2 = 0) {i : Nat} (hf : (d.mem i).formula.size ≠ 0) (he : mErr d i = 0) (hp : prsE (d.mem i).formula = 0) : (((refsP (prsL (d.mem i).formula)).map (whL d)).mergeSort fun x y => decide (x ≤ y)) = mNd d i := by
  obtain ⟨h1, h2⟩ := refs_once (form_read hp)
  have hm : ∀ z, z ∈ (refsP (prsL (d.mem i).formula)).map (whL d) ↔ z ∈ mNd d i := fun z => by
    rw [need_names hd hf he, List.mem_map]
    constructor
    · rintro ⟨nm, h3, rfl⟩; exact ⟨nm, (h2 nm).1 h3, rfl⟩
    · rintro ⟨nm, h3, rfl⟩; exact ⟨nm, (h2 nm).2 h3, rfl⟩
  have hnd : ((refsP (prsL (d.mem i).formula)).map (whL d)).Pairwise (fun a b => a ≠ b) := by
    rw [List.pairwise_map]
    have hin : ∀ nm ∈ refsP (prsL (d.mem i).formula), 0 ≤ whL d nm := fun nm h => (mNd_in ((hm _).1 (List.mem_map.2 ⟨nm, h, rfl⟩))).1
    refine List.Pairwise.imp_of_mem (R := fun a b => a ≠ b) (fun {a b} ha hb hab e => ?_) h1
    rcases whL_cases d a with ⟨h3, _⟩ | ⟨k, h3, _, h4⟩
    · have := hin a ha; omega
    · rcases whL_cases d b with ⟨h5, _⟩ | ⟨m, h5, _, h6⟩
      · have := hin b hb; omega
      · have : k = m := by omega
        exact hab (by rw [← h4, ← h6, this])
  refine rise_eq _ _ ?_ (mNd_rise d i) fun z => ?_
  · have hp2 := (List.mergeSort_perm ((refsP (prsL (d.mem i).formula)).map (whL d)) (fun x y => decide (x ≤ y)))
    have hn2 : List.Pairwise (fun a b => a ≠ b) (((refsP (prsL (d.mem i).formula)).map (whL d)).mergeSort fun x y => decide (x ≤ y)) := hp2.symm.pairwise hnd fun {a b} h e => h e.symm
    exact ((srt_ints _).and hn2).imp fun h => by omega
  · rw [(List.mergeSort_perm _ _).mem_iff, hm]
end Go.Proofs.YtpnfmpbgjkhicaeGreatDoor

namespace Go.Proofs.YtpnfmpbgjkhicaeGreatDoor
open Go.ChangeShapes Go.WideShapes Go.ChangeAt Go.RowKit
set_option maxRecDepth 20000

def AskP (fn q r : Nat) (w : World) (n : Nat) (p : Nat → Bool) : Prop := ∀ (i : Nat) (w' : World), i < n → Below w.heap.size w w' → Calls Tryz.prog fn #[.int .i64 i, .pointer (some ⟨q, 0, none⟩), .pointer (some ⟨r, 0, none⟩)] w' fun e w'' => e = .returned (.bool (p i)) ∧ Below w'.heap.size w' w''

set_option maxHeartbeats 2000000 in
theorem places_any (fn q r : Nat) (he : EntersO fn) (A : Option Addr) (n cap : Nat) (p : Nat → Bool) (w : World) (hn : n ≤ 12) (hp : AskP fn q r w n p) : Calls Tryz.prog 163 #[.slice A n cap, .func (.func fn) #[] #[.pointer (some ⟨q, 0, none⟩), .pointer (some ⟨r, 0, none⟩)]] w fun e w' => (∃ A c, e = .returned (.slice A (selTo p n).length c) ∧ IntsAt w' A c (selTo p n)) ∧ Below w.heap.size w w' := by
  obtain ⟨i0, hi0, hz0, hz1, hz2⟩ := info_parts Tryz.infoInt
  have HP : Hid (AskP fn q r w n p) := hp
  have hn' : (n : Int) ≤ 12 := by omega
  clear hp
  unfold EntersO at he
  go_enter Tryz.func163, Tryz.ntmps163
  go_wp2_with fail
  go_loopg [5, 9] n (fun g s5 s9 wr => ∃ (k : Nat), k ≤ n ∧ g = n - k ∧ s9 = .int .i64 k ∧ wr.ownsRow w.heap.size 3 1 s5 (selTo p k).length (mapI (selTo p k)) ∧ Below w.heap.size w wr)
  case atStart => exact ⟨0, Nat.zero_le _, rfl, rfl, World.ownsRow_nil _ _ _ _, Below.refl _ _⟩
  case round =>
    obtain ⟨k, hk, rfl, rfl, hown, hBw⟩ := hrel
    have HW : Hid (Below w.heap.size w wr) := hBw
    have HO : Hid (wr.ownsRow w.heap.size 3 1 _ (selTo p k).length (mapI (selTo p k))) := hown
    by_cases hlt : k < n
    · have hki : (k : Int) < (n : Int) := by omega
      have hbd := HP.out k wr hlt hBw
      clear hBw hown
      cases hb : p k
      · rw [hb] at hbd
        have HK : Hid (p k = false) := hb
        clear hb
        go_wp2_with fail
        refine hbd.mono ?_
        rintro e w1 ⟨rfl, hb1⟩
        go_wp2_with fail
        go_roundg (n - (k + 1))
        case measure => omega
        case rel => exact ⟨k + 1, by omega, rfl, by go_num, by rw [selTo_miss HK.out]; exact own_later HO.out hb1, onB HW.out hb1⟩
      · rw [hb] at hbd
        have HK : Hid (p k = true) := hb
        have hlen := selTo_len p k
        clear hb
        go_wp2_with fail
        refine hbd.mono ?_
        rintro e w1 ⟨rfl, hb1⟩
        have hown := own_later HO.out hb1
        have hB1 := onB HW.out hb1
        have hsz := hB1.size
        have HB1 : Hid (Below w.heap.size w w1) := hB1
        clear hb1 hB1
        go_wp2_with (at_builtin; refine wpList_append_own _ rfl _ _ 61 rfl w.heap.size 3 i0 (.int .i64 0) 1 8 Tryz.underlying61 hi0 hz0 hz1 hz2 rfl (by decide) _ _ _ rfl (hown.alloc _) ⟨w1.heap.size, 0, none⟩ 1 1 [.int .i64 k] rfl rfl one_cell one_one (by unfold maxLen; omega) (by omega) (by simp; omega) ?_)
        intro v' w2 hown' hgrow _
        have HB2 : Hid (Below w.heap.size w w2) := grown_own HB1.out hown hgrow
        have HO2 : Hid (w2.ownsRow w.heap.size 3 1 v' (selTo p (k + 1)).length (mapI (selTo p (k + 1)))) := by
          show World.ownsRow ..
          rw [selTo_hit HK.out, mapI_snoc, List.length_append]; exact hown'
        clear hown' hgrow hown
        go_wp2_with fail
        go_roundg (n - (k + 1))
        case measure => omega
        case rel => exact ⟨k + 1, by omega, rfl, by go_num, HO2.out, HB2.out⟩
    · have hke : k = n := by omega
      subst hke
      clear hBw hown
      go_wp2_with fail
      go_ret
      obtain ⟨A, c, h1, h2⟩ := ints_of HO.out
      exact ⟨⟨A, c, by rw [← h1]; rfl, h2⟩, HW.out⟩

set_option maxHeartbeats 1000000 in
theorem index_ints (A : Option Addr) (cap : Nat) (L : List Int) (i : Int) (w : World) (hn : L.length ≤ 12) (hL : IntsAt w A cap L) : Calls Tryz.prog 126 #[.slice A L.length cap, .int .i64 i] w fun e w' => e = .returned (.int .i64 (findFrom (fun j => L.getD j 0 == i) L.length 0)) ∧ Below w.heap.size w w' := by
  obtain ⟨hc, h0 | ⟨b, rfl, hbw, hcell⟩⟩ := hL
  · subst h0
    simp only [List.length_nil]
    go_enter Tryz.func126, Tryz.ntmps126
    go_wp2_with fail
    refine wp_loop_rounds 1 ?_
    rw [rounds_succ]
    go_wp2_with fail
    go_ret
    exact ⟨rfl, Below.refl _ _⟩
  · have HC : Hid (∀ j, j < L.length → w.cell? ⟨b, j, none⟩ = some (.int .i64 (L.getD j 0))) := hcell
    obtain ⟨p, hp⟩ : ∃ p : Nat → Bool, p = fun j => L.getD j 0 == i := ⟨_, rfl⟩
    have HP : Hid (∀ j, p j = (L.getD j 0 == i)) := fun j => by rw [hp]
    rw [← hp]
    generalize hnn : L.length = n at hn hc HC
    clear hcell hp hnn
    go_enter Tryz.func126, Tryz.ntmps126
    go_wp2_with fail
    go_loopg [8] n (fun g s8 wr => ∃ (k : Nat), k ≤ n ∧ g = n - k ∧ s8 = .int .i64 k ∧ findFrom p (n - k) k = findFrom p n 0 ∧ wr = w)
    case atStart => exact ⟨0, Nat.zero_le _, rfl, rfl, rfl, rfl⟩
    case round =>
      obtain ⟨k, hk, rfl, rfl, hf, rfl⟩ := hrel
      have HF : Hid (findFrom p (n - k) k = findFrom p n 0) := hf
      clear hf
      by_cases hlt : k < n
      · have hki : (k : Int) < (n : Int) := by omega
        have hcx := HC.out k hlt
        have hsk : n - k = (n - (k + 1)) + 1 := by omega
        have hn' : (n : Int) ≤ 12 := by omega
        have hpk := HP.out k
        have HSK : Hid (n - k = (n - (k + 1)) + 1) := hsk
        generalize L.getD k 0 = x at hcx hpk
        clear hsk
        cases hb : p k
        · have HK : Hid (p k = false) := hb
          rw [hb] at hpk
          have hx : (i == x) = false := by
            have h1 : x ≠ i := by simpa using hpk.symm
            simpa using fun h : i = x => h1 h.symm
          clear hb hpk
          go_wp2_with fail
          go_roundg (n - (k + 1))
          case measure => omega
          case rel => exact ⟨k + 1, by omega, rfl, by go_num, by rw [← HF.out, HSK.out, findFrom_miss _ HK.out], rfl⟩
        · have HK : Hid (p k = true) := hb
          rw [hb] at hpk
          have hx : (i == x) = true := by
            have h1 : x = i := by simpa using hpk.symm
            simpa using h1.symm
          clear hb hpk
          go_wp2_with fail
          go_ret
          exact ⟨by rw [← HF.out, HSK.out, findFrom_hit _ HK.out]; rfl, Below.refl _ _⟩
      · have hke : k = n := by omega
        subst hke
        go_wp2_with fail
        go_ret
        exact ⟨by rw [← HF.out, Nat.sub_self]; rfl, Below.refl _ _⟩

theorem contains_ints (A : Option Addr) (cap : Nat) (L : List Int) (i : Int) (w : World) (hn : L.length ≤ 12) (hL : IntsAt w A cap L) : Calls Tryz.prog 81 #[.slice A L.length cap, .int .i64 i] w fun e w' => e = .returned (.bool (inB L i)) ∧ Below w.heap.size w w' := by
  have h := index_ints A cap L i w hn hL
  have HI : Hid (decide (0 ≤ findFrom (fun j => L.getD j 0 == i) L.length 0) = inB L i) := find_in L i
  generalize findFrom (fun j => L.getD j 0 == i) L.length 0 = f at h HI
  generalize L.length = n at h
  clear hL hn
  go_enter Tryz.func81, Tryz.ntmps81
  go_wp2_with fail
  refine h.mono ?_
  rintro e w1 ⟨rfl, hb1⟩
  go_wp2_with fail
  go_ret
  exact ⟨by rw [← HI.out]; rfl, hb1⟩
end Go.Proofs.YtpnfmpbgjkhicaeGreatDoor

namespace Go.Proofs.YtpnfmpbgjkhicaeGreatDoor
open Go.ChangeShapes Go.WideShapes Go.ChangeAt Go.RowKit
set_option maxRecDepth 20000

def outB (n : Nat) (i : Int) : Bool := decide (i < 0) || decide ((n : Int) ≤ i)

theorem check1_any (i : Int) (A : Option Addr) (n cap q : Nat) (w : World) (h : w.cell? ⟨q, 2, none⟩ = some (.slice A n cap)) : Calls Tryz.prog 182 #[.int .i64 i, .pointer (some ⟨q, 0, none⟩)] w fun e w' => e = .returned (.bool (outB n i)) ∧ Below w.heap.size w w' := by
  unfold outB
  by_cases h1 : i < 0
  · go_enter Tryz.func182, Tryz.ntmps182
    go_wp2
    go_ret
    exact ⟨by simp <;> omega, by go_grown⟩
  · go_enter Tryz.func182, Tryz.ntmps182
    go_wp2
    go_ret
    exact ⟨by simp <;> omega, by go_grown⟩

set_option maxHeartbeats 1000000 in
theorem indexf_ints (A : Option Addr) (cap : Nat) (L : List Int) (Am : Option Addr) (nm cm q : Nat) (w : World) (hn : L.length ≤ 2) (hL : IntsAt w A cap L) (hq : q < w.heap.size) (hqc : w.cell? ⟨q, 2, none⟩ = some (.slice Am nm cm)) :
    Calls Tryz.prog 113 #[.slice A L.length cap, .func (.func 182) #[] #[.pointer (some ⟨q, 0, none⟩)]] w fun e w' => e = .returned (.int .i64 (findFrom (fun j => outB nm (L.getD j 0)) L.length 0)) ∧ Below w.heap.size w w' := by
  obtain ⟨hc, h0 | ⟨b, rfl, hbw, hcell⟩⟩ := hL
  · subst h0
    simp only [List.length_nil]
    go_enter Tryz.func113, Tryz.ntmps113
    go_wp2_with fail
    refine wp_loop_rounds 1 ?_
    rw [rounds_succ]
    go_wp2_with fail
    go_ret
    exact ⟨rfl, Below.refl _ _⟩
  · have HC : Hid (∀ j, j < L.length → w.cell? ⟨b, j, none⟩ = some (.int .i64 (L.getD j 0))) := hcell
    have HQ : Hid (w.cell? ⟨q, 2, none⟩ = some (.slice Am nm cm)) := hqc
    obtain ⟨p, hp⟩ : ∃ p : Nat → Bool, p = fun j => outB nm (L.getD j 0) := ⟨_, rfl⟩
    have HP : Hid (∀ j, p j = outB nm (L.getD j 0)) := fun j => by rw [hp]
    rw [← hp]
    generalize hnn : L.length = n at hn hc HC
    clear hcell hp hnn hqc
    go_enter Tryz.func113, Tryz.ntmps113
    go_wp2_with fail
    go_loopg [8] n (fun g s8 wr => ∃ (k : Nat), k ≤ n ∧ g = n - k ∧ s8 = .int .i64 k ∧ findFrom p (n - k) k = findFrom p n 0 ∧ Below w.heap.size w wr)
    case atStart => exact ⟨0, Nat.zero_le _, rfl, rfl, rfl, Below.refl _ _⟩
    case round =>
      obtain ⟨k, hk, rfl, rfl, hf, hBw⟩ := hrel
      have HF : Hid (findFrom p (n - k) k = findFrom p n 0) := hf
      have HW : Hid (Below w.heap.size w wr) := hBw
      clear hf
      by_cases hlt : k < n
      · have hki : (k : Int) < (n : Int) := by omega
        have hcx := (hBw.cell (p := ⟨b, k, none⟩) hbw).trans (HC.out k hlt)
        have hn' : (n : Int) ≤ 2 := by omega
        have hpk := HP.out k
        have HSK : Hid (n - k = (n - (k + 1)) + 1) := by show _ = _; omega
        have hbd := check1_any (L.getD k 0) Am nm cm q wr ((hBw.cell (p := ⟨q, 2, none⟩) hq).trans HQ.out)
        rw [← hpk] at hbd
        generalize L.getD k 0 = x at hcx hpk hbd
        clear hBw hpk
        cases hb : p k
        · have HK : Hid (p k = false) := hb
          rw [hb] at hbd
          clear hb
          go_wp2_with fail
          refine hbd.mono ?_
          rintro e w1 ⟨rfl, hb1⟩
          go_wp2_with fail
          go_roundg (n - (k + 1))
          case measure => omega
          case rel => exact ⟨k + 1, by omega, rfl, by go_num, by rw [← HF.out, HSK.out, findFrom_miss _ HK.out], onB HW.out hb1⟩
        · have HK : Hid (p k = true) := hb
          rw [hb] at hbd
          clear hb
          go_wp2_with fail
          refine hbd.mono ?_
          rintro e w1 ⟨rfl, hb1⟩
          go_wp2_with fail
          go_ret
          exact ⟨by rw [← HF.out, HSK.out, findFrom_hit _ HK.out]; rfl, onB HW.out hb1⟩
      · have hke : k = n := by omega
        subst hke
        clear hBw
        go_wp2_with fail
        go_ret
        exact ⟨by rw [← HF.out, Nat.sub_self]; rfl, HW.out⟩

theorem containsf_ints (A : Option Addr) (cap : Nat) (L : List Int) (Am : Option Addr) (nm cm q : Nat) (w : World) (hn : L.length ≤ 2) (hL : IntsAt w A cap L) (hq : q < w.heap.size) (hqc : w.cell? ⟨q, 2, none⟩ = some (.slice Am nm cm)) :
    Calls Tryz.prog 70 #[.slice A L.length cap, .func (.func 182) #[] #[.pointer (some ⟨q, 0, none⟩)]] w fun e w' => e = .returned (.bool (decide (0 ≤ findFrom (fun j => outB nm (L.getD j 0)) L.length 0))) ∧ Below w.heap.size w w' := by
  have h := indexf_ints A cap L Am nm cm q w hn hL hq hqc
  generalize findFrom (fun j => outB nm (L.getD j 0)) L.length 0 = f at h
  generalize L.length = n at h
  clear hL hn hq hqc
  go_enter Tryz.func70, Tryz.ntmps70
  go_wp2_with fail
  refine h.mono ?_
  rintro e w1 ⟨rfl, hb1⟩
  go_wp2_with fail
  go_ret
  exact ⟨rfl, hb1⟩

theorem treeErr_range {d : Dm} {L : List Int} (h : (dimErr d).2 = 0) : treeErr d L = if 0 ≤ findFrom (fun j => outB d.n (L.getD j 0)) L.length 0 then 1 else 0 := by
  unfold treeErr rangeErr; rw [if_neg (by simpa using h)]; rfl

set_option maxHeartbeats 2000000 in
theorem tcheck_any (d : Dm) (A : Option Addr) (cap : Nat) (Ai : Option Addr) (ci : Nat) (L : List Int) (w : World) (hM : MemsV w A cap d.n d.mem) (hn : L.length ≤ 2) (hL : IntsAt w Ai ci L) : Calls Tryz.prog 162 #[dimV d A cap, .slice Ai L.length ci] w fun e w' => e = .returned (errV (treeErr d L)) ∧ Below w.heap.size w w' := by
  have hS := ownDim_size w d A cap 51
  have hB0 := ownDim_below w d A cap 51
  have hA := (ownDim_at w d A cap 51).2.2
  have hck := dcheck_any d A cap (ownDim w d A cap 51) (hM.later hB0)
  unfold dimV at hck ⊢
  have HB0 : Hid (Below w.heap.size w (ownDim w d A cap 51)) := hB0
  have HS : Hid ((ownDim w d A cap 51).heap.size = w.heap.size + 1) := hS
  have HA : Hid ((ownDim w d A cap 51).cell? ⟨w.heap.size, 2, none⟩ = some (.slice A d.n cap)) := hA
  have HL : Hid (IntsAt w Ai ci L) := hL
  clear hM hS hB0 hA hL
  by_cases he : (dimErr d).2 = 0
  · obtain ⟨e1, hd1, hd2, -⟩ := dimErr_right he
    rw [he, e1, errV_zero] at hck
    have HE : Hid ((dimErr d).2 = 0) := he
    clear he e1
    go_enter Tryz.func162, Tryz.ntmps162
    go_wp2_with fail
    refine hck.mono ?_
    rintro e w1 ⟨rfl, hb1⟩
    have hB : Below w.heap.size w w1 := onB HB0.out hb1
    have hz : w.heap.size < w1.heap.size := by
      have := hb1.size
      rw [HS.out] at this
      omega
    have h2 : w1.cell? ⟨w.heap.size, 2, none⟩ = some (.slice A d.n cap) := (hb1.cell (p := ⟨w.heap.size, 2, none⟩) (by show w.heap.size < _; rw [HS.out]; omega)).trans HA.out
    have hcf := containsf_ints Ai ci L A d.n cap w.heap.size w1 hn (HL.out.later hB) hz h2
    have HR : Hid (treeErr d L = if 0 ≤ findFrom (fun j => outB d.n (L.getD j 0)) L.length 0 then 1 else 0) := treeErr_range HE.out
    have HB : Hid (Below w.heap.size w w1) := hB
    generalize findFrom (fun j => outB d.n (L.getD j 0)) L.length 0 = f at hcf HR
    generalize L.length = n at hcf
    clear hb1 hck h2 hB
    by_cases hf : 0 ≤ f
    · rw [decide_eq_true hf] at hcf
      have HR1 : Hid (treeErr d L = 1) := by show _ = _; rw [HR.out, if_pos hf]
      clear hf HR
      go_wp2_with fail
      refine hcf.mono ?_
      rintro e w2 ⟨rfl, hb2⟩
      go_wp2_with fail
      go_ret
      exact ⟨by rw [HR1.out]; rfl, onB HB.out hb2⟩
    · rw [decide_eq_false hf] at hcf
      have HR1 : Hid (treeErr d L = 0) := by show _ = _; rw [HR.out, if_neg hf]
      clear hf HR
      go_wp2_with fail
      refine hcf.mono ?_
      rintro e w2 ⟨rfl, hb2⟩
      go_wp2_with fail
      go_ret
      exact ⟨by rw [HR1.out]; rfl, onB HB.out hb2⟩
  · have HK : Hid (errV (treeErr d L) = .iface 72 (.int .i64 (dimErr d).2)) := by show _ = _; rw [treeErr_dim he, errV_some he]
    rw [errV_some he] at hck
    clear he
    generalize (dimErr d).2 = c at hck HK
    go_enter Tryz.func162, Tryz.ntmps162
    go_wp2_with fail
    refine hck.mono ?_
    rintro e w1 ⟨rfl, hb1⟩
    go_wp2_with fail
    go_ret
    exact ⟨by rw [HK.out]; rfl, onB HB0.out hb1⟩
end Go.Proofs.YtpnfmpbgjkhicaeGreatDoor

namespace Go.Proofs.YtpnfmpbgjkhicaeGreatDoor
open Go.ChangeShapes Go.WideShapes Go.ChangeAt Go.RowKit
set_option maxRecDepth 20000

theorem parts1_in : EntersO 164 := fun args w => by simp [callFunc, Tryz.func164]; rfl
theorem parts1_any (b o n cap k q r : Nat) (M : Nat → Mem) (i : Int) (w : World) (hk : k < n) (hn : n ≤ 12) (hM : MemsAt w b o n M) (hq : w.cell? ⟨q, 2, none⟩ = some (.slice (some ⟨b, o, none⟩) n cap)) (hr : w.cell? ⟨r, 0, none⟩ = some (.int .i64 i)) :
    Calls Tryz.prog 164 #[.int .i64 k, .pointer (some ⟨q, 0, none⟩), .pointer (some ⟨r, 0, none⟩)] w fun e w' => e = .returned (.bool (partB M i k)) ∧ Below w.heap.size w w' := by
  obtain ⟨-, h1, -, -⟩ := hM.2 k hk
  have hki : (k : Int) < (n : Int) := by omega
  have hn' : (n : Int) ≤ 12 := by omega
  unfold partB
  clear hM
  go_enter Tryz.func164, Tryz.ntmps164
  go_wp2_with fail
  go_quiet (fail)
  go_wp2_with fail
  go_ret
  exact ⟨by simp, below_drewN (Below.refl _ _) _⟩

def lst (c : Int) (L : List Int) : List Int := if c = 0 then L else []
theorem lst_ok {c : Int} (h : c = 0) (L : List Int) : lst c L = L := by simp [lst, h]
theorem lst_bad {c : Int} (h : c ≠ 0) (L : List Int) : lst c L = [] := by simp [lst, h]
theorem treeErr_right {d : Dm} {L : List Int} (h : treeErr d L = 0) : (dimErr d).2 = 0 := by
  unfold treeErr at h
  split at h
  · rename_i h1; exact absurd h h1
  · rename_i h1; simpa using h1
theorem treeErr_in {d : Dm} {i : Int} (h : treeErr d [i] = 0) : (dimErr d).2 = 0 ∧ ∃ k : Nat, i = k ∧ k < d.n := by
  have h0 := treeErr_right h
  rw [treeErr_one h0] at h
  by_cases h1 : i < 0 ∨ (d.n : Int) ≤ i
  · rw [if_pos h1] at h; cases h
  · exact ⟨h0, i.toNat, by omega, by omega⟩

/-- a place in a list of its own -/
theorem ints_one {w : World} {i : Int} {T : Nat} : IntsAt (ownInt w i T) (some ⟨w.heap.size, 0, none⟩) 1 [i] := by
  refine ⟨Nat.le_refl _, Or.inr ⟨_, rfl, by rw [ownInt_size]; omega, fun j hj => ?_⟩⟩
  have hj0 : j = 0 := by simp at hj; omega
  subst hj0
  exact ownInt_at w i T

def ownP (w : World) (d : Dm) (A : Option Addr) (cap : Nat) (i : Int) (T T' : Nat) : World := ownInt (ownDim w d A cap T) i T'
theorem ownP_size (w : World) (d : Dm) (A : Option Addr) (cap : Nat) (i : Int) (T T' : Nat) : (ownP w d A cap i T T').heap.size = w.heap.size + 2 := by unfold ownP; rw [ownInt_size, ownDim_size]
theorem ownP_below (w : World) (d : Dm) (A : Option Addr) (cap : Nat) (i : Int) (T T' : Nat) : Below w.heap.size w (ownP w d A cap i T T') := onB (ownDim_below w d A cap T) (ownInt_below _ i T')
theorem ownP_dim (w : World) (d : Dm) (A : Option Addr) (cap : Nat) (i : Int) (T T' : Nat) : (ownP w d A cap i T T').cell? ⟨w.heap.size, 2, none⟩ = some (.slice A d.n cap) :=
  ((ownInt_below (ownDim w d A cap T) i T').cell (p := ⟨w.heap.size, 2, none⟩) (by show w.heap.size < _; rw [ownDim_size]; omega)).trans (ownDim_at w d A cap T).2.2
theorem ownP_int (w : World) (d : Dm) (A : Option Addr) (cap : Nat) (i : Int) (T T' : Nat) : (ownP w d A cap i T T').cell? ⟨w.heap.size + 1, 0, none⟩ = some (.int .i64 i) := by
  unfold ownP
  rw [← ownDim_size w d A cap T]
  exact ownInt_at _ i T'
theorem ownP_ints (w : World) (d : Dm) (A : Option Addr) (cap : Nat) (i : Int) (T T' : Nat) : IntsAt (ownP w d A cap i T T') (some ⟨w.heap.size + 1, 0, none⟩) 1 [i] := by
  unfold ownP
  rw [← ownDim_size w d A cap T]
  exact ints_one
def ownQ (w : World) (d : Dm) (A : Option Addr) (cap : Nat) (i : Int) (T T' : Nat) : World := ownInt (ownP w d A cap i T T') i T'
theorem ownQ_size (w : World) (d : Dm) (A : Option Addr) (cap : Nat) (i : Int) (T T' : Nat) : (ownQ w d A cap i T T').heap.size = w.heap.size + 3 := by unfold ownQ; rw [ownInt_size, ownP_size]
theorem ownQ_below (w : World) (d : Dm) (A : Option Addr) (cap : Nat) (i : Int) (T T' : Nat) : Below w.heap.size w (ownQ w d A cap i T T') := onB (ownP_below w d A cap i T T') (ownInt_below _ i T')
theorem ownQ_dim (w : World) (d : Dm) (A : Option Addr) (cap : Nat) (i : Int) (T T' : Nat) : (ownQ w d A cap i T T').cell? ⟨w.heap.size, 2, none⟩ = some (.slice A d.n cap) :=
  ((ownInt_below (ownP w d A cap i T T') i T').cell (p := ⟨w.heap.size, 2, none⟩) (by show w.heap.size < _; rw [ownP_size]; omega)).trans (ownP_dim ..)
theorem ownQ_int (w : World) (d : Dm) (A : Option Addr) (cap : Nat) (i : Int) (T T' : Nat) : (ownQ w d A cap i T T').cell? ⟨w.heap.size + 1, 0, none⟩ = some (.int .i64 i) :=
  ((ownInt_below (ownP w d A cap i T T') i T').cell (p := ⟨w.heap.size + 1, 0, none⟩) (by show w.heap.size + 1 < _; rw [ownP_size]; omega)).trans (ownP_int ..)
theorem ownQ_ints (w : World) (d : Dm) (A : Option Addr) (cap : Nat) (i : Int) (T T' : Nat) : IntsAt (ownQ w d A cap i T T') (some ⟨w.heap.size + 2, 0, none⟩) 1 [i] := by
  unfold ownQ
  rw [← ownP_size w d A cap i T T']
  exact ints_one

set_option maxHeartbeats 2000000 in
theorem parts_any (d : Dm) (A : Option Addr) (cap : Nat) (i : Int) (w : World) (hM : MemsV w A cap d.n d.mem) : Calls Tryz.prog 123 #[dimV d A cap, .int .i64 i] w fun e w' => (∃ A' c', e = .returned (.tuple #[.slice A' (lst (treeErr d [i]) (partsOf d.mem d.n i)).length c', errV (treeErr d [i])]) ∧ IntsAt w' A' c' (lst (treeErr d [i]) (partsOf d.mem d.n i))) ∧ Below w.heap.size w w' := by
  have hB0 := ownQ_below w d A cap i 51 3
  have hck := tcheck_any d A cap _ 1 [i] (ownQ w d A cap i 51 3) (hM.later hB0) (by simp) (ownQ_ints ..)
  have HB0 : Hid (Below w.heap.size w (ownQ w d A cap i 51 3)) := hB0
  have HM : Hid (MemsV w A cap d.n d.mem) := hM
  unfold dimV at hck ⊢
  simp only [List.length_singleton] at hck
  clear hM hB0
  by_cases he : treeErr d [i] = 0
  · obtain ⟨hd, k, rfl, hk⟩ := treeErr_in he
    rw [he, errV_zero] at hck
    obtain ⟨-, -, hd2, -⟩ := dimErr_right hd
    have HR : Hid (lst (treeErr d [(k : Int)]) (partsOf d.mem d.n k) = selTo (partB d.mem k) d.n) := lst_ok he _
    have HE : Hid (errV (treeErr d [(k : Int)]) = .nilIface) := by show _ = _; rw [he]; rfl
    clear he hd
    go_enter Tryz.func123, Tryz.ntmps123
    go_wp2_with fail
    refine hck.mono ?_
    rintro e w1 ⟨rfl, hb1⟩
    have hB : Below w.heap.size w w1 := onB HB0.out hb1
    have hz : w.heap.size + 1 < w1.heap.size := by have := hb1.size; rw [ownQ_size] at this; omega
    have h2 : w1.cell? ⟨w.heap.size, 2, none⟩ = some (.slice A d.n cap) := (hb1.cell (p := ⟨w.heap.size, 2, none⟩) (by show w.heap.size < _; rw [ownQ_size]; omega)).trans (ownQ_dim ..)
    have h3 : w1.cell? ⟨w.heap.size + 1, 0, none⟩ = some (.int .i64 k) := (hb1.cell (p := ⟨w.heap.size + 1, 0, none⟩) (by show w.heap.size + 1 < _; rw [ownQ_size]; omega)).trans (ownQ_int ..)
    obtain ⟨hcap, h0 | ⟨b, o, rfl, hMs⟩⟩ := HM.out.later hB
    · omega
    have hpl := places_any 164 w.heap.size (w.heap.size + 1) parts1_in (some ⟨b, o, none⟩) d.n cap (partB d.mem k) w1 hd2 (fun j w' hj hw' => parts1_any b o d.n cap j w.heap.size (w.heap.size + 1) d.mem k w' hj hd2 (hMs.later hw') ((hw'.cell (p := ⟨w.heap.size, 2, none⟩) (by show w.heap.size < _; omega)).trans h2) ((hw'.cell (p := ⟨w.heap.size + 1, 0, none⟩) hz).trans h3))
    have HB : Hid (Below w.heap.size w w1) := hB
    clear hb1 hck hMs h3 hB
    go_wp2_with fail
    refine hpl.mono ?_
    rintro e w2 ⟨⟨A', c', rfl, hI⟩, hb2⟩
    go_wp2_with fail
    go_ret2
    rw [HR.out, HE.out]
    exact ⟨⟨A', c', rfl, hI⟩, onB HB.out hb2⟩
  · have HR : Hid (lst (treeErr d [i]) (partsOf d.mem d.n i) = []) := lst_bad he _
    have HE : Hid (errV (treeErr d [i]) = .iface 72 (.int .i64 (treeErr d [i]))) := errV_some he
    rw [errV_some he] at hck
    clear he
    generalize treeErr d [i] = c at hck HR HE
    go_enter Tryz.func123, Tryz.ntmps123
    go_wp2_with fail
    refine hck.mono ?_
    rintro e w1 ⟨rfl, hb1⟩
    go_wp2_with fail
    go_ret2
    rw [HR.out, HE.out]
    exact ⟨⟨none, 0, rfl, IntsAt.nil _ _ _⟩, onB HB0.out hb1⟩

def lfOf (d : Dm) (i : Int) : Bool := decide (treeErr d [i] = 0) && leafB d.mem d.n i.toNat

end Go.Proofs.YtpnfmpbgjkhicaeGreatDoor

namespace Go.Proofs.YtpnfmpbgjkhicaeGreatDoor
open Go.ChangeShapes Go.WideShapes Go.ChangeAt Go.RowKit
set_option maxRecDepth 20000

theorem ints_new {w : World} {base e : Nat} {v : Value} {L : List Int} (h : w.ownsRow base e 1 v L.length (mapI L)) : ∃ A cap, v = .slice A L.length cap ∧ IntsAt w A cap L ∧ ∀ b o, A = some ⟨b, o, none⟩ → base ≤ b := by
  obtain ⟨A, cap, h1, h2⟩ := ints_of h
  refine ⟨A, cap, h1, h2, fun b o e => ?_⟩
  subst h1
  exact (h.lt b (by simp [Value.ownBlock, e])).1

set_option maxHeartbeats 2000000 in
theorem places_new (fn q r : Nat) (he : EntersO fn) (A : Option Addr) (n cap : Nat) (p : Nat → Bool) (w : World) (hn : n ≤ 12) (hp : AskP fn q r w n p) : Calls Tryz.prog 163 #[.slice A n cap, .func (.func fn) #[] #[.pointer (some ⟨q, 0, none⟩), .pointer (some ⟨r, 0, none⟩)]] w fun e w' => (∃ A c, e = .returned (.slice A (selTo p n).length c) ∧ IntsAt w' A c (selTo p n) ∧ ∀ b o, A = some ⟨b, o, none⟩ → w.heap.size ≤ b) ∧ Below w.heap.size w w' := by
  obtain ⟨i0, hi0, hz0, hz1, hz2⟩ := info_parts Tryz.infoInt
  have HP : Hid (AskP fn q r w n p) := hp
  have hn' : (n : Int) ≤ 12 := by omega
  clear hp
  unfold EntersO at he
  go_enter Tryz.func163, Tryz.ntmps163
  go_wp2_with fail
  go_loopg [5, 9] n (fun g s5 s9 wr => ∃ (k : Nat), k ≤ n ∧ g = n - k ∧ s9 = .int .i64 k ∧ wr.ownsRow w.heap.size 3 1 s5 (selTo p k).length (mapI (selTo p k)) ∧ Below w.heap.size w wr)
  case atStart => exact ⟨0, Nat.zero_le _, rfl, rfl, World.ownsRow_nil _ _ _ _, Below.refl _ _⟩
  case round =>
    obtain ⟨k, hk, rfl, rfl, hown, hBw⟩ := hrel
    have HW : Hid (Below w.heap.size w wr) := hBw
    have HO : Hid (wr.ownsRow w.heap.size 3 1 _ (selTo p k).length (mapI (selTo p k))) := hown
    by_cases hlt : k < n
    · have hki : (k : Int) < (n : Int) := by omega
      have hbd := HP.out k wr hlt hBw
      clear hBw hown
      cases hb : p k
      · rw [hb] at hbd
        have HK : Hid (p k = false) := hb
        clear hb
        go_wp2_with fail
        refine hbd.mono ?_
        rintro e w1 ⟨rfl, hb1⟩
        go_wp2_with fail
        go_roundg (n - (k + 1))
        case measure => omega
        case rel => exact ⟨k + 1, by omega, rfl, by go_num, by rw [selTo_miss HK.out]; exact own_later HO.out hb1, onB HW.out hb1⟩
      · rw [hb] at hbd
        have HK : Hid (p k = true) := hb
        have hlen := selTo_len p k
        clear hb
        go_wp2_with fail
        refine hbd.mono ?_
        rintro e w1 ⟨rfl, hb1⟩
        have hown := own_later HO.out hb1
        have hB1 := onB HW.out hb1
        have hsz := hB1.size
        have HB1 : Hid (Below w.heap.size w w1) := hB1
        clear hb1 hB1
        go_wp2_with (at_builtin; refine wpList_append_own _ rfl _ _ 61 rfl w.heap.size 3 i0 (.int .i64 0) 1 8 Tryz.underlying61 hi0 hz0 hz1 hz2 rfl (by decide) _ _ _ rfl (hown.alloc _) ⟨w1.heap.size, 0, none⟩ 1 1 [.int .i64 k] rfl rfl one_cell one_one (by unfold maxLen; omega) (by omega) (by simp; omega) ?_)
        intro v' w2 hown' hgrow _
        have HB2 : Hid (Below w.heap.size w w2) := grown_own HB1.out hown hgrow
        have HO2 : Hid (w2.ownsRow w.heap.size 3 1 v' (selTo p (k + 1)).length (mapI (selTo p (k + 1)))) := by
          show World.ownsRow ..
          rw [selTo_hit HK.out, mapI_snoc, List.length_append]; exact hown'
        clear hown' hgrow hown
        go_wp2_with fail
        go_roundg (n - (k + 1))
        case measure => omega
        case rel => exact ⟨k + 1, by omega, rfl, by go_num, HO2.out, HB2.out⟩
    · have hke : k = n := by omega
      subst hke
      clear hBw hown
      go_wp2_with fail
      go_ret
      obtain ⟨A, c, h1, h2, h3⟩ := ints_new HO.out
      exact ⟨⟨A, c, by rw [← h1]; rfl, h2, h3⟩, HW.out⟩

set_option maxHeartbeats 2000000 in
theorem parts_new (d : Dm) (A : Option Addr) (cap : Nat) (i : Int) (w : World) (hM : MemsV w A cap d.n d.mem) : Calls Tryz.prog 123 #[dimV d A cap, .int .i64 i] w fun e w' => (∃ A' c', e = .returned (.tuple #[.slice A' (lst (treeErr d [i]) (partsOf d.mem d.n i)).length c', errV (treeErr d [i])]) ∧ IntsAt w' A' c' (lst (treeErr d [i]) (partsOf d.mem d.n i)) ∧ ∀ b o, A' = some ⟨b, o, none⟩ → w.heap.size ≤ b) ∧ Below w.heap.size w w' := by
  have hB0 := ownQ_below w d A cap i 51 3
  have hck := tcheck_any d A cap _ 1 [i] (ownQ w d A cap i 51 3) (hM.later hB0) (by simp) (ownQ_ints ..)
  have HB0 : Hid (Below w.heap.size w (ownQ w d A cap i 51 3)) := hB0
  have HM : Hid (MemsV w A cap d.n d.mem) := hM
  unfold dimV at hck ⊢
  simp only [List.length_singleton] at hck
  clear hM hB0
  by_cases he : treeErr d [i] = 0
  · obtain ⟨hd, k, rfl, hk⟩ := treeErr_in he
    rw [he, errV_zero] at hck
    obtain ⟨-, -, hd2, -⟩ := dimErr_right hd
    have HR : Hid (lst (treeErr d [(k : Int)]) (partsOf d.mem d.n k) = selTo (partB d.mem k) d.n) := lst_ok he _
    have HE : Hid (errV (treeErr d [(k : Int)]) = .nilIface) := by show _ = _; rw [he]; rfl
    clear he hd
    go_enter Tryz.func123, Tryz.ntmps123
    go_wp2_with fail
    refine hck.mono ?_
    rintro e w1 ⟨rfl, hb1⟩
    have hB : Below w.heap.size w w1 := onB HB0.out hb1
    have hz : w.heap.size + 1 < w1.heap.size := by have := hb1.size; rw [ownQ_size] at this; omega
    have h2 : w1.cell? ⟨w.heap.size, 2, none⟩ = some (.slice A d.n cap) := (hb1.cell (p := ⟨w.heap.size, 2, none⟩) (by show w.heap.size < _; rw [ownQ_size]; omega)).trans (ownQ_dim ..)
    have h3 : w1.cell? ⟨w.heap.size + 1, 0, none⟩ = some (.int .i64 k) := (hb1.cell (p := ⟨w.heap.size + 1, 0, none⟩) (by show w.heap.size + 1 < _; rw [ownQ_size]; omega)).trans (ownQ_int ..)
    obtain ⟨hcap, h0 | ⟨b, o, rfl, hMs⟩⟩ := HM.out.later hB
    · omega
    have hpl := places_new 164 w.heap.size (w.heap.size + 1) parts1_in (some ⟨b, o, none⟩) d.n cap (partB d.mem k) w1 hd2 (fun j w' hj hw' => parts1_any b o d.n cap j w.heap.size (w.heap.size + 1) d.mem k w' hj hd2 (hMs.later hw') ((hw'.cell (p := ⟨w.heap.size, 2, none⟩) (by show w.heap.size < _; omega)).trans h2) ((hw'.cell (p := ⟨w.heap.size + 1, 0, none⟩) hz).trans h3))
    have HB : Hid (Below w.heap.size w w1) := hB
    clear hb1 hck hMs h3 hB
    go_wp2_with fail
    refine hpl.mono ?_
    rintro e w2 ⟨⟨A', c', rfl, hI, hN⟩, hb2⟩
    have HNw : Hid (∀ b o, A' = some ⟨b, o, none⟩ → w.heap.size ≤ b) := fun b o e => Nat.le_trans HB.out.size (hN b o e)
    clear hN
    go_wp2_with fail
    go_ret2
    rw [HR.out, HE.out]
    exact ⟨⟨A', c', rfl, hI, HNw.out⟩, onB HB.out hb2⟩
  · have HR : Hid (lst (treeErr d [i]) (partsOf d.mem d.n i) = []) := lst_bad he _
    have HE : Hid (errV (treeErr d [i]) = .iface 72 (.int .i64 (treeErr d [i]))) := errV_some he
    rw [errV_some he] at hck
    clear he
    generalize treeErr d [i] = c at hck HR HE
    go_enter Tryz.func123, Tryz.ntmps123
    go_wp2_with fail
    refine hck.mono ?_
    rintro e w1 ⟨rfl, hb1⟩
    go_wp2_with fail
    go_ret2
    rw [HR.out, HE.out]
    exact ⟨⟨none, 0, rfl, IntsAt.nil _ _ _, fun b o e => by cases e⟩, onB HB0.out hb1⟩

end Go.Proofs.YtpnfmpbgjkhicaeGreatDoor

namespace Go.Proofs.YtpnfmpbgjkhicaeGreatDoor
open Go.ChangeShapes Go.WideShapes Go.ChangeAt Go.RowKit
set_option maxRecDepth 20000

/-- a slice of ints at the head of a block of ints -/
def IntT (w : World) (A : Option Addr) (c : Nat) (L : List Int) : Prop := L.length ≤ c ∧ c ≤ 9223372036854775807 ∧ (L = [] ∨ ∃ b cs fr, A = some ⟨b, 0, none⟩ ∧ w.heap[b]? = some (.cells cs 3 fr) ∧ ∀ j, j < L.length → w.cell? ⟨b, j, none⟩ = some (.int .i64 (L.getD j 0)))
theorem IntT.at {w : World} {A : Option Addr} {c : Nat} {L : List Int} (h : IntT w A c L) : IntsAt w A c L := by
  obtain ⟨h1, -, h2 | ⟨b, cs, fr, h2, h3, h4⟩⟩ := h
  · exact ⟨h1, Or.inl h2⟩
  · exact ⟨h1, Or.inr ⟨b, h2, (Array.getElem?_eq_some_iff.1 h3).1, h4⟩⟩
theorem IntT.nil (w : World) (A : Option Addr) (c : Nat) (h : c ≤ 9223372036854775807) : IntT w A c [] := ⟨Nat.zero_le _, h, Or.inl rfl⟩
theorem IntT.keep {w w' : World} {A : Option Addr} {c : Nat} {L : List Int} (h : IntT w A c L) (hB : ∀ (b : Nat) (cs : Array Value) (fr : Nat × Nat), w.heap[b]? = some (Obj.cells cs 3 fr) → w'.heap[b]? = w.heap[b]?) : IntT w' A c L := by
  obtain ⟨h1, h0, h2 | ⟨b, cs, fr, h2, h3, h4⟩⟩ := h
  · exact ⟨h1, h0, Or.inl h2⟩
  · have hb := hB b cs fr h3
    exact ⟨h1, h0, Or.inr ⟨b, cs, fr, h2, hb.trans h3, fun j hj => (World.cell?_of_block (a := ⟨b, j, none⟩) hb).trans (h4 j hj)⟩⟩
theorem IntT.later {w w' : World} {A : Option Addr} {c : Nat} {L : List Int} (h : IntT w A c L) (hB : Below w.heap.size w w') : IntT w' A c L :=
  h.keep fun b _ _ hb => hB.block b (Array.getElem?_eq_some_iff.1 hb).1
theorem intT_own {w : World} {base : Nat} {v : Value} {L : List Int} (h : w.ownsRow base 3 1 v L.length (mapI L)) : ∃ A c, v = .slice A L.length c ∧ IntT w A c L := by
  rcases h.2 with ⟨rfl, h0⟩ | ⟨g, cap, cur, rfl, hb, hg, hc, hm, _, _⟩
  · have : L = [] := List.eq_nil_of_length_eq_zero h0
    subst this
    exact ⟨none, 0, rfl, IntT.nil _ _ _ (by omega)⟩
  · refine ⟨_, cap, rfl, hc, by unfold maxLen at hm; omega, Or.inr ⟨g, cur, _, rfl, hg, fun j hj => ?_⟩⟩
    have hx := h.cells (g := g) rfl j (.int .i64 (L.getD j 0)) (by simp [mapI, List.getD, List.getElem?_eq_getElem hj])
    have hadd : (⟨g, 0, none⟩ : Addr).add j = ⟨g, j, none⟩ := by unfold Addr.add; split <;> simp_all
    rw [hadd] at hx
    exact hx
theorem row_ne_int : (3 : Nat) ≠ 61 := by decide
theorem IntT.row {w w' : World} {base : Nat} {v : Value} {n : Nat} {zs : List Value} {A : Option Addr} {c : Nat} {L : List Int} (h : IntT w A c L) (hown : w.ownsRow base 61 1 v n zs) (hG : w.grownBy w' v.ownBlock) : IntT w' A c L := by
  refine h.keep fun b cs fr hb => hG.block b (Array.getElem?_eq_some_iff.1 hb).1 fun e => ?_
  rcases hown.2 with ⟨rfl, -⟩ | ⟨g, cap, cur, rfl, -, hg, -⟩
  · cases e
  · simp only [Value.ownBlock, Option.some.injEq] at e
    rw [e, hg] at hb
    simp only [Option.some.injEq, Obj.cells.injEq] at hb
    exact row_ne_int hb.2.1.symm

/-- a list, and where it lies -/
structure RL where
  p : List Int
  A : Option Addr
  c : Nat
def noR : RL := ⟨[], none, 0⟩
def lR (xs : List RL) : List (List Int) := xs.map RL.p
theorem lR_len (xs : List RL) : (lR xs).length = xs.length := by simp [lR]
theorem lR_append (a b : List RL) : lR (a ++ b) = lR a ++ lR b := by simp [lR]
def cellsR (xs : List RL) : List Value := xs.map fun x => .slice x.A x.p.length x.c
theorem cellsR_append (a b : List RL) : cellsR (a ++ b) = cellsR a ++ cellsR b := by simp [cellsR]
theorem rl_mem {xs : List RL} {k : Nat} (h : k < xs.length) : xs.getD k noR ∈ xs := by
  rw [List.getD_eq_getElem?_getD, List.getElem?_eq_getElem h]
  exact List.getElem_mem h
theorem lR_at (xs : List RL) (k : Nat) : (lR xs).getD k [] = (xs.getD k noR).p := by
  rw [List.getD_eq_getElem?_getD, List.getD_eq_getElem?_getD, lR, List.getElem?_map]
  cases xs[k]? <;> rfl
theorem cellsR_at {xs : List RL} {k : Nat} (h : k < xs.length) : (cellsR xs)[k]? = some (.slice (xs.getD k noR).A (xs.getD k noR).p.length (xs.getD k noR).c) := by
  simp [cellsR, List.getD, h]
/-- a slice of lists: none, or laid -/
def RowsV (w : World) (A : Option Addr) (cap : Nat) (xs : List RL) : Prop := xs.length ≤ cap ∧ (xs = [] ∨ ∃ b, A = some ⟨b, 0, none⟩ ∧ b < w.heap.size ∧ ∀ k, k < xs.length → w.cell? ⟨b, k, none⟩ = some (.slice (xs.getD k noR).A (xs.getD k noR).p.length (xs.getD k noR).c)) ∧ ∀ x ∈ xs, IntT w x.A x.c x.p
theorem RowsV.later {w w' : World} {A : Option Addr} {cap : Nat} {xs : List RL} (h : RowsV w A cap xs) (hB : Below w.heap.size w w') : RowsV w' A cap xs := by
  obtain ⟨h1, h2, h3⟩ := h
  refine ⟨h1, ?_, fun x hx => (h3 x hx).later hB⟩
  rcases h2 with h2 | ⟨b, h2, h4, h5⟩
  · exact Or.inl h2
  · exact Or.inr ⟨b, h2, Nat.lt_of_lt_of_le h4 hB.size, fun k hk => (hB.cell (p := ⟨b, k, none⟩) h4).trans (h5 k hk)⟩
theorem RowsV.nil (w : World) (A : Option Addr) (cap : Nat) : RowsV w A cap [] := ⟨Nat.zero_le _, Or.inl rfl, fun x hx => by cases hx⟩
theorem rows_own {w : World} {base : Nat} {v : Value} {xs : List RL} (h : w.ownsRow base 61 1 v xs.length (cellsR xs)) (hp : ∀ x ∈ xs, IntT w x.A x.c x.p) : ∃ A c, v = .slice A xs.length c ∧ RowsV w A c xs := by
  rcases h.2 with ⟨rfl, h0⟩ | ⟨g, cap, cur, rfl, hb, hg, hc, _, _, _⟩
  · have : xs = [] := List.eq_nil_of_length_eq_zero h0
    subst this
    exact ⟨none, 0, rfl, RowsV.nil _ _ _⟩
  · refine ⟨_, cap, rfl, hc, Or.inr ⟨g, rfl, (Array.getElem?_eq_some_iff.1 hg).1, fun k hk => ?_⟩, hp⟩
    have y := h.cells (g := g) rfl k _ (cellsR_at hk)
    have hadd : (⟨g, 0, none⟩ : Addr).add k = ⟨g, k, none⟩ := by unfold Addr.add; split <;> simp_all
    rw [hadd] at y
    exact y
theorem Tryz.infoRow : (Tryz.prog.info? 61).map (fun i => (i.zero, i.size, i.bytes)) = some (some (.slice none 0 0), 1, 24) := by kernel_rfl

set_option maxHeartbeats 2000000 in
theorem iclone_any (A : Option Addr) (c : Nat) (L : List Int) (w : World) (hL : L.length ≤ 12) (hP : IntT w A c L) : Calls Tryz.prog 127 #[.slice A L.length c] w fun e w' => (∃ v, e = .returned v ∧ w'.ownsRow w.heap.size 3 1 v L.length (mapI L)) ∧ Below w.heap.size w w' := by
  have hq : ∀ (w : World) (a : Option Addr) (n c n' c' : Nat), (binOp .eql 61 (.slice a n c) (.slice none n' c')).run Tryz.prog w = .ok (.bool a.isNone) w := fun w a n c n' c' => Lib.run_eql_slice_nil w _ _ a n c n' c' Tryz.underlying61
  cases A with
  | none =>
    obtain ⟨-, -, h0 | ⟨b, cs, fr, h0, -⟩⟩ := hP
    · subst h0
      simp only [List.length_nil]
      go_enter Tryz.func127, Tryz.ntmps127
      go_wp2_with fail
      go_ret
      exact ⟨⟨_, rfl, World.ownsRow_nil _ _ _ _⟩, Below.refl _ _⟩
    · cases h0
  | some a =>
    obtain ⟨i0, hi0, hz0, hz1, hz2⟩ := info_parts Tryz.infoInt
    have HC : Hid (∀ j u, (mapI L)[j]? = some u → w.cell? (a.add j) = some u) := by
      intro j u hj
      obtain ⟨-, -, h0 | ⟨b, cs, fr, h0, -, hcell⟩⟩ := hP
      · subst h0; simp [mapI] at hj
      · cases h0
        have hlt : j < L.length := by have := (List.getElem?_eq_some_iff.1 hj).1; simpa [mapI] using this
        have hadd : (⟨b, 0, none⟩ : Addr).add j = ⟨b, j, none⟩ := by unfold Addr.add; split <;> simp_all
        rw [hadd, hcell j hlt]
        simp only [mapI, List.getElem?_map, List.getElem?_eq_getElem hlt, Option.map_some, Option.some.injEq] at hj
        rw [← hj, List.getD_eq_getElem?_getD, List.getElem?_eq_getElem hlt]
        rfl
    have hl : (mapI L).length = L.length * 1 := by simp [mapI]
    have h1 : ∀ u ∈ mapI L, u.oneCell' = true := by intro u hu; simp [mapI] at hu; obtain ⟨x, -, rfl⟩ := hu; rfl
    clear hP
    go_enter Tryz.func127, Tryz.ntmps127
    go_wp2_with (at_builtin; refine wpList_append_own _ rfl _ _ 61 rfl w.heap.size 3 i0 (.int .i64 0) 1 8 Tryz.underlying61 hi0 hz0 hz1 hz2 rfl (by decide) _ _ _ rfl (World.ownsRow_made w #[] 0 (Nat.le_refl _) (Nat.zero_le _) (by simp)) a L.length c (mapI L) rfl ?qc1 ?qc2 ?qc3 ?qc4 ?qc5 ?qc6 ?_)
    case qc1 => exact hl
    case qc2 => exact fun j u hj => Lib.cell?_alloc_some _ (HC.out j u hj)
    case qc3 => exact h1
    case qc4 => simp only [maxLen]; omega
    case qc5 => omega
    case qc6 => simp
    intro v' w1 hown hgrow hnil
    have HO : Hid (w1.ownsRow w.heap.size 3 1 v' L.length (mapI L)) := hown
    have HB : Hid (Below w.heap.size w w1) := ((Below.refl _ w).alloc (Nat.le_refl _) _).grown hgrow (by simp) (by intro k hk; simp [Value.ownBlock] at hk; omega)
    clear hown hgrow hnil
    go_wp2_with fail
    go_ret
    exact ⟨⟨_, rfl, HO.out⟩, HB.out⟩
end Go.Proofs.YtpnfmpbgjkhicaeGreatDoor

namespace Go.Proofs.YtpnfmpbgjkhicaeGreatDoor
open Go Go.ChangeShapes Go.WideShapes Go.ChangeAt Go.RowKit
set_option maxRecDepth 20000

theorem grown_transR {w w1 w2 : World} {r : Option Nat} (h : w.grownBy w1 r) (k : w1.grownBy w2 r) : w.grownBy w2 r :=
  ⟨k.os.trans h.os, k.tape.trans h.tape, k.output.trans h.output, Nat.le_trans h.size k.size, fun i hi hr => (k.block i (Nat.lt_of_lt_of_le hi h.size) hr).trans (h.block i hi hr)⟩
theorem grown_belowR {w w' : World} {r : Option Nat} (h : Below w.heap.size w w') : w.grownBy w' r := ⟨h.os, h.tape, h.output, h.size, fun i hi _ => h.block i hi⟩
theorem grown_drewR {w w' : World} {r : Option Nat} (h : w.grownBy w' r) : w.grownBy w'.drew r := ⟨h.os, h.tape, h.output, h.size, h.block⟩
theorem grown_reflR (w : World) (r : Option Nat) : w.grownBy w r := ⟨rfl, rfl, rfl, Nat.le_refl _, fun _ _ _ => rfl⟩
theorem grown_setRowR (w : World) (g : Nat) (cs : Array Value) : w.grownBy (w.setRow g cs) (some g) :=
  ⟨rfl, rfl, rfl, by rw [setRow_size]; exact Nat.le_refl _, fun i _ hr => setRow_other w g i cs fun e => hr (by rw [e])⟩
/-- what is grown by a row behind a world is below that world as it was -/
theorem below_grownR {B : Nat} {w0 w w' : World} {g : Nat} (h : Below B w0 w) (hg : w.grownBy w' (some g)) (hB : B ≤ w.heap.size) (hr : B ≤ g) : Below B w0 w' :=
  h.grown hg hB fun k hk => by cases hk; exact hr

/-- stores one behind the other are a row laid anew -/
theorem setCells_rowR (g : Nat) (t : TypeId) : ∀ (vs : List Value) (o : Nat) (cur : Array Value) (w : World), w.heap[g]? = some (.cells cur t (0, 0)) → o + vs.length ≤ cur.size → w.setCells g o vs = w.setRow g (cur.toList.take o ++ vs ++ cur.toList.drop (o + vs.length)).toArray
  | [], o, cur, w, hg, _ => by
    simp only [World.setCells, List.append_nil, List.length_nil, Nat.add_zero, List.take_append_drop, Array.toArray_toList]
    rw [setRow_self w g cur t (0, 0) hg]
  | v :: r, o, cur, w, hg, hl => by
    simp only [List.length_cons] at hl
    rw [World.setCells, setCell_eq_setRow w g o cur t (0, 0) v hg, setCells_rowR g t r (o + 1) (cur.setIfInBounds o v) _ (setRow_heap w g cur _ t _ hg) (by simp; omega), setRow_setRow]
    have e := list_seg_step cur.toList o v r (by simp; omega)
    congr 2
    simpa [Array.toList_setIfInBounds, Nat.add_assoc] using e

set_option maxHeartbeats 1000000 in
theorem indexm_any (F : Nat) (cap : Array Value) (p : Int → Bool) (hent : ∀ (args : Array Value) (w : World), (callFunc F args).run Tryz.prog w = .ok (.enter F args) w) (A : Option Addr) (c : Nat) (L : List Int) (w : World) (hn : L.length ≤ 200) (hL : IntsAt w A c L)
    (hF : ∀ (x : Int) (w' : World), x ∈ L → Below w.heap.size w w' → Calls Tryz.prog F (#[.int .i64 x] ++ cap) w' fun e w'' => e = .returned (.bool (p x)) ∧ Below w'.heap.size w' w'') :
    Calls Tryz.prog 113 #[.slice A L.length c, .func (.func F) #[] cap] w fun e w' => e = .returned (.int .i64 (findFrom (fun j => p (L.getD j 0)) L.length 0)) ∧ Below w.heap.size w w' := by
  obtain ⟨hc, h0 | ⟨b, rfl, hbw, hcell⟩⟩ := hL
  · subst h0
    simp only [List.length_nil]
    go_enter Tryz.func113, Tryz.ntmps113
    go_wp2_with fail
    refine wp_loop_rounds 1 ?_
    rw [rounds_succ]
    go_wp2_with fail
    go_ret
    exact ⟨rfl, Below.refl _ _⟩
  · have HC : Hid (∀ j, j < L.length → w.cell? ⟨b, j, none⟩ = some (.int .i64 (L.getD j 0))) := hcell
    have HF : Hid (∀ (x : Int) (w' : World), x ∈ L → Below w.heap.size w w' → Calls Tryz.prog F (#[.int .i64 x] ++ cap) w' fun e w'' => e = .returned (.bool (p x)) ∧ Below w'.heap.size w' w'') := hF
    obtain ⟨pj, hpj⟩ : ∃ pj : Nat → Bool, pj = fun j => p (L.getD j 0) := ⟨_, rfl⟩
    have HP : Hid (∀ j, pj j = p (L.getD j 0)) := fun j => by rw [hpj]
    rw [← hpj]
    obtain ⟨n, hnn⟩ : ∃ n, L.length = n := ⟨_, rfl⟩
    have HNn : Hid (L.length = n) := hnn
    rw [hnn] at hn hc HC ⊢
    clear hcell hpj hnn hF
    go_enter Tryz.func113, Tryz.ntmps113
    go_wp2_with fail
    go_loopg [8] n (fun g s8 wr => ∃ (k : Nat), k ≤ n ∧ g = n - k ∧ s8 = .int .i64 k ∧ findFrom pj (n - k) k = findFrom pj n 0 ∧ Below w.heap.size w wr)
    case atStart => exact ⟨0, Nat.zero_le _, rfl, rfl, rfl, Below.refl _ _⟩
    case round =>
      obtain ⟨k, hk, rfl, rfl, hf, hBw⟩ := hrel
      have HQ : Hid (findFrom pj (n - k) k = findFrom pj n 0) := hf
      have HW : Hid (Below w.heap.size w wr) := hBw
      clear hf
      by_cases hlt : k < n
      · have hki : (k : Int) < (n : Int) := by omega
        have hcx := (hBw.cell (p := ⟨b, k, none⟩) hbw).trans (HC.out k hlt)
        have hn' : (n : Int) ≤ 200 := by omega
        have hpk := HP.out k
        have HSK : Hid (n - k = (n - (k + 1)) + 1) := by show _ = _; omega
        have hbd := HF.out (L.getD k 0) wr (by rw [List.getD_eq_getElem?_getD, List.getElem?_eq_getElem (by rw [HNn.out]; exact hlt)]; exact List.getElem_mem _) hBw
        rw [← hpk] at hbd
        generalize L.getD k 0 = x at hcx hpk hbd
        clear hBw hpk
        cases hb : pj k
        · rw [hb] at hbd
          have HK : Hid (pj k = false) := hb
          clear hb
          go_wp2_with fail
          refine hbd.mono ?_
          rintro e w1 ⟨rfl, hb1⟩
          go_wp2_with fail
          go_roundg (n - (k + 1))
          case measure => omega
          case rel => exact ⟨k + 1, by omega, rfl, by go_num, by rw [← HQ.out, HSK.out, findFrom_miss _ HK.out], onB HW.out hb1⟩
        · rw [hb] at hbd
          have HK : Hid (pj k = true) := hb
          clear hb
          go_wp2_with fail
          refine hbd.mono ?_
          rintro e w1 ⟨rfl, hb1⟩
          go_wp2_with fail
          go_ret
          exact ⟨by rw [← HQ.out, HSK.out, findFrom_hit _ HK.out]; rfl, onB HW.out hb1⟩
      · have hke : k = n := by omega
        subst hke
        go_wp2_with fail
        go_ret
        exact ⟨by rw [← HQ.out, Nat.sub_self]; rfl, HW.out⟩

/-- the first j are looked at, and what stays of them lies at the head -/
def DInv (L : List Int) (p : Int → Bool) (i j : Nat) (cur : Array Value) : Prop := i < j ∧ ((L.take j).filter fun x => !p x).length = i ∧ (∀ m, m < i → cur[m]? = some (.int .i64 (((L.take j).filter fun x => !p x).getD m 0))) ∧ ∀ m, j ≤ m → m < L.length → cur[m]? = some (.int .i64 (L.getD m 0))
theorem take_one {L : List Int} {j : Nat} (h : j < L.length) : L.take (j + 1) = L.take j ++ [L.getD j 0] := by
  rw [List.take_succ_eq_append_getElem h, List.getD_eq_getElem?_getD, List.getElem?_eq_getElem h]
  rfl
theorem dinv_start {L : List Int} {p : Int → Bool} {k : Nat} {cur : Array Value} (hk : k < L.length) (hp : p (L.getD k 0) = true) (hn : ∀ j, j < k → p (L.getD j 0) = false) (hc : ∀ m, m < L.length → cur[m]? = some (.int .i64 (L.getD m 0))) : DInv L p k (k + 1) cur := by
  have hf : (L.take k).filter (fun x => !p x) = L.take k := by
    rw [List.filter_eq_self]
    intro x hx
    obtain ⟨j, hj, rfl⟩ := List.getElem_of_mem hx
    have hj2 : j < k := by rw [List.length_take] at hj; omega
    have h := hn j hj2
    rw [List.getD_eq_getElem?_getD, List.getElem?_eq_getElem (by omega)] at h
    simpa using h
  have e : (L.take (k + 1)).filter (fun x => !p x) = L.take k := by
    rw [take_one hk, List.filter_append, hf]
    generalize L.getD k 0 = x at hp ⊢
    simp [hp]
  refine ⟨by omega, by rw [e, List.length_take]; omega, fun m hm => ?_, fun m h1 h2 => hc m h2⟩
  rw [e, hc m (by omega), List.getD_eq_getElem?_getD, List.getD_eq_getElem?_getD, List.getElem?_take_of_lt hm]
theorem dinv_skip {L : List Int} {p : Int → Bool} {i j : Nat} {cur : Array Value} (h : DInv L p i j cur) (hj : j < L.length) (hp : p (L.getD j 0) = true) : DInv L p i (j + 1) cur := by
  have e : (L.take (j + 1)).filter (fun x => !p x) = (L.take j).filter (fun x => !p x) := by
    rw [take_one hj, List.filter_append]
    generalize L.getD j 0 = x at hp ⊢
    simp [hp]
  obtain ⟨h1, h2, h3, h4⟩ := h
  refine ⟨by omega, by rw [e]; exact h2, fun m hm => by rw [e]; exact h3 m hm, fun m a b => h4 m (by omega) b⟩
theorem dinv_keep {L : List Int} {p : Int → Bool} {i j : Nat} {cur : Array Value} (h : DInv L p i j cur) (hj : j < L.length) (hs : L.length ≤ cur.size) (hp : p (L.getD j 0) = false) : DInv L p (i + 1) (j + 1) (cur.setIfInBounds i (.int .i64 (L.getD j 0))) := by
  have e : (L.take (j + 1)).filter (fun x => !p x) = (L.take j).filter (fun x => !p x) ++ [L.getD j 0] := by
    rw [take_one hj, List.filter_append]
    generalize L.getD j 0 = x at hp ⊢
    simp [hp]
  obtain ⟨h1, h2, h3, h4⟩ := h
  generalize L.getD j 0 = x at e ⊢
  refine ⟨by omega, by rw [e, List.length_append, h2]; rfl, fun m hm => ?_, fun m a b => ?_⟩
  · rw [e, Array.getElem?_setIfInBounds]
    by_cases he : i = m
    · rw [if_pos he, if_pos (by omega), List.getD_eq_getElem?_getD, List.getElem?_append_right (by omega), h2, he]
      simp
    · rw [if_neg he, h3 m (by omega), List.getD_eq_getElem?_getD, List.getD_eq_getElem?_getD, List.getElem?_append_left (by omega)]
  · rw [Array.getElem?_setIfInBounds, if_neg (by omega)]
    exact h4 m (by omega) b
theorem grown_set {w wr : World} {g k : Nat} {v : Value} (h : w.grownBy wr (some g)) : w.grownBy (wr.setCell ⟨g, k, none⟩ v) (some g) := by
  refine ⟨h.os, h.tape, h.output, by simpa [World.setCell] using h.size, fun i hi hr => ?_⟩
  rw [← h.block i hi hr]
  simp only [World.setCell, Array.getElem?_modify]
  rw [if_neg fun e => hr (by rw [e])]

set_option maxHeartbeats 4000000 in
theorem delf_any (F : Nat) (cp : Array Value) (p : Int → Bool) (hent : ∀ (args : Array Value) (w : World), (callFunc F args).run Tryz.prog w = .ok (.enter F args) w) (base : Nat) (v : Value) (L : List Int) (w : World) (hn : L.length ≤ 12) (hown : w.ownsRow base 3 1 v L.length (mapI L))
    (hF : ∀ (x : Int) (w' : World), x ∈ L → w.grownBy w' v.ownBlock → Calls Tryz.prog F (#[.int .i64 x] ++ cp) w' fun e w'' => e = .returned (.bool (p x)) ∧ Below w'.heap.size w' w'') :
    Calls Tryz.prog 124 #[v, .func (.func F) #[] cp] w fun e w' => (∃ A' c', e = .returned (.slice A' (L.filter fun x => !p x).length c') ∧ IntT w' A' c' (L.filter fun x => !p x)) ∧ w.grownBy w' v.ownBlock := by
  obtain ⟨A, c, rfl, hI⟩ := intT_own hown
  have hix := indexm_any F cp p hent A c L w (by omega) hI.at fun x w' hx hB => hF x w' hx (grown_belowR hB)
  rcases findFrom_cases (fun j => p (L.getD j 0)) L.length 0 with ⟨h1, h2⟩ | ⟨k, h1, _, h3, h4, h5⟩
  · have hf : (L.filter fun x => !p x) = L := by
      rw [List.filter_eq_self]
      intro x hx
      obtain ⟨j, hj, rfl⟩ := List.getElem_of_mem hx
      have h := h2 j (Nat.zero_le _) (by omega)
      simp only [List.getD_eq_getElem?_getD, List.getElem?_eq_getElem hj] at h
      simpa using h
    have HF : Hid ((L.filter fun x => !p x) = L) := hf
    have HI : Hid (IntT w A c L) := hI
    rw [h1] at hix
    rw [hf]
    generalize L.length = n at hix
    clear hF hown hI h1 h2 hf hent
    go_enter Tryz.func124, Tryz.ntmps124
    go_wp2_with fail
    refine hix.mono ?_
    rintro e w1 ⟨rfl, hb1⟩
    go_wp2_with fail
    go_ret
    exact ⟨⟨A, c, rfl, HI.out.later hb1⟩, grown_belowR hb1⟩
  · have hk : k < L.length := by omega
    obtain ⟨hLc, hc63, hI0 | ⟨g, cs0, fr0, rfl, hg0, -⟩⟩ := hI
    · rw [hI0] at hk; simp at hk
    obtain ⟨cur, hg, hcs, hcur⟩ : ∃ cur : Array Value, w.heap[g]? = some (.cells cur 3 (0, 0)) ∧ cur.size = c ∧ ∀ m, m < L.length → cur[m]? = some (.int .i64 (L.getD m 0)) := by
      rcases hown.2 with ⟨e, _⟩ | ⟨g', cap, cur, e, hb, hg, hc, hm, hs, ht⟩
      · cases e
      · cases e
        refine ⟨cur, hg, by omega, fun m hm => ?_⟩
        have h : (mapI L)[m]? = some (.int .i64 (L.getD m 0)) := by simp [mapI, List.getD, List.getElem?_eq_getElem hm]
        rw [← ht, Nat.mul_one, List.getElem?_take_of_lt hm] at h
        rw [← h]
        simp
    have HSt : Hid (DInv L p k (k + 1) cur) := dinv_start hk h4 (fun j hj => h5 j (Nat.zero_le _) hj) hcur
    have HF : Hid (∀ (x : Int) (w' : World), x ∈ L → w.grownBy w' (some g) → Calls Tryz.prog F (#[.int .i64 x] ++ cp) w' fun e w'' => e = .returned (.bool (p x)) ∧ Below w'.heap.size w' w'') := hF
    have HCs : Hid (cur.size = c) := hcs
    rw [h1] at hix
    obtain ⟨n, hnn⟩ : ∃ n, L.length = n := ⟨_, rfl⟩
    have HN : Hid (L.length = n) := hnn
    have HG0 : Hid (w.heap[g]? = some (.cells cur 3 (0, 0))) := hg
    rw [hnn] at hix hk hn hLc ⊢
    have hki : (k : Int) < (n : Int) := by omega
    have hnI : (n : Int) ≤ 12 := by omega
    have hne : ((k : Int) == -1) = false := by
      have : (k : Int) ≠ -1 := by omega
      simp only [beq_eq_false_iff_ne]; exact this
    show Calls Tryz.prog 124 #[.slice (some ⟨g, 0, none⟩) n c, .func (.func F) #[] cp] w fun e w' => (∃ A' c', e = .returned (.slice A' (L.filter fun x => !p x).length c') ∧ IntT w' A' c' (L.filter fun x => !p x)) ∧ w.grownBy w' (some g)
    clear hF hown hg0 hcur hcs h1 h3 h4 h5 hg hnn
    go_enter Tryz.func124, Tryz.ntmps124
    go_wp2_with fail
    refine hix.mono ?_
    rintro e w1 ⟨rfl, hb1⟩
    have HG1 : Hid (w1.heap[g]? = some (.cells cur 3 (0, 0)) ∧ w.grownBy w1 (some g)) := ⟨(hb1.block g (Array.getElem?_eq_some_iff.1 HG0.out).1).trans HG0.out, grown_belowR hb1⟩
    clear hb1 hix
    go_wp2_with fail
    go_loopg [5, 6] (n - (k + 1)) (fun gg s5 s6 wr => ∃ (i j : Nat) (cu : Array Value), j ≤ n ∧ gg = n - j ∧ s5 = .int .i64 i ∧ s6 = .int .i64 j ∧ Hid (DInv L p i j cu ∧ cu.size = c) ∧ wr.heap[g]? = some (.cells cu 3 (0, 0)) ∧ w.grownBy wr (some g))
    case atStart => exact ⟨k, k + 1, cur, by omega, rfl, rfl, by go_num, (⟨HSt.out, HCs.out⟩ : _ ∧ _), HG1.out.1, HG1.out.2⟩
    case round =>
      obtain ⟨i, j, cu, hj, rfl, rfl, rfl, HD, hg, hG⟩ := hrel
      have HG : Hid (wr.heap[g]? = some (.cells cu 3 (0, 0))) := hg
      have HGr : Hid (w.grownBy wr (some g)) := hG
      have hij := HD.out.1.1
      have hgl : g < wr.heap.size := (Array.getElem?_eq_some_iff.1 hg).1
      have hcc := HD.out.2
      by_cases hlt : j < n
      · have hji : (j : Int) < (n : Int) := by omega
        have hii : (i : Int) < (n : Int) := by omega
        have cj : wr.cell? ⟨g, j, none⟩ = some (.int .i64 (L.getD j 0)) := by
          rw [Lib.cell_of_heap hg]
          exact HD.out.1.2.2.2 j (Nat.le_refl _) (by rw [HN.out]; exact hlt)
        have hcl := HF.out (L.getD j 0) wr (by rw [List.getD_eq_getElem?_getD, List.getElem?_eq_getElem (by rw [HN.out]; exact hlt)]; exact List.getElem_mem _) hG
        cases hp : p (L.getD j 0)
        · rw [hp] at hcl
          have HD2 : Hid (DInv L p (i + 1) (j + 1) (cu.setIfInBounds i (.int .i64 (L.getD j 0))) ∧ (cu.setIfInBounds i (.int .i64 (L.getD j 0))).size = c) := ⟨dinv_keep HD.out.1 (by rw [HN.out]; exact hlt) (by rw [HN.out, hcc]; exact hLc) hp, by simpa using hcc⟩
          generalize L.getD j 0 = x at cj hcl HD2
          clear hg hG hp
          go_wp2_with fail
          refine hcl.mono ?_
          rintro e w2 ⟨rfl, hb2⟩
          have hg2 := (hb2.block g hgl).trans HG.out
          have ci : (w2.cell? ⟨g, i, none⟩).isSome = true := by
            rw [Lib.cell_of_heap hg2, Array.getElem?_eq_getElem (by omega)]
            rfl
          obtain ⟨old, hold⟩ : ∃ old, w2.cell? ⟨g, i, none⟩ = some old := Option.isSome_iff_exists.1 ci
          have hfr : w2.frozen? ⟨g, i, none⟩ = false := Lib.frozen_of_heap hg2 i
          have HG2 : Hid ((w2.setCell ⟨g, i, none⟩ (.int .i64 x)).heap[g]? = some (.cells (cu.setIfInBounds i (.int .i64 x)) 3 (0, 0))) := by
            show _ = _
            simp [World.setCell, Array.getElem?_modify, hg2]
          have HGr2 : Hid (w.grownBy (w2.setCell ⟨g, i, none⟩ (.int .i64 x)) (some g)) := grown_set (grown_transR HGr.out (grown_belowR hb2))
          clear hb2 hg2 hcl ci
          go_wp2_with fail
          go_roundg (n - (j + 1))
          case measure => omega
          case rel => exact ⟨i + 1, j + 1, _, by omega, rfl, by go_num, by go_num, HD2, HG2.out, HGr2.out⟩
        · rw [hp] at hcl
          have HD2 : Hid (DInv L p i (j + 1) cu ∧ cu.size = c) := ⟨dinv_skip HD.out.1 (by rw [HN.out]; exact hlt) hp, hcc⟩
          generalize L.getD j 0 = x at cj hcl
          clear hg hG hp
          go_wp2_with fail
          refine hcl.mono ?_
          rintro e w2 ⟨rfl, hb2⟩
          have HG2 : Hid (w2.heap[g]? = some (.cells cu 3 (0, 0))) := (hb2.block g hgl).trans HG.out
          have HGr2 : Hid (w.grownBy w2 (some g)) := grown_transR HGr.out (grown_belowR hb2)
          clear hb2 hcl
          go_wp2_with fail
          go_roundg (n - (j + 1))
          case measure => omega
          case rel => exact ⟨i, j + 1, _, by omega, rfl, rfl, by go_num, HD2, HG2.out, HGr2.out⟩
      · have hje : j = n := by omega
        subst hje
        have hii : (i : Int) < (j : Int) := by omega
        have hcl : ∀ ty, (Builtin.clear_ #[61] ty #[.slice (some ⟨g, 0 + i, none⟩) (j - i) (c - i)]).run Tryz.prog wr = .ok (.tuple #[]) (wr.setCells g (0 + i) (List.replicate (j - i) (.int .i64 0))) :=
          fun ty => Lib.run_clear_slice wr _ _ ty _ Tryz.underlying61 Tryz.zeroValue3 rfl rfl g (0 + i) _ _ (by omega) (fun t ht => by rw [Lib.cell_of_heap hg, Array.getElem?_eq_getElem (by omega)]; rfl) (fun t _ => Lib.frozen_of_heap hg _)
        have HDn : Hid (DInv L p i j cu ∧ cu.size = c) := HD
        have hseg := setCells_rowR g 3 (List.replicate (j - i) (.int .i64 0)) (0 + i) cu wr hg (by simp; omega)
        obtain ⟨W, hW⟩ : ∃ W, wr.setCells g (0 + i) (List.replicate (j - i) (Value.int .i64 0)) = W := ⟨_, rfl⟩
        have HGW : Hid (w.grownBy W (some g)) := by rw [← hW, hseg]; exact grown_transR hG (grown_setRowR wr g _)
        have HTW : Hid (IntT W (some ⟨g, 0, none⟩) c (L.filter fun x => !p x)) := by
          have hf : (L.filter fun x => !p x) = (L.take j).filter fun x => !p x := by rw [List.take_of_length_le (by rw [HN.out]; exact Nat.le_refl _)]
          have hWg : W.heap[g]? = some (.cells (cu.toList.take (0 + i) ++ List.replicate (j - i) (Value.int .i64 0) ++ cu.toList.drop (0 + i + (List.replicate (j - i) (Value.int .i64 0)).length)).toArray 3 (0, 0)) := by rw [← hW, hseg]; exact setRow_heap wr g cu _ _ _ hg
          refine ⟨by rw [hf, HD.out.1.2.1]; omega, hc63, Or.inr ⟨g, _, _, rfl, hWg, fun m hm => ?_⟩⟩
          rw [hf] at hm ⊢
          rw [HD.out.1.2.1] at hm
          rw [Lib.cell_of_heap hWg, ← HD.out.1.2.2.1 m hm]
          simp only [List.getElem?_toArray]
          rw [List.append_assoc, List.getElem?_append_left (by simp; omega), List.getElem?_take_of_lt (by omega)]
          simp
        have HFl : Hid ((L.filter fun x => !p x).length = i) := by
          show _ = _
          rw [← HD.out.1.2.1, List.take_of_length_le (by rw [HN.out]; exact Nat.le_refl _)]
        rw [hW, Nat.zero_add] at hcl
        have hcI : (j : Int) ≤ (c : Int) := by omega
        clear hg hG hseg hW
        go_wp2
        go_ret
        exact ⟨⟨some ⟨g, 0, none⟩, c, by rw [HFl.out]; rfl, HTW.out⟩, HGW.out⟩
end Go.Proofs.YtpnfmpbgjkhicaeGreatDoor

namespace Go.Proofs.YtpnfmpbgjkhicaeGreatDoor
open Go.ChangeShapes Go.WideShapes Go.ChangeAt Go.RowKit
set_option maxRecDepth 20000

theorem own_low {w : World} {b b' e size n : Nat} {v : Value} {xs : List Value} (h : w.ownsRow b e size v n xs) (hb : b' ≤ b) : w.ownsRow b' e size v n xs := by
  refine ⟨h.1, ?_⟩
  rcases h.2 with h0 | ⟨g, cap, cur, h1, h2, h3⟩
  · exact Or.inl h0
  · exact Or.inr ⟨g, cap, cur, h1, Nat.le_trans hb h2, h3⟩

set_option maxHeartbeats 2000000 in
theorem places_own (fn q r : Nat) (he : EntersO fn) (A : Option Addr) (n cap : Nat) (p : Nat → Bool) (w : World) (hn : n ≤ 12) (hp : AskP fn q r w n p) : Calls Tryz.prog 163 #[.slice A n cap, .func (.func fn) #[] #[.pointer (some ⟨q, 0, none⟩), .pointer (some ⟨r, 0, none⟩)]] w fun e w' => (∃ v, e = .returned v ∧ w'.ownsRow w.heap.size 3 1 v (selTo p n).length (mapI (selTo p n))) ∧ Below w.heap.size w w' := by
  obtain ⟨i0, hi0, hz0, hz1, hz2⟩ := info_parts Tryz.infoInt
  have HP : Hid (AskP fn q r w n p) := hp
  have hn' : (n : Int) ≤ 12 := by omega
  clear hp
  unfold EntersO at he
  go_enter Tryz.func163, Tryz.ntmps163
  go_wp2_with fail
  go_loopg [5, 9] n (fun g s5 s9 wr => ∃ (k : Nat), k ≤ n ∧ g = n - k ∧ s9 = .int .i64 k ∧ wr.ownsRow w.heap.size 3 1 s5 (selTo p k).length (mapI (selTo p k)) ∧ Below w.heap.size w wr)
  case atStart => exact ⟨0, Nat.zero_le _, rfl, rfl, World.ownsRow_nil _ _ _ _, Below.refl _ _⟩
  case round =>
    obtain ⟨k, hk, rfl, rfl, hown, hBw⟩ := hrel
    have HW : Hid (Below w.heap.size w wr) := hBw
    have HO : Hid (wr.ownsRow w.heap.size 3 1 _ (selTo p k).length (mapI (selTo p k))) := hown
    by_cases hlt : k < n
    · have hki : (k : Int) < (n : Int) := by omega
      have hbd := HP.out k wr hlt hBw
      clear hBw hown
      cases hb : p k
      · rw [hb] at hbd
        have HK : Hid (p k = false) := hb
        clear hb
        go_wp2_with fail
        refine hbd.mono ?_
        rintro e w1 ⟨rfl, hb1⟩
        go_wp2_with fail
        go_roundg (n - (k + 1))
        case measure => omega
        case rel => exact ⟨k + 1, by omega, rfl, by go_num, by rw [selTo_miss HK.out]; exact own_later HO.out hb1, onB HW.out hb1⟩
      · rw [hb] at hbd
        have HK : Hid (p k = true) := hb
        have hlen := selTo_len p k
        clear hb
        go_wp2_with fail
        refine hbd.mono ?_
        rintro e w1 ⟨rfl, hb1⟩
        have hown := own_later HO.out hb1
        have hB1 := onB HW.out hb1
        have hsz := hB1.size
        have HB1 : Hid (Below w.heap.size w w1) := hB1
        clear hb1 hB1
        go_wp2_with (at_builtin; refine wpList_append_own _ rfl _ _ 61 rfl w.heap.size 3 i0 (.int .i64 0) 1 8 Tryz.underlying61 hi0 hz0 hz1 hz2 rfl (by decide) _ _ _ rfl (hown.alloc _) ⟨w1.heap.size, 0, none⟩ 1 1 [.int .i64 k] rfl rfl one_cell one_one (by unfold maxLen; omega) (by omega) (by simp; omega) ?_)
        intro v' w2 hown' hgrow _
        have HB2 : Hid (Below w.heap.size w w2) := grown_own HB1.out hown hgrow
        have HO2 : Hid (w2.ownsRow w.heap.size 3 1 v' (selTo p (k + 1)).length (mapI (selTo p (k + 1)))) := by
          show World.ownsRow ..
          rw [selTo_hit HK.out, mapI_snoc, List.length_append]; exact hown'
        clear hown' hgrow hown
        go_wp2_with fail
        go_roundg (n - (k + 1))
        case measure => omega
        case rel => exact ⟨k + 1, by omega, rfl, by go_num, HO2.out, HB2.out⟩
    · have hke : k = n := by omega
      subst hke
      clear hBw hown
      go_wp2_with fail
      go_ret
      exact ⟨⟨_, rfl, HO.out⟩, HW.out⟩

set_option maxHeartbeats 2000000 in
theorem parts_own (d : Dm) (A : Option Addr) (cap : Nat) (k : Nat) (w : World) (hd : (dimErr d).2 = 0) (hk : k < d.n) (hM : MemsV w A cap d.n d.mem) : Calls Tryz.prog 123 #[dimV d A cap, .int .i64 k] w fun e w' => (∃ v, e = .returned (.tuple #[v, .nilIface]) ∧ w'.ownsRow w.heap.size 3 1 v (partsOf d.mem d.n k).length (mapI (partsOf d.mem d.n k))) ∧ Below w.heap.size w w' := by
  have hB0 := ownQ_below w d A cap k 51 3
  have hck := tcheck_any d A cap _ 1 [(k : Int)] (ownQ w d A cap k 51 3) (hM.later hB0) (by simp) (ownQ_ints ..)
  have HB0 : Hid (Below w.heap.size w (ownQ w d A cap k 51 3)) := hB0
  have HM : Hid (MemsV w A cap d.n d.mem) := hM
  unfold dimV at hck ⊢
  simp only [List.length_singleton] at hck
  clear hM hB0
  have he : treeErr d [(k : Int)] = 0 := by rw [treeErr_one hd, if_neg (by omega)]
  · rw [he, errV_zero] at hck
    obtain ⟨-, -, hd2, -⟩ := dimErr_right hd
    clear he hd
    go_enter Tryz.func123, Tryz.ntmps123
    go_wp2_with fail
    refine hck.mono ?_
    rintro e w1 ⟨rfl, hb1⟩
    have hB : Below w.heap.size w w1 := onB HB0.out hb1
    have hz : w.heap.size + 1 < w1.heap.size := by have := hb1.size; rw [ownQ_size] at this; omega
    have h2 : w1.cell? ⟨w.heap.size, 2, none⟩ = some (.slice A d.n cap) := (hb1.cell (p := ⟨w.heap.size, 2, none⟩) (by show w.heap.size < _; rw [ownQ_size]; omega)).trans (ownQ_dim ..)
    have h3 : w1.cell? ⟨w.heap.size + 1, 0, none⟩ = some (.int .i64 k) := (hb1.cell (p := ⟨w.heap.size + 1, 0, none⟩) (by show w.heap.size + 1 < _; rw [ownQ_size]; omega)).trans (ownQ_int ..)
    obtain ⟨hcap, h0 | ⟨b, o, rfl, hMs⟩⟩ := HM.out.later hB
    · omega
    have hpl := places_own 164 w.heap.size (w.heap.size + 1) parts1_in (some ⟨b, o, none⟩) d.n cap (partB d.mem k) w1 hd2 (fun j w' hj hw' => parts1_any b o d.n cap j w.heap.size (w.heap.size + 1) d.mem k w' hj hd2 (hMs.later hw') ((hw'.cell (p := ⟨w.heap.size, 2, none⟩) (by show w.heap.size < _; omega)).trans h2) ((hw'.cell (p := ⟨w.heap.size + 1, 0, none⟩) hz).trans h3))
    have HB : Hid (Below w.heap.size w w1) := hB
    clear hb1 hck hMs h3 hB
    go_wp2_with fail
    refine hpl.mono ?_
    rintro e w2 ⟨⟨v2, rfl, hO2⟩, hb2⟩
    have HO2 : Hid (w2.ownsRow w1.heap.size 3 1 v2 (selTo (partB d.mem k) d.n).length (mapI (selTo (partB d.mem k) d.n))) := hO2
    have HB2 : Hid (Below w.heap.size w w2) := onB HB.out hb2
    clear hO2 hb2 hpl
    go_wp2_with fail
    go_ret2
    exact ⟨⟨v2, rfl, own_low HO2.out HB.out.size⟩, HB2.out⟩
end Go.Proofs.YtpnfmpbgjkhicaeGreatDoor
