/-
  Part of part, on plain data: of a member that is no leaf the leafs are those of its parts, each in one; a part's path is the whole's, with itself ahead; a leaf counts in the whole as in the part, times the part's sign.
  All dims folded in an order: what eachOnce and All of package fold answer, called in whatever memory.
  A dim that is folded once more changes nothing, on plain data; what tallysame.Cells answers of the same cells, called in whatever memory.
  Folded in any order all cells come to what comes of all parts together, on plain data.
  A dim more that is folded, on plain data: cells that count by some dims count by one more; and so in any order all come to the same.
  The leafs of a place's members, dim by dim: what leafs of package roll answers, called in whatever memory: a row of lists, in new memory; or what is wrong with the place.
  How members count in a place's members, dim by dim, laid out: what weights of package roll answers, called in whatever memory.
  The product of what a place's members count, and what comes of entries at a place: what product and Value of package roll answer, called in whatever memory.
  The walk of tallylaw1.FoldOrders: folded in any order all cells come to the same, and to what comes of all parts together.
  What is read of an argument of the type []int: where its numbers lie.
  A law's end by 'Below': where nothing old has turned and the row asks for no second call, the results, the arguments and the frame are enough.
-/
import Derived.Test.YtmjcnlpjnbcfjadTree1
import Derived.Test.YtmjcnlpjnbcfjadFold6
import Derived.Test.YtmjcnlpjnbcfjadTree4
import Derived.Test.YtmjcnlpjnbcfjadFold5
import Derived.Test.YtmjcnlpjnbcfjadRoll2
import Derived.Test.YtmjcnlpjnbcfjadTree9
import Derived.Test.YtmjcnlpjnbcfjadPl4
import Derived.Deep.RegionHeld3
import Derived.Deep.DeepCutAuto
import Derived.Test.YtmjcnlpjnbcfjadInpE
import Derived.Deep.QuietTactic
import Derived.BigQuiet
import Derived.Test.YtmjcnlpjnbcfjadPl2
import Derived.Test.YtmjcnlpjnbcfjadOpen
import Derived.OpenShut
import Derived.Test.YtmjcnlpjnbcfjadProg
import Derived.WalkKit
import Derived.ProofKit
namespace Go.Proofs.Ytmjcnlpjnbcfjad

def sumTo (f : Nat → Nat) : Nat → Nat
  | 0 => 0
  | k + 1 => sumTo f k + f k
theorem sumTo_congr {f g : Nat → Nat} {n : Nat} (h : ∀ k, k < n → f k = g k) : sumTo f n = sumTo g n := by
  induction n with
  | zero => rfl
  | succ n ih => rw [sumTo, sumTo, ih fun k hk => h k (by omega), h n (by omega)]
theorem sumTo_add (f g : Nat → Nat) (n : Nat) : sumTo (fun k => f k + g k) n = sumTo f n + sumTo g n := by
  induction n with
  | zero => rfl
  | succ n ih => rw [sumTo, sumTo, sumTo, ih]; omega
theorem sumTo_zero {f : Nat → Nat} {n : Nat} (h : ∀ k, k < n → f k = 0) : sumTo f n = 0 := by
  induction n with
  | zero => rfl
  | succ n ih => rw [sumTo, ih fun k hk => h k (by omega), h n (by omega)]
theorem sumTo_swap (f : Nat → Nat → Nat) (m n : Nat) : sumTo (fun a => sumTo (f a) n) m = sumTo (fun b => sumTo (fun a => f a b) m) n := by
  induction m with
  | zero => exact (sumTo_zero (f := fun b => sumTo (fun a => f a b) 0) fun _ _ => rfl).symm
  | succ m ih => rw [sumTo, ih, ← sumTo_add]; rfl
theorem sumTo_single {f : Nat → Nat} {n k : Nat} (hk : k < n) (h : ∀ j, j < n → j ≠ k → f j = 0) : sumTo f n = f k := by
  induction n with
  | zero => omega
  | succ n ih =>
    rw [sumTo]
    by_cases e : k = n
    · subst e; rw [sumTo_zero fun j hj => h j (by omega) (by omega)]; omega
    · rw [ih (by omega) fun j hj => h j (by omega), h n (by omega) (fun x => e x.symm)]; rfl

def one (b : Bool) : Nat := if b = true then 1 else 0
theorem one_true : one true = 1 := rfl
theorem one_false : one false = 0 := rfl
theorem selTo_count (p : Nat → Bool) (n : Nat) : (selTo p n).length = sumTo (fun k => one (p k)) n := by
  induction n with
  | zero => rfl
  | succ n ih =>
    rw [sumTo, ← ih]
    cases hp : p n
    · rw [selTo_miss hp]; rfl
    · rw [selTo_hit hp, List.length_append]; rfl

/-- the sum of what is told of each of a row -/
def sumL (g : Int → Nat) : List Int → Nat
  | [] => 0
  | x :: t => g x + sumL g t
theorem sumL_append (g : Int → Nat) (a b : List Int) : sumL g (a ++ b) = sumL g a + sumL g b := by
  induction a with
  | nil => simp [sumL]
  | cons x t ih => rw [List.cons_append, sumL, sumL, ih]; omega
theorem sumL_sel (g : Int → Nat) (p : Nat → Bool) (n : Nat) : sumL g (selTo p n) = sumTo (fun k => one (p k) * g k) n := by
  induction n with
  | zero => rfl
  | succ n ih =>
    rw [sumTo, ← ih]
    cases hp : p n
    · rw [selTo_miss hp, one_false]; omega
    · rw [selTo_hit hp, sumL_append, one_true]; simp [sumL]

theorem inB_true {L : List Int} {i : Int} : inB L i = true ↔ i ∈ L := by simp [inB]
theorem inB_false {L : List Int} {i : Int} : inB L i = false ↔ i ∉ L := by simp [inB]

/-- of a member's path as many have i for a parent as i is in the path's tail: one, or none -/
theorem steps_one {M : Nat → Mem} {n : Nat} (ht : Tr M n) {i : Nat} (f : Nat) : ∀ k : Nat, k < n → k < f → sumTo (fun p => one (partB M i p && inB (pathOf M k) p)) n = one (inB (pathOf M k) i && !decide (k = i)) := by
  induction f with
  | zero => intro k _ h; omega
  | succ f ih =>
    intro k hk hf
    have hp := ht k hk
    have hc := pathOf_cons ht hk
    have hnk : ∀ j ∈ pathOf M (M k).parent, 0 ≤ j ∧ j ≤ (M k).parent := pathOf_mem ht k _ (by omega) (by omega)
    have e : ∀ p, p < n → one (partB M i p && inB (pathOf M k) p) = one (decide (p = k) && partB M i k) + one (partB M i p && inB (pathOf M (M k).parent) p) := by
      intro p _
      by_cases h : p = k
      · subst h
        have h1 : inB (pathOf M p) p = true := by rw [inB_true, hc]; exact List.mem_cons_self ..
        have h2 : inB (pathOf M (M p).parent) p = false := by rw [inB_false]; intro h; have := hnk _ h; omega
        rw [h1, h2]; simp [one_false]
      · have h1 : inB (pathOf M k) p = inB (pathOf M (M k).parent) p := by
          unfold inB; rw [decide_eq_decide, hc, List.mem_cons]
          constructor
          · rintro (h3 | h3)
            · omega
            · exact h3
          · exact Or.inr
        rw [h1]; simp [h, one_false]
    rw [sumTo_congr e, sumTo_add, sumTo_single (f := fun p => one (decide (p = k) && partB M i k)) hk (fun j _ hj => by simp [hj, one_false])]
    have hik : (inB (pathOf M k) i && !decide (k = i)) = inB (pathOf M (M k).parent) i := by
      by_cases h : k = i
      · subst h
        have h2 : inB (pathOf M (M k).parent) k = false := by rw [inB_false]; intro h; have := hnk _ h; omega
        rw [h2]; simp
      · have h1 : inB (pathOf M k) i = inB (pathOf M (M k).parent) i := by
          unfold inB; rw [decide_eq_decide, hc, List.mem_cons]
          constructor
          · rintro (h3 | h3)
            · omega
            · exact h3
          · exact Or.inr
        rw [h1]; simp [h]
    rw [hik]
    by_cases h0 : (M k).parent < 0
    · rw [pathOf_neg h0, sumTo_zero (fun p _ => by simp [inB, one])]
      have : partB M i k = false := by simp [partB]; omega
      simp [this, inB, one]
    · obtain ⟨q, hq⟩ : ∃ q : Nat, (M k).parent = q := ⟨(M k).parent.toNat, by omega⟩
      rw [hq, ih q (by omega) (by omega)]
      by_cases h : q = i
      · subst h
        have h1 : partB M q k = true := by simp [partB, hq]
        have h2 : inB (pathOf M q) q = true := by rw [inB_true, pathOf_cons ht (by omega)]; exact List.mem_cons_self ..
        rw [h1, h2]; simp [one]
      · have h1 : partB M i k = false := by simp [partB, hq]; omega
        rw [h1]; simp [h, one]

theorem leafs_sum {M : Nat → Mem} {n : Nat} (ht : Tr M n) {i : Nat} (hl : leafB M n i = false) : sumL (fun p => (leafsOf M n p).length) (partsOf M n i) = (leafsOf M n i).length := by
  unfold partsOf
  rw [sumL_sel]
  have e1 : ∀ p, p < n → one (partB M i p) * (leafsOf M n p).length = sumTo (fun k => one (leafB M n k) * one (partB M i p && inB (pathOf M k) p)) n := by
    intro p _
    unfold leafsOf
    rw [selTo_count]
    cases partB M i p
    · rw [one_false, Nat.zero_mul]; exact (sumTo_zero (fun k _ => by simp [one])).symm
    · rw [one_true, Nat.one_mul]
      refine sumTo_congr fun k _ => ?_
      unfold leafIn
      cases leafB M n k <;> simp [one]
  rw [sumTo_congr e1, sumTo_swap, leafsOf, selTo_count]
  refine sumTo_congr fun k hk => ?_
  have e2 : ∀ g : Nat → Nat, ∀ c m, sumTo (fun p => c * g p) m = c * sumTo g m := by
    intro g c m
    induction m with
    | zero => rfl
    | succ m ih => rw [sumTo, sumTo, ih, Nat.mul_add]
  rw [e2, steps_one ht (k + 1) k hk (by omega)]
  unfold leafIn
  by_cases h : k = i
  · subst h; rw [hl]; simp [one]
  · cases leafB M n k <;> simp [one, h]

theorem part_has {M : Nat → Mem} {n : Nat} (ht : Tr M n) {i : Nat} (f : Nat) : ∀ k : Nat, k < n → k < f → k ≠ i → (i : Int) ∈ pathOf M k → ∃ p, p < n ∧ partB M i p = true := by
  induction f with
  | zero => intro k _ h; omega
  | succ f ih =>
    intro k hk hf hne hm
    have hp := ht k hk
    rw [pathOf_cons ht hk, List.mem_cons] at hm
    rcases hm with hm | hm
    · omega
    · by_cases h0 : (M k).parent < 0
      · rw [pathOf_neg h0] at hm; cases hm
      · obtain ⟨q, hq⟩ : ∃ q : Nat, (M k).parent = q := ⟨(M k).parent.toNat, by omega⟩
        by_cases h : q = i
        · exact ⟨k, hk, by simp [partB, hq, h]⟩
        · rw [hq] at hm
          exact ih q (by omega) (by omega) h hm

theorem leaf_noparts {M : Nat → Mem} {n i : Nat} (hl : leafB M n i = true) : ∀ p, p < n → partB M i p = false := by
  unfold leafB at hl
  simp only [Bool.and_eq_true, Bool.not_eq_true', decide_eq_false_iff_not] at hl
  intro p hp
  cases h : partB M i p
  · rfl
  · exact absurd (findFrom_nonneg (q := partB M i) hp h) hl.2
theorem leaf_parts {M : Nat → Mem} {n i : Nat} (hl : leafB M n i = true) : partsOf M n i = [] := selTo_none (leaf_noparts hl)
theorem leaf_leafs {M : Nat → Mem} {n i : Nat} (ht : Tr M n) (hi : i < n) (hl : leafB M n i = true) : leafsOf M n i = [(i : Int)] := by
  refine selTo_one hi ?_ fun j hj hp => ?_
  · unfold leafIn; rw [hl, inB_true.2]; rfl
    rw [pathOf_cons ht hi]; exact List.mem_cons_self ..
  · unfold leafIn at hp
    simp only [Bool.and_eq_true, inB_true] at hp
    exact Decidable.byContradiction fun h => by
      obtain ⟨p, h1, h2⟩ := part_has ht (j + 1) j hj (by omega) h hp.2
      rw [leaf_noparts hl p h1] at h2; cases h2

theorem part_weight {M : Nat → Mem} {n : Nat} (ht : Tr M n) {p i : Nat} (hp : p < n) (hpi : (M p).parent = i) (f : Nat) : ∀ (l : Nat) (a : Int), l < n → l < f → (p : Int) ∈ pathOf M l → wgt M i (pathOf M l) a = wgt M p (pathOf M l) a * (M p).sign := by
  induction f with
  | zero => intro l _ _ h; omega
  | succ f ih =>
    intro l a hl hf hm
    have h1 := ht l hl
    have h2 := ht p hp
    rw [pathOf_cons ht hl] at hm ⊢
    by_cases h : l = p
    · subst h
      rw [wgt_hit, wgt_miss (by omega), hpi, pathOf_cons ht (by omega), wgt_hit]
      simp
    · rcases List.mem_cons.1 hm with hm | hm
      · omega
      · have h3 := pathOf_mem ht l (M l).parent (by omega) (by omega) _ hm
        rw [wgt_miss (by omega), wgt_miss (by omega)]
        obtain ⟨q, hq⟩ : ∃ q : Nat, (M l).parent = q := ⟨(M l).parent.toNat, by omega⟩
        rw [hq] at hm ⊢
        exact ih q _ (by omega) (by omega) hm
end Go.Proofs.Ytmjcnlpjnbcfjad

namespace Go.Proofs.Ytmjcnlpjnbcfjad
open Go.ChangeShapes Go.WideShapes Go.ChangeAt Go.RowKit
set_option maxRecDepth 20000

set_option maxHeartbeats 1000000 in
theorem index_pl (A : Option Addr) (cap : Nat) (L : List Int) (i : Int) (w : World) (hn : L.length ≤ 12) (hL : PlAt w A cap L) : Calls Try.prog 53 #[.slice A L.length cap, .int .i64 i] w fun e w' => e = .returned (.int .i64 (findFrom (fun j => L.getD j 0 == i) L.length 0)) ∧ Below w.heap.size w w' := by
  obtain ⟨hc, h0 | ⟨b, o, rfl, hbw, hcell⟩⟩ := hL
  · subst h0
    simp only [List.length_nil]
    go_enter Try.func53, Try.ntmps53
    go_wp2_with fail
    refine wp_loop_rounds 1 ?_
    rw [rounds_succ]
    go_wp2_with fail
    go_ret
    exact ⟨rfl, Below.refl _ _⟩
  · have HC : Hid (∀ j, j < L.length → w.cell? ⟨b, o + j, none⟩ = some (.int .i64 (L.getD j 0))) := hcell
    obtain ⟨p, hp⟩ : ∃ p : Nat → Bool, p = fun j => L.getD j 0 == i := ⟨_, rfl⟩
    have HP : Hid (∀ j, p j = (L.getD j 0 == i)) := fun j => by rw [hp]
    rw [← hp]
    generalize hnn : L.length = n at hn hc HC
    clear hcell hp hnn
    go_enter Try.func53, Try.ntmps53
    go_wp2_with fail
    go_loopg [8] n (fun g s8 wr => ∃ (k : Nat), k ≤ n ∧ g = n - k ∧ s8 = .int .i64 k ∧ findFrom p (n - k) k = findFrom p n 0 ∧ wr = w)
    case atStart => exact ⟨0, Nat.zero_le _, rfl, rfl, rfl, rfl⟩
    case round =>
      obtain ⟨k, hk, rfl, rfl, hf, rfl⟩ := hrel
      have HF : Hid (findFrom p (n - k) k = findFrom p n 0) := hf
      clear hf
      by_cases hlt : k < n
      · have hki : (k : Int) < (n : Int) := by omega
        have hcx := HC.out k hlt
        have hsk : n - k = (n - (k + 1)) + 1 := by omega
        have hn' : (n : Int) ≤ 12 := by omega
        have hpk := HP.out k
        have HSK : Hid (n - k = (n - (k + 1)) + 1) := hsk
        generalize L.getD k 0 = x at hcx hpk
        clear hsk
        cases hb : p k
        · have HK : Hid (p k = false) := hb
          rw [hb] at hpk
          have hx : (i == x) = false := by
            have h1 : x ≠ i := by simpa using hpk.symm
            simpa using fun h : i = x => h1 h.symm
          clear hb hpk
          go_wp2_with fail
          go_roundg (n - (k + 1))
          case measure => omega
          case rel => exact ⟨k + 1, by omega, rfl, by go_num, by rw [← HF.out, HSK.out, findFrom_miss _ HK.out], rfl⟩
        · have HK : Hid (p k = true) := hb
          rw [hb] at hpk
          have hx : (i == x) = true := by
            have h1 : x = i := by simpa using hpk.symm
            simpa using h1.symm
          clear hb hpk
          go_wp2_with fail
          go_ret
          exact ⟨by rw [← HF.out, HSK.out, findFrom_hit _ HK.out]; rfl, Below.refl _ _⟩
      · have hke : k = n := by omega
        subst hke
        go_wp2_with fail
        go_ret
        exact ⟨by rw [← HF.out, Nat.sub_self]; rfl, Below.refl _ _⟩

theorem contains_pl (A : Option Addr) (cap : Nat) (L : List Int) (i : Int) (w : World) (hn : L.length ≤ 12) (hL : PlAt w A cap L) : Calls Try.prog 30 #[.slice A L.length cap, .int .i64 i] w fun e w' => e = .returned (.bool (inB L i)) ∧ Below w.heap.size w w' := by
  have h := index_pl A cap L i w hn hL
  have HI : Hid (decide (0 ≤ findFrom (fun j => L.getD j 0 == i) L.length 0) = inB L i) := find_in L i
  generalize findFrom (fun j => L.getD j 0 == i) L.length 0 = f at h HI
  generalize L.length = n at h
  clear hL hn
  go_enter Try.func30, Try.ntmps30
  go_wp2_with fail
  refine h.mono ?_
  rintro e w1 ⟨rfl, hb1⟩
  go_wp2_with fail
  go_ret
  exact ⟨by rw [← HI.out]; rfl, hb1⟩

/-- does an order name each of so many dims once -/
def missB (O : List Int) (i : Nat) : Bool := !(inB O (i : Int))
def eachB (n : Nat) (O : List Int) : Bool := decide (O.length = n) && decide (findFrom (missB O) n 0 < 0)
theorem pig : ∀ (R O : List Int), R.Nodup → (∀ x ∈ R, x ∈ O) → O.length ≤ R.length → O.Perm R
  | [], O, _, _, hl => by
    have : O = [] := List.eq_nil_of_length_eq_zero (by simpa using hl)
    rw [this]
  | a :: R, O, hn, hs, hl => by
    have ha : a ∈ O := hs a (List.mem_cons_self ..)
    have h1 := List.nodup_cons.1 hn
    have h2 := List.length_erase_of_mem ha
    have h3 : (O.erase a).Perm R := pig R (O.erase a) h1.2 (fun x hx => (List.mem_erase_of_ne (fun e => h1.1 (by rw [← e]; exact hx))).2 (hs x (List.mem_cons_of_mem _ hx))) (by simp only [List.length_cons] at hl; omega)
    exact (List.perm_cons_erase ha).trans (h3.cons a)
def rangeI (n : Nat) : List Int := (List.range n).map fun j => ((j : Nat) : Int)
theorem rangeI_nodup (n : Nat) : (rangeI n).Nodup := by
  unfold rangeI
  induction n with
  | zero => simp
  | succ n ih =>
    rw [List.range_succ, List.map_append, List.nodup_append]
    refine ⟨ih, by simp, fun a ha b hb e => ?_⟩
    simp only [List.map_cons, List.map_nil, List.mem_singleton] at hb
    simp only [List.mem_map, List.mem_range] at ha
    obtain ⟨j, hj, rfl⟩ := ha
    omega
theorem each_perm {n : Nat} {O : List Int} (h : eachB n O = true) : O.Perm (rangeI n) := by
  unfold eachB at h
  rw [Bool.and_eq_true] at h
  have h1 : O.length = n := of_decide_eq_true h.1
  have h2 := of_decide_eq_true h.2
  refine pig _ _ (rangeI_nodup n) (fun x hx => ?_) (by rw [h1]; simp [rangeI])
  simp only [rangeI, List.mem_map, List.mem_range] at hx
  obtain ⟨j, hj, rfl⟩ := hx
  have := find_none_all _ _ h2 j (Nat.zero_le _) (by omega)
  unfold missB inB at this
  simpa using this
theorem each_in {n : Nat} {O : List Int} (h : eachB n O = true) : O.length = n ∧ ∀ d ∈ O, ∃ j : Nat, d = j ∧ j < n := by
  have hp := each_perm h
  refine ⟨by rw [hp.length_eq]; simp [rangeI], fun d hd => ?_⟩
  have := hp.mem_iff.1 hd
  simp only [rangeI, List.mem_map, List.mem_range] at this
  obtain ⟨j, hj, rfl⟩ := this
  exact ⟨j, rfl, hj⟩

set_option maxHeartbeats 2000000 in
theorem each_any (AO : Option Addr) (cO : Nat) (O : List Int) (n : Nat) (w : World) (hn : n ≤ 4) (hO : PlAt w AO cO O) : Calls Try.prog 37 #[.slice AO O.length cO, .int .i64 n] w fun e w' => e = .returned (.bool (eachB n O)) ∧ Below w.heap.size w w' := by
  have hn' : (n : Int) ≤ 4 := by omega
  by_cases hl : O.length = n
  · have HR : Hid (eachB n O = decide (findFrom (missB O) n 0 < 0)) := by show _ = _; unfold eachB; rw [decide_eq_true hl, Bool.true_and]
    have hne : ((n : Int) != (n : Int)) = false := by simp
    have HO : Hid (PlAt w AO cO O) := hO
    have HL : Hid (O.length = n) := hl
    rw [hl]
    clear hO hl
    go_enter Try.func37, Try.ntmps37
    go_wp2_with fail
    go_loopg [11] n (fun g s11 wr => ∃ (k : Nat), k ≤ n ∧ g = n - k ∧ s11 = .int .i64 k ∧ Hid (findFrom (missB O) (n - k) k = findFrom (missB O) n 0) ∧ Below w.heap.size w wr)
    case atStart => exact ⟨0, Nat.zero_le _, rfl, rfl, (rfl : findFrom (missB O) (n - 0) 0 = findFrom (missB O) n 0), Below.refl _ _⟩
    case round =>
      obtain ⟨k, hk, rfl, rfl, HF, hBw⟩ := hrel
      have HW : Hid (Below w.heap.size w wr) := hBw
      by_cases hlt : k < n
      · have hki : (k : Int) < (n : Int) := by omega
        have hco := contains_pl AO cO O (k : Int) wr (by rw [HL.out]; omega) (HO.out.later hBw)
        rw [HL.out] at hco
        have HSK : Hid (n - k = (n - (k + 1)) + 1) := by show _ = _; omega
        have hms : missB O k = !(inB O (k : Int)) := rfl
        generalize inB O (k : Int) = t at hco hms
        clear hBw
        cases t
        · have HK : Hid (missB O k = true) := hms
          clear hms
          go_wp2_with fail
          refine hco.mono ?_
          rintro e w1 ⟨rfl, hb1⟩
          go_wp2_with fail
          go_ret
          refine ⟨?_, onB HW.out hb1⟩
          rw [HR.out, ← HF.out, HSK.out, findFrom_hit _ HK.out, decide_eq_false (by omega)]
          rfl
        · have HK : Hid (missB O k = false) := hms
          clear hms
          go_wp2_with fail
          refine hco.mono ?_
          rintro e w1 ⟨rfl, hb1⟩
          go_wp2_with fail
          go_roundg (n - (k + 1))
          case measure => omega
          case rel => exact ⟨k + 1, by omega, rfl, by go_num, (by rw [← HF.out, HSK.out, findFrom_miss _ HK.out] : findFrom (missB O) (n - (k + 1)) (k + 1) = findFrom (missB O) n 0), onB HW.out hb1⟩
      · have hke : k = n := by omega
        subst hke
        clear hBw
        go_wp2_with fail
        go_ret
        refine ⟨?_, HW.out⟩
        rw [HR.out, ← HF.out, Nat.sub_self]
        rfl
  · have HR : Hid (eachB n O = false) := by show _ = _; unfold eachB; rw [decide_eq_false hl, Bool.false_and]
    have hne : ((O.length : Int) != (n : Int)) = true := by simp; omega
    generalize O.length = N at hne
    clear hO hl
    go_enter Try.func37, Try.ntmps37
    go_wp2_with fail
    go_ret
    exact ⟨by rw [HR.out]; rfl, Below.refl _ _⟩

/-- folded by the dims of an order -/
def foldO (D : Nat → Dm) (n : Nat) (L : List (Int × Int)) (O : List Int) : List (Int × Int) := O.foldl (fun L d => onceV D n d.toNat L) L
theorem foldO_len (D : Nat → Dm) (n : Nat) : ∀ (O : List Int) (L : List (Int × Int)), (foldO D n L O).length = L.length
  | [], _ => rfl
  | d :: r, L => by
    have := foldO_len D n r (onceV D n d.toNat L)
    unfold foldO at this ⊢
    rw [List.foldl_cons, this]
    exact once_len ..
theorem foldO_good {D : Nat → Dm} {n : Nat} : ∀ (O : List Int) {L : List (Int × Int)}, goodL L → goodL (foldO D n L O)
  | [], _, h => h
  | d :: r, L, h => by
    have := foldO_good r (L := onceV D n d.toNat L) (D := D) (n := n) (once_good h _)
    unfold foldO at this ⊢
    rw [List.foldl_cons]
    exact this
def faErr (D : Nat → Dm) (n : Nat) (l : List En) (O : List Int) : Int := if entsErr D n l ≠ 0 then entsErr D n l else if eachB n O = true then 0 else 3
def faL (D : Nat → Dm) (n : Nat) (l : List En) (O : List Int) : List (Int × Int) := if faErr D n l O = 0 then foldO D n (wrV D n l) O else []
theorem fa0 {D : Nat → Dm} {n : Nat} {l : List En} {O : List Int} (h : entsErr D n l ≠ 0) : faErr D n l O = entsErr D n l ∧ faL D n l O = [] := by
  have h1 : faErr D n l O = entsErr D n l := by unfold faErr; rw [if_pos h]
  exact ⟨h1, by unfold faL; rw [h1, if_neg h]⟩
theorem fa1 {D : Nat → Dm} {n : Nat} {l : List En} {O : List Int} (h : entsErr D n l = 0) (h1 : eachB n O = false) : faErr D n l O = 3 ∧ faL D n l O = [] := by
  have h2 : faErr D n l O = 3 := by unfold faErr; rw [if_neg (by simpa using h), h1]; rfl
  exact ⟨h2, by unfold faL; rw [h2, if_neg (by decide)]⟩
theorem fa2 {D : Nat → Dm} {n : Nat} {l : List En} {O : List Int} (h : entsErr D n l = 0) (h1 : eachB n O = true) : faErr D n l O = 0 ∧ faL D n l O = foldO D n (wrV D n l) O := by
  have h2 : faErr D n l O = 0 := by unfold faErr; rw [if_neg (by simpa using h), h1]; rfl
  exact ⟨h2, by unfold faL; rw [h2, if_pos rfl]⟩
theorem foldO_take {D : Nat → Dm} {n : Nat} {L : List (Int × Int)} {O : List Int} {k : Nat} (h : k < O.length) : foldO D n L (O.take (k + 1)) = onceV D n (O.getD k 0).toNat (foldO D n L (O.take k)) := by
  unfold foldO
  rw [List.take_succ_eq_append_getElem h, List.foldl_append, List.getD_eq_getElem?_getD, List.getElem?_eq_getElem h]
  rfl

set_option maxHeartbeats 8000000 in
theorem fall_any (A0 : Option Addr) (cap n : Nat) (D : Nat → Dm) (A : Nat → Option Addr) (C : Nat → Nat) (AE : Option Addr) (ce : Nat) (xs : List EnL) (AO : Option Addr) (cO : Nat) (O : List Int) (w : World) (hM : DimsV w A0 cap n D A C) (hE : EnsV w AE ce xs) (hO : PlAt w AO cO O) :
    Calls Try.prog 15 #[.agg #[.slice A0 n cap], .slice AE xs.length ce, .slice AO O.length cO] w fun e w' => (∃ A' c', e = .returned (.tuple #[.slice A' (faL D n (lE xs) O).length c', errV (faErr D n (lE xs) O)]) ∧ CelV w' A' c' (faL D n (lE xs) O)) ∧ Below w.heap.size w w' := by
  have hB0 := ownOut_below w A0 n cap 24
  have h := fcells_any A0 cap n D A C AE ce xs (ownOut w A0 n cap 24) (hM.later hB0) (hE.later hB0)
  have HB0 : Hid (Below w.heap.size w (ownOut w A0 n cap 24)) := hB0
  have HM : Hid (DimsV w A0 cap n D A C) := hM
  have HO : Hid (PlAt w AO cO O) := hO
  have HBo : Hid (w.heap.size < (ownOut w A0 n cap 24).heap.size ∧ (ownOut w A0 n cap 24).cell? ⟨w.heap.size, 0, none⟩ = some (.slice A0 n cap)) := ⟨by rw [ownOut_size]; omega, ownOut_at ..⟩
  clear hM hE hB0 hO
  by_cases he : entsErr D n (lE xs) = 0
  · have hEs := ens_of he
    have HEs : Hid (Ens D n (lE xs)) := hEs
    obtain ⟨hn1, hn4, hp3, hd⟩ := allErr_some hEs.right
    have HE : Hid (entsErr D n (lE xs) = 0) := he
    have hn' : (n : Int) ≤ 4 := by omega
    rw [he, errV_zero, fc_ok he, wrV_len] at h
    obtain ⟨PN, hPN⟩ : ∃ PN, prodN D n = PN := ⟨_, rfl⟩
    have HPN : Hid (prodN D n = PN) := hPN
    rw [hPN] at hp3 h
    generalize xs.length = N at h
    clear he hEs hd hPN
    cases heb : eachB n O
    · have HF : Hid (faErr D n (lE xs) O = 3 ∧ faL D n (lE xs) O = []) := fa1 HE.out heb
      have hea := fun w' (hw' : Below w.heap.size w w') => each_any AO cO O n w' hn4 (HO.out.later hw')
      rw [heb] at hea
      generalize O.length = NO at hea
      clear heb
      go_enter Try.func15, Try.ntmps15
      go_wp2_with fail
      refine h.mono ?_
      rintro e w1 ⟨⟨AC, cc, rfl, -⟩, hb1⟩
      have HB : Hid (Below w.heap.size w w1) := onB HB0.out hb1
      have c1 := (hb1.cell (p := ⟨w.heap.size, 0, none⟩) HBo.out.1).trans HBo.out.2
      have hea1 := hea w1 HB.out
      clear hb1 h hea
      go_wp2_with fail
      refine hea1.mono ?_
      rintro e w2 ⟨rfl, hb2⟩
      have HB2 : Hid (Below w.heap.size w w2) := onB HB.out hb2
      clear hb2 hea1 c1
      go_wp2_with fail
      go_ret2
      rw [HF.out.1, HF.out.2]
      exact ⟨⟨none, 0, rfl, CelV.nil _ _ _ (by decide)⟩, HB2.out⟩
    · have HF : Hid (faErr D n (lE xs) O = 0 ∧ faL D n (lE xs) O = foldO D n (wrV D n (lE xs)) O) := fa2 HE.out heb
      obtain ⟨hOl, hOi⟩ := each_in heb
      have HOi : Hid (∀ d ∈ O, ∃ j : Nat, d = j ∧ j < n) := hOi
      have HOl : Hid (O.length = n) := hOl
      have hea := fun w' (hw' : Below w.heap.size w w') => each_any AO cO O n w' hn4 (HO.out.later hw')
      rw [heb, hOl] at hea
      have HFin : Hid (foldO D n (wrV D n (lE xs)) (O.take n) = foldO D n (wrV D n (lE xs)) O) := by show _ = _; rw [List.take_of_length_le (by rw [hOl]; exact Nat.le_refl _)]
      rw [hOl]
      clear heb hOl hOi
      go_enter Try.func15, Try.ntmps15
      go_wp2_with fail
      refine h.mono ?_
      rintro e w1 ⟨⟨AC, cc, rfl, hC⟩, hb1⟩
      have HB : Hid (Below w.heap.size w w1) := onB HB0.out hb1
      have HBox : Hid (BoxN w1 w.heap.size (.slice A0 n cap)) := ⟨Nat.lt_of_lt_of_le HBo.out.1 hb1.size, (hb1.cell (p := ⟨w.heap.size, 0, none⟩) HBo.out.1).trans HBo.out.2⟩
      have HC : Hid (CelV w1 AC cc (wrV D n (lE xs))) := hC
      have c1 := HBox.out.2
      have hea1 := hea w1 HB.out
      clear hb1 h hea hC
      go_wp2_with fail
      refine hea1.mono ?_
      rintro e w2 ⟨rfl, hb2⟩
      have HB2 : Hid (Below w.heap.size w w2) := onB HB.out hb2
      have HBox2 : Hid (BoxN w2 w.heap.size (.slice A0 n cap)) := HBox.out.later hb2
      have HC2 : Hid (CelV w2 AC cc (wrV D n (lE xs))) := HC.out.later hb2
      clear hb2 hea1 c1
      go_wp2_with fail
      go_loopg [8, 9, 30] n (fun gg s8 s9 s30 wr => ∃ (k : Nat) (Ac : Option Addr) (ac : Nat), k ≤ n ∧ gg = n - k ∧ s30 = .int .i64 k ∧ s9 = .nilIface ∧ s8 = .slice Ac PN ac ∧ Hid (CelV wr Ac ac (foldO D n (wrV D n (lE xs)) (O.take k))) ∧ Below w2.heap.size w2 wr)
      case atStart => exact ⟨0, AC, cc, Nat.zero_le _, rfl, rfl, rfl, rfl, HC2, Below.refl _ _⟩
      case round =>
        obtain ⟨k, Ac, ac, hk, rfl, rfl, rfl, rfl, HCr, hBw⟩ := hrel
        have HBw : Hid (Below w2.heap.size w2 wr) := hBw
        have HBr : Hid (Below w.heap.size w wr) := onB HB2.out hBw
        have cr := (HBox2.out.later hBw).2
        by_cases hlt : k < n
        · have hki : (k : Int) < (n : Int) := by omega
          have hkO : k < O.length := by rw [HOl.out]; exact hlt
          obtain ⟨hcO, h0 | ⟨bo, oo, rfl, hbo, hcell⟩⟩ := HO.out.later HBr.out
          · rw [h0] at hkO; simp at hkO
          rw [HOl.out] at hcO
          have co := hcell k hkO
          have hmem : O.getD k 0 ∈ O := by rw [List.getD_eq_getElem?_getD, List.getElem?_eq_getElem hkO]; exact List.getElem_mem hkO
          obtain ⟨j, hj, hjn⟩ := HOi.out _ hmem
          have hNx := foldO_take (D := D) (n := n) (L := wrV D n (lE xs)) hkO
          rw [hj] at co hNx
          rw [show ((j : Int)).toNat = j by omega] at hNx
          obtain ⟨Lk, hLk⟩ : ∃ Lk, foldO D n (wrV D n (lE xs)) (O.take k) = Lk := ⟨_, rfl⟩
          have hLl : Lk.length = prodN D n := by rw [← hLk, foldO_len, wrV_len]
          have hLg : goodL Lk := by rw [← hLk]; exact foldO_good _ (wrV_good HEs.out)
          rw [hLk] at hNx
          have HNx : Hid (foldO D n (wrV D n (lE xs)) (O.take (k + 1)) = onceV D n j Lk) := hNx
          have hck : chkErr D n Lk = 0 := chk_ok HEs.out.right hLl hLg
          have hfo := fonce_any A0 cap n D A C Ac ac Lk (j : Int) wr (HM.out.later HBr.out) (by rw [← hLk]; exact HCr.out)
          obtain ⟨o1, o2⟩ := on2 hck hjn
          rw [o1, o2, errV_zero, hLl, show (onceV D n j Lk).length = PN from by unfold onceV; rw [once_len, hLl]; exact HPN.out, HPN.out, ← HNx.out] at hfo
          clear hj hmem hcell hLk hLl hLg hNx hck o1 o2 hBw
          go_wp2_with fail
          refine hfo.mono ?_
          rintro e w3 ⟨⟨A3, c3, rfl, hC3⟩, hb3⟩
          have HC3 : Hid (CelV w3 A3 c3 (foldO D n (wrV D n (lE xs)) (O.take (k + 1)))) := hC3
          have HB3 : Hid (Below w2.heap.size w2 w3) := onB HBw.out hb3
          clear hC3 hb3 hfo
          go_wp2_with fail
          go_roundg (n - (k + 1))
          case measure => omega
          case rel => exact ⟨k + 1, A3, c3, by omega, rfl, by go_num, rfl, rfl, HC3, HB3.out⟩
        · have hke : k = n := by omega
          subst hke
          have HCf : Hid (CelV wr Ac ac (foldO D k (wrV D k (lE xs)) O)) := by rw [← HFin.out]; exact HCr.out
          have HFl : Hid ((foldO D k (wrV D k (lE xs)) O).length = PN) := by show _ = _; rw [foldO_len, wrV_len]; exact HPN.out
          clear hBw
          go_wp2_with fail
          go_ret2
          rw [HF.out.1, HF.out.2, HFl.out]
          exact ⟨⟨Ac, ac, rfl, HCf.out⟩, HBr.out⟩
  · obtain ⟨h1, h2⟩ := fa0 (O := O) he
    have HF : Hid (faErr D n (lE xs) O = entsErr D n (lE xs) ∧ faL D n (lE xs) O = []) := ⟨h1, h2⟩
    have HEr : Hid (errV (entsErr D n (lE xs)) = .iface 77 (.int .i64 (entsErr D n (lE xs)))) := errV_some he
    rw [errV_some he, fc_bad he] at h
    clear h1 h2 he
    generalize entsErr D n (lE xs) = ee at h HEr HF
    generalize xs.length = N at h
    generalize O.length = NO
    simp only [List.length_nil] at h
    go_enter Try.func15, Try.ntmps15
    go_wp2_with fail
    refine h.mono ?_
    rintro e w1 ⟨⟨AC, cc, rfl, -⟩, hb1⟩
    have HB : Hid (Below w.heap.size w w1) := onB HB0.out hb1
    clear hb1 h
    go_wp2_with fail
    go_ret2
    rw [HF.out.1, HF.out.2, HEr.out]
    exact ⟨⟨none, 0, rfl, CelV.nil _ _ _ (by decide)⟩, HB.out⟩
end Go.Proofs.Ytmjcnlpjnbcfjad

namespace Go.Proofs.Ytmjcnlpjnbcfjad
open Go.ChangeShapes Go.WideShapes Go.ChangeAt Go.RowKit
set_option maxRecDepth 20000

theorem getD_set {L : List (Int × Int)} {x y : Nat} {c : Int × Int} (hx : x < L.length) : (L.set x c).getD y (0, 0) = if y = x then c else L.getD y (0, 0) := by
  by_cases e : y = x
  · subst e; rw [if_pos rfl]; simp [List.getD, hx]
  · rw [if_neg e]; simp [List.getD, List.getElem?_set_ne (fun h => e h.symm)]
theorem list_same {a b : List (Int × Int)} (hl : a.length = b.length) (h : ∀ y, y < a.length → a.getD y (0, 0) = b.getD y (0, 0)) : a = b := by
  apply List.ext_getElem hl
  intro y h1 h2
  have := h y h1
  simpa [List.getD, h1, h2] using this
section
variable {D : Nat → Dm} {n dim : Nat} (hp : ∀ i, i < n → 1 ≤ (D i).n) (hd : dim < n) (ht : Tr (D dim).mem (D dim).n)
include hp hd ht
/-- what is read of parts does not change where only another member is reckoned -/
theorem atP_same {m : Nat} {L L' : List (Int × Int)} {y : Nat} (hy : y < prodN D n) (hm : y / stepD D n dim % (D dim).n = m) (h : ∀ z, z < prodN D n → m < z / stepD D n dim % (D dim).n → L'.getD z (0, 0) = L.getD z (0, 0)) : ∀ k ∈ partsOf (D dim).mem (D dim).n (m : Int), atP D n dim m y L' k = atP D n dim m y L k := fun k hk => by
  obtain ⟨j, rfl, h1, h2, -⟩ := part_behind ht hk
  obtain ⟨z, hz, hzl, hzd, -⟩ := part_place hp hd hy hm h2
  unfold atP cAt
  rw [hz]
  exact h z hzl (by rw [hzd]; exact h1)
theorem pass_get {m : Nat} {L : List (Int × Int)} (hL : L.length = prodN D n) : ∀ k, k ≤ L.length → ∀ y, y < L.length → (passTo D n dim m L k).getD y (0, 0) = if y < k ∧ y / stepD D n dim % (D dim).n = m then partsV (D dim).mem (atP D n dim m y L) (partsOf (D dim).mem (D dim).n m) else L.getD y (0, 0)
  | 0, _, y, _ => by rw [passTo, if_neg (by omega)]
  | k + 1, hk, y, hy => by
    have ih := pass_get hL (m := m) k (by omega)
    rw [passTo]
    by_cases hm : k / stepD D n dim % (D dim).n = m
    · rw [if_pos hm, getD_set (by rw [pass_len]; omega)]
      by_cases e : y = k
      · subst e
        rw [if_pos rfl, if_pos ⟨by omega, hm⟩]
        unfold partsV
        exact parts_same _ _ (atP_same hp hd ht (by omega) hm fun z hz hzm => by rw [ih z (by omega), if_neg (by omega)])
      · rw [if_neg e, ih y hy]
        by_cases h1 : y < k ∧ y / stepD D n dim % (D dim).n = m
        · rw [if_pos h1, if_pos ⟨by omega, h1.2⟩]
        · rw [if_neg h1, if_neg (by omega)]
    · rw [if_neg hm, ih y hy]
      by_cases h1 : y < k ∧ y / stepD D n dim % (D dim).n = m
      · rw [if_pos h1, if_pos ⟨by omega, h1.2⟩]
      · rw [if_neg h1, if_neg]
        rintro ⟨h2, h3⟩
        by_cases e : y = k
        · exact hm (by rw [← e]; exact h3)
        · exact h1 ⟨by omega, h3⟩
theorem mbr_get {m : Nat} {L : List (Int × Int)} (hL : L.length = prodN D n) {y : Nat} (hy : y < L.length) : (mbrV D n dim m L).getD y (0, 0) = if partsOf (D dim).mem (D dim).n (m : Int) ≠ [] ∧ y / stepD D n dim % (D dim).n = m then partsV (D dim).mem (atP D n dim m y L) (partsOf (D dim).mem (D dim).n m) else L.getD y (0, 0) := by
  unfold mbrV
  by_cases h : partsOf (D dim).mem (D dim).n (m : Int) = []
  · rw [if_pos h, if_neg (by simp [h])]
  · rw [if_neg h, pass_get hp hd ht hL _ (Nat.le_refl _) y hy]
    by_cases h1 : y / stepD D n dim % (D dim).n = m
    · rw [if_pos ⟨hy, h1⟩, if_pos ⟨h, h1⟩]
    · rw [if_neg (by omega), if_neg (by simp [h1])]
/-- each cell with a member is what comes of its parts -/
def FixAt (D : Nat → Dm) (n dim m : Nat) (L : List (Int × Int)) : Prop := ∀ y, y < L.length → y / stepD D n dim % (D dim).n = m → partsOf (D dim).mem (D dim).n (m : Int) ≠ [] → L.getD y (0, 0) = partsV (D dim).mem (atP D n dim m y L) (partsOf (D dim).mem (D dim).n m)
theorem fix_same {m : Nat} {L : List (Int × Int)} (hL : L.length = prodN D n) (h : FixAt D n dim m L) : mbrV D n dim m L = L := by
  refine list_same (mbr_len ..) fun y hy => ?_
  rw [mbr_len] at hy
  rw [mbr_get hp hd ht hL hy]
  split
  · rename_i h1; exact (h y hy h1.2 h1.1).symm
  · rfl
theorem fix_here {m : Nat} {L : List (Int × Int)} (hL : L.length = prodN D n) : FixAt D n dim m (mbrV D n dim m L) := fun y hy hm hP => by
  rw [mbr_len] at hy
  rw [mbr_get hp hd ht hL hy, if_pos ⟨hP, hm⟩]
  exact parts_same _ _ fun k hk => (atP_same hp hd ht (by omega) hm (fun z hz hzm => by rw [mbr_get hp hd ht hL (by omega), if_neg (by omega)]) k hk).symm
theorem fix_step {m m' : Nat} (hmm : m' < m) {L : List (Int × Int)} (hL : L.length = prodN D n) (h : FixAt D n dim m L) : FixAt D n dim m (mbrV D n dim m' L) := fun y hy hm hP => by
  rw [mbr_len] at hy
  rw [mbr_get hp hd ht hL hy, if_neg (by omega), h y hy hm hP]
  exact parts_same _ _ fun k hk => (atP_same hp hd ht (by omega) hm (fun z hz hzm => by rw [mbr_get hp hd ht hL (by omega), if_neg (by omega)]) k hk).symm
theorem once_fix {L : List (Int × Int)} (hL : L.length = prodN D n) : ∀ r, r ≤ (D dim).n → ∀ m, (D dim).n - r ≤ m → m < (D dim).n → FixAt D n dim m (onceTo D n dim L r)
  | 0, _, m, h1, h2 => by omega
  | r + 1, hr, m, h1, h2 => by
    rw [onceTo]
    have hl : (onceTo D n dim L r).length = prodN D n := by rw [once_len]; exact hL
    by_cases e : m = (D dim).n - 1 - r
    · rw [e]; exact fix_here hp hd ht hl
    · exact fix_step hp hd ht (by omega) hl (once_fix hL r (by omega) m (by omega) h2)
theorem once_twice {L : List (Int × Int)} (hL : L.length = prodN D n) : onceV D n dim (onceV D n dim L) = onceV D n dim L := by
  have hf := once_fix hp hd ht hL (D dim).n (Nat.le_refl _)
  have hl : (onceV D n dim L).length = prodN D n := by unfold onceV; rw [once_len]; exact hL
  have : ∀ r, r ≤ (D dim).n → onceTo D n dim (onceV D n dim L) r = onceV D n dim L := by
    intro r
    induction r with
    | zero => intro _; rfl
    | succ r ih =>
      intro hr
      rw [onceTo, ih (by omega)]
      exact fix_same hp hd ht hl (hf _ (by omega) (by omega))
  exact this _ (Nat.le_refl _)
end

set_option maxHeartbeats 4000000 in
theorem samecells_any (A B : Option Addr) (ca cb : Nat) (L : List (Int × Int)) (w : World) (hn : L.length ≤ 3000) (hA : CelV w A ca L) (hB : CelV w B cb L) : Calls Try.prog 16 #[.slice A L.length ca, .slice B L.length cb] w fun e w' => e = .returned (.bool true) ∧ Below w.heap.size w w' := by
  have HA : Hid (CelV w A ca L) := hA
  have HB : Hid (CelV w B cb L) := hB
  obtain ⟨N, hN⟩ : ∃ N, L.length = N := ⟨_, rfl⟩
  have HN : Hid (L.length = N) := hN
  rw [hN] at hn ⊢
  have hn' : (N : Int) ≤ 3000 := by omega
  have hne : ((N : Int) != (N : Int)) = false := by simp
  clear hA hB hN
  go_enter Try.func16, Try.ntmps16
  go_wp2_with fail
  go_loopg [5] N (fun g s5 wr => ∃ (k : Nat), k ≤ N ∧ g = N - k ∧ s5 = .int .i64 k ∧ Below w.heap.size w wr)
  case atStart => exact ⟨0, Nat.zero_le _, rfl, rfl, Below.refl _ _⟩
  case round =>
    obtain ⟨k, hk, rfl, rfl, hBw⟩ := hrel
    have HW : Hid (Below w.heap.size w wr) := hBw
    by_cases hlt : k < N
    · have hki : (k : Int) < (N : Int) := by omega
      have hkL : k < L.length := by rw [HN.out]; exact hlt
      obtain ⟨hca, -, h0 | ⟨b1, o1, rfl, hA⟩⟩ := HA.out.later hBw
      · rw [h0] at hkL; simp at hkL
      obtain ⟨hcb, -, h0 | ⟨b2, o2, rfl, hB⟩⟩ := HB.out.later hBw
      · rw [h0] at hkL; simp at hkL
      obtain ⟨a1, a2⟩ := hA.2 k hkL
      obtain ⟨b1', b2'⟩ := hB.2 k hkL
      rw [HN.out] at hca hcb
      generalize (L.getD k noC).1 = x at a1 b1'
      generalize (L.getD k noC).2 = y at a2 b2'
      clear hA hB hBw
      go_wp2_with fail
      first | (go_quiet (fail); go_wp2_with fail) | skip
      go_roundg (N - (k + 1))
      case measure => omega
      case rel => first | exact ⟨k + 1, by omega, rfl, by go_num, HW.out⟩ | exact ⟨k + 1, by omega, rfl, by go_num, below_drewN HW.out _⟩
    · have hke : k = N := by omega
      subst hke
      clear hBw
      go_wp2_with fail
      go_ret
      exact ⟨rfl, HW.out⟩
end Go.Proofs.Ytmjcnlpjnbcfjad

namespace Go.Proofs.Ytmjcnlpjnbcfjad

/-- how a place counts in another one where some dims are folded, and others are not -/
def facS (D : Nat → Dm) (S : Nat → Bool) (p q : List Int) (k : Nat) : Int := if S k = true then weightOf (D k).mem (p.getD k 0) (q.getD k 0) else if p.getD k 0 = q.getD k 0 then 1 else 0
def gwTo (D : Nat → Dm) (S : Nat → Bool) (p q : List Int) : Nat → Int
  | 0 => 1
  | k + 1 => gwTo D S p q k * facS D S p q k
theorem gw_congr {D : Nat → Dm} {S S' : Nat → Bool} {p p' q : List Int} : ∀ k, (∀ j, j < k → facS D S p q j = facS D S' p' q j) → gwTo D S p q k = gwTo D S' p' q k
  | 0, _ => rfl
  | k + 1, h => by rw [gwTo, gwTo, gw_congr k fun j hj => h j (by omega), h k (by omega)]
/-- all but one dim -/
def grTo (D : Nat → Dm) (S : Nat → Bool) (dim : Nat) (p q : List Int) : Nat → Int
  | 0 => 1
  | k + 1 => grTo D S dim p q k * (if k = dim then 1 else facS D S p q k)
theorem gw_split (D : Nat → Dm) (S : Nat → Bool) (dim : Nat) (p q : List Int) : ∀ k, gwTo D S p q k = grTo D S dim p q k * (if dim < k then facS D S p q dim else 1)
  | 0 => by simp [gwTo, grTo]
  | k + 1 => by
    rw [gwTo, grTo, gw_split D S dim p q k]
    rcases Nat.lt_trichotomy dim k with h | h | h
    · rw [if_pos h, if_pos (show dim < k + 1 by omega), if_neg (show ¬ k = dim by omega), Int.mul_assoc, Int.mul_comm (facS D S p q dim), ← Int.mul_assoc]
    · subst h
      rw [if_neg (show ¬ dim < dim by omega), if_pos (show dim < dim + 1 by omega), if_pos (show dim = dim from rfl)]
    · rw [if_neg (show ¬ dim < k by omega), if_neg (show ¬ dim < k + 1 by omega), if_neg (show ¬ k = dim by omega), Int.mul_one, Int.mul_one]
theorem gr_congr {D : Nat → Dm} {S : Nat → Bool} {dim : Nat} {p p' q : List Int} : ∀ k, (∀ j, j < k → j ≠ dim → p.getD j 0 = p'.getD j 0) → grTo D S dim p q k = grTo D S dim p' q k
  | 0, _ => rfl
  | k + 1, h => by
    rw [grTo, grTo, gr_congr k fun j hj => h j (by omega)]
    by_cases e : k = dim
    · rw [if_pos e, if_pos e]
    · rw [if_neg e, if_neg e]
      unfold facS
      rw [h k (by omega) e]
theorem fac_small {D : Nat → Dm} {n : Nat} {q : List Int} (hq : InO D n q) (S : Nat → Bool) (p : List Int) {k : Nat} (hk : k < n) : -1 ≤ facS D S p q k ∧ facS D S p q k ≤ 1 := by
  unfold facS
  split
  · exact weight_small hq hk _
  · split <;> omega
theorem gw_small {D : Nat → Dm} {n : Nat} {q : List Int} (hq : InO D n q) (S : Nat → Bool) (p : List Int) : ∀ k, k ≤ n → -1 ≤ gwTo D S p q k ∧ gwTo D S p q k ≤ 1
  | 0, _ => by simp [gwTo]
  | k + 1, hk => by
    rw [gwTo]
    exact small_mul (gw_small hq S p k (by omega)) (fac_small hq S p (by omega))

def gN (D : Nat → Dm) (n : Nat) (S : Nat → Bool) (p : List Int) : List En → Int
  | [] => 0
  | e :: r => gwTo D S p e.pl n * e.n + gN D n S p r
def gB (D : Nat → Dm) (n : Nat) (S : Nat → Bool) (p : List Int) (e : En) : Bool := !(gwTo D S p e.pl n == 0)
def gV (D : Nat → Dm) (n : Nat) (S : Nat → Bool) (l : List En) (p : List Int) : Int × Int := (if l.any (gB D n S p) = true then 1 else 0, gN D n S p l)
def gL (D : Nat → Dm) (n : Nat) (S : Nat → Bool) (l : List En) : List (Int × Int) := (List.range (prodN D n)).map fun x => gV D n S l (placeL D n x)
theorem gL_len (D : Nat → Dm) (n : Nat) (S : Nat → Bool) (l : List En) : (gL D n S l).length = prodN D n := by simp [gL]
theorem gL_at {D : Nat → Dm} {n : Nat} {S : Nat → Bool} {l : List En} {x : Nat} (hx : x < prodN D n) : (gL D n S l).getD x (0, 0) = gV D n S l (placeL D n x) := by simp [gL, List.getD, hx]
theorem gV_congr {D : Nat → Dm} {n : Nat} {S S' : Nat → Bool} {p p' : List Int} : ∀ {l : List En}, (∀ e ∈ l, gwTo D S p e.pl n = gwTo D S' p' e.pl n) → gV D n S l p = gV D n S' l p'
  | [], _ => rfl
  | e :: r, h => by
    have ih := gV_congr (l := r) fun x hx => h x (List.mem_cons_of_mem _ hx)
    have he := h e (List.mem_cons_self ..)
    unfold gV at ih ⊢
    simp only [Prod.mk.injEq] at ih
    have hb : gB D n S p e = gB D n S' p' e := by unfold gB; rw [he]
    rw [List.any_cons, List.any_cons, hb, gN, gN, he, ih.2]
    refine Prod.ext ?_ rfl
    have h1 := ih.1
    simp only at h1 ⊢
    cases gB D n S' p' e
    · simpa using h1
    · simp
theorem gN_bound {D : Nat → Dm} {n : Nat} (S : Nat → Bool) (p : List Int) : ∀ l : List En, (∀ e ∈ l, InO D n e.pl ∧ leafV D n e.pl = true ∧ numOk e.n = true) → -1000000 * (l.length : Int) ≤ gN D n S p l ∧ gN D n S p l ≤ 1000000 * (l.length : Int)
  | [], _ => by simp [gN]
  | e :: r, h => by
    obtain ⟨h1, -, h2⟩ := h e (List.mem_cons_self ..)
    have ih := gN_bound S p r fun x hx => h x (List.mem_cons_of_mem _ hx)
    have hw := gw_small h1 S p n (Nat.le_refl _)
    have hn : -1000000 ≤ e.n ∧ e.n ≤ 1000000 := by simpa [numOk] using h2
    have hv : -1000000 ≤ gwTo D S p e.pl n * e.n ∧ gwTo D S p e.pl n * e.n ≤ 1000000 := by
      have h3 : gwTo D S p e.pl n = -1 ∨ gwTo D S p e.pl n = 0 ∨ gwTo D S p e.pl n = 1 := by omega
      rcases h3 with h3 | h3 | h3 <;> rw [h3] <;> omega
    rw [gN, List.length_cons]
    omega
theorem gN_none {D : Nat → Dm} {n : Nat} {S : Nat → Bool} {p : List Int} : ∀ {l : List En}, l.any (gB D n S p) = false → gN D n S p l = 0
  | [], _ => rfl
  | e :: r, h => by
    rw [List.any_cons, Bool.or_eq_false_iff] at h
    have : gwTo D S p e.pl n = 0 := by have := h.1; unfold gB at this; simpa using this
    rw [gN, gN_none h.2, this]
    simp
/-- where all dims are folded it is what comes of all parts -/
theorem gw_all {D : Nat → Dm} {S : Nat → Bool} {p q : List Int} : ∀ k, (∀ j, j < k → S j = true) → gwTo D S p q k = pwTo D p q k
  | 0, _ => rfl
  | k + 1, h => by rw [gwTo, pwTo, gw_all k fun j hj => h j (by omega), facS, if_pos (h k (by omega))]
theorem gV_all {D : Nat → Dm} {n : Nat} {S : Nat → Bool} (hS : ∀ j, j < n → S j = true) (l : List En) (p : List Int) : gV D n S l p = rollV D n l p := by
  have h1 : ∀ l : List En, l.any (gB D n S p) = l.any (cntR D n p) := fun l => by
    induction l with
    | nil => rfl
    | cons e r ih => rw [List.any_cons, List.any_cons, ih, cnt_pw, gB, gw_all n hS]
  have h2 : ∀ l : List En, gN D n S p l = rollN D n p l := fun l => by
    induction l with
    | nil => rfl
    | cons e r ih =>
      rw [gN, rollN, ih, gw_all n hS, cnt_pw]
      by_cases h : pwTo D p e.pl n = 0
      · rw [h]; simp
      · rw [if_pos (by simpa using h)]; rfl
  unfold gV rollV rollK
  rw [h1, h2]

/-- where none is folded it is what is written -/
theorem gw_none {D : Nat → Dm} {p q : List Int} : ∀ k, gwTo D (fun _ => false) p q k = if ∀ j, j < k → p.getD j 0 = q.getD j 0 then 1 else 0
  | 0 => by simp [gwTo]
  | k + 1 => by
    rw [gwTo, gw_none k, facS]
    simp only [Bool.false_eq_true, if_false]
    by_cases h : ∀ j, j < k → p.getD j 0 = q.getD j 0
    · rw [if_pos h]
      by_cases e : p.getD k 0 = q.getD k 0
      · rw [if_pos e, if_pos]
        · rfl
        · intro j hj
          rcases Nat.lt_succ_iff_lt_or_eq.1 hj with h1 | rfl
          · exact h j h1
          · exact e
      · rw [if_neg e, if_neg]
        · rfl
        · exact fun h1 => e (h1 k (by omega))
    · rw [if_neg h, if_neg (show ¬ ∀ j, j < k + 1 → p.getD j 0 = q.getD j 0 from fun h1 => h fun j hj => h1 j (by omega)), Int.zero_mul]
theorem gw_num {D : Nat → Dm} {n x : Nat} {q : List Int} (hq : InO D n q) (hx : x < prodN D n) : gwTo D (fun _ => false) (placeL D n x) q n = if (numI D q n).toNat = x then 1 else 0 := by
  rw [gw_none]
  by_cases h : (numI D q n).toNat = x
  · rw [if_pos h, if_pos]
    intro j _
    rw [← h, place_num hq]
  · rw [if_neg h, if_neg]
    intro h1
    have e : placeL D n x = q := by
      apply List.ext_getElem (by rw [placeL_len]; exact hq.len.symm)
      intro j h2 h3
      have := h1 j (by rw [placeL_len] at h2; exact h2)
      simpa [List.getD, h2, h3] using this
    apply h
    rw [← e, num_place hq.right hx]
    omega
theorem wr_get {D : Nat → Dm} {n : Nat} {x : Nat} (hx : x < prodN D n) : ∀ (l : List En) (L : List (Int × Int)), L.length = prodN D n → (∀ e ∈ l, InO D n e.pl) → (l.Pairwise fun a b => lessL a.pl b.pl = true) → (l.foldl (wrStep D n) L).getD x (0, 0) = if l.any (gB D n (fun _ => false) (placeL D n x)) = true then (1, gN D n (fun _ => false) (placeL D n x) l) else L.getD x (0, 0)
  | [], L, _, _, _ => by simp
  | e :: r, L, hL, hi, hr => by
    have hie := hi e (List.mem_cons_self ..)
    have hr' := List.pairwise_cons.1 hr
    obtain ⟨hb1, hb2, -⟩ := numI_bound hie (Nat.le_refl n)
    rw [List.foldl_cons, wr_get hx r _ (by unfold wrStep; rw [List.length_set]; exact hL) (fun y hy => hi y (List.mem_cons_of_mem _ hy)) hr'.2, List.any_cons, gN]
    have hg := gw_num hie hx
    unfold wrStep
    rw [getD_set (by omega)]
    by_cases h : (numI D e.pl n).toNat = x
    · have hno : r.any (gB D n (fun _ => false) (placeL D n x)) = false := by
        rw [Bool.eq_false_iff]
        intro ha
        obtain ⟨y, hy, hyb⟩ := List.any_eq_true.1 ha
        have hiy := hi y (List.mem_cons_of_mem _ hy)
        have h1 := gw_num hiy hx
        have h2 := less_num hie hiy (hr'.1 y hy)
        obtain ⟨h3, -, -⟩ := numI_bound hiy (Nat.le_refl n)
        rw [if_neg (by omega)] at h1
        unfold gB at hyb
        rw [h1] at hyb
        simp at hyb
      rw [if_pos h] at hg
      have hbe : gB D n (fun _ => false) (placeL D n x) e = true := by unfold gB; rw [hg]; rfl
      rw [hno, hbe, gN_none hno, hg]
      simp [h]
    · rw [if_neg h] at hg
      have hbe : gB D n (fun _ => false) (placeL D n x) e = false := by unfold gB; rw [hg]; rfl
      rw [hbe, hg, if_neg (show ¬ x = (numI D e.pl n).toNat from fun e => h e.symm)]
      simp
theorem wr_gL {D : Nat → Dm} {n : Nat} {l : List En} (h : Ens D n l) : wrV D n l = gL D n (fun _ => false) l := by
  refine list_same (by rw [wrV_len, gL_len]) fun x hx => ?_
  rw [wrV_len] at hx
  rw [gL_at hx]
  unfold wrV
  rw [wr_get hx l _ (by simp) (fun e he => (h.each e he).1) h.rise]
  unfold gV
  split
  · rfl
  · rename_i hn
    rw [gN_none (by simpa using hn)]
    simp [List.getD, hx]

/-- sums over parts -/
def sumP (f : Int → Int) : List Int → Int
  | [] => 0
  | k :: r => f k + sumP f r
theorem sumP_congr {f g : Int → Int} : ∀ {P : List Int}, (∀ k ∈ P, f k = g k) → sumP f P = sumP g P
  | [], _ => rfl
  | k :: r, h => by rw [sumP, sumP, h k (List.mem_cons_self ..), sumP_congr fun j hj => h j (List.mem_cons_of_mem _ hj)]
theorem sumP_add (f g : Int → Int) : ∀ P : List Int, sumP (fun k => f k + g k) P = sumP f P + sumP g P
  | [] => rfl
  | k :: r => by rw [sumP, sumP, sumP, sumP_add f g r]; omega
theorem sumP_mul (f : Int → Int) (c : Int) : ∀ P : List Int, sumP (fun k => f k * c) P = sumP f P * c
  | [] => by simp [sumP]
  | k :: r => by rw [sumP, sumP, sumP_mul f c r, Int.add_mul]
theorem sumP_append (f : Int → Int) : ∀ (P Q : List Int), sumP f (P ++ Q) = sumP f P + sumP f Q
  | [], Q => by simp [sumP]
  | k :: r, Q => by rw [List.cons_append, sumP, sumP, sumP_append f r Q]; omega
theorem sumP_zero {f : Int → Int} : ∀ {P : List Int}, (∀ k ∈ P, f k = 0) → sumP f P = 0
  | [], _ => rfl
  | k :: r, h => by rw [sumP, h k (List.mem_cons_self ..), sumP_zero fun j hj => h j (List.mem_cons_of_mem _ hj)]; rfl
theorem sel_single {f : Int → Int} {p : Nat → Bool} {k0 : Nat} : ∀ n, k0 < n → p k0 = true → (∀ k, k < n → p k = true → k ≠ k0 → f k = 0) → sumP f (selTo p n) = f k0
  | 0, h, _, _ => by omega
  | n + 1, h, hp, hz => by
    by_cases e : k0 = n
    · subst e
      have h0 : sumP f (selTo p k0) = 0 := sumP_zero fun k hk => by
        obtain ⟨m, rfl, hm, hpm⟩ := selTo_mem k hk
        exact hz m (by omega) hpm (by omega)
      rw [selTo_hit hp, sumP_append, h0]
      simp [sumP]
    · have ih := sel_single n (by omega) hp fun k hk => hz k (by omega)
      cases hn : p n
      · rw [selTo_miss hn]; exact ih
      · rw [selTo_hit hn, sumP_append, ih, sumP, sumP, hz n (by omega) hn (fun h => e h.symm)]; omega
theorem sumTo_none {f : Nat → Nat} : ∀ n, sumTo f n = 0 → ∀ k, k < n → f k = 0
  | 0, _, k, hk => by omega
  | n + 1, h, k, hk => by
    rw [sumTo] at h
    by_cases e : k = n
    · rw [e]; omega
    · exact sumTo_none n (by omega) k (by omega)
theorem sumTo_only {f : Nat → Nat} : ∀ n, sumTo f n = 1 → ∃ k, k < n ∧ f k = 1 ∧ ∀ j, j < n → j ≠ k → f j = 0
  | 0, h => by simp [sumTo] at h
  | n + 1, h => by
    rw [sumTo] at h
    by_cases e : f n = 0
    · obtain ⟨k, h1, h2, h3⟩ := sumTo_only (f := f) n (by omega)
      refine ⟨k, by omega, h2, fun j hj hne => ?_⟩
      by_cases e2 : j = n
      · rw [e2]; exact e
      · exact h3 j (by omega) hne
    · have h0 : sumTo f n = 0 := by omega
      refine ⟨n, by omega, by omega, fun j hj hne => sumTo_none n h0 j (by omega)⟩
/-- a leaf counts in a whole as in the one part of it that it is in -/
theorem part_cases {M : Nat → Mem} {n : Nat} (ht : Tr M n) {m j : Nat} (hj : j < n) (hne : j ≠ m) :
    (weightOf M (m : Int) (j : Int) = 0 ∧ ∀ k, k < n → partB M (m : Int) k = true → weightOf M (k : Int) (j : Int) = 0) ∨
    ∃ k0, k0 < n ∧ partB M (m : Int) k0 = true ∧ weightOf M (m : Int) (j : Int) = (M k0).sign * weightOf M (k0 : Int) (j : Int) ∧ ∀ k, k < n → partB M (m : Int) k = true → k ≠ k0 → weightOf M (k : Int) (j : Int) = 0 := by
  have hs := steps_one ht (i := m) (j + 1) j hj (by omega)
  have hd : decide (j = m) = false := decide_eq_false hne
  rw [hd] at hs
  cases hin : inB (pathOf M (j : Int)) (m : Int)
  · left
    rw [hin] at hs
    have h0 : sumTo (fun p => one (partB M m p && inB (pathOf M j) p)) n = 0 := hs
    refine ⟨wgt_out _ (inB_false.1 hin) _, fun k hk hp => wgt_out _ (inB_false.1 ?_) _⟩
    have := sumTo_none n h0 k hk
    simp only [hp, Bool.true_and] at this
    cases h : inB (pathOf M (j : Int)) (k : Int)
    · rfl
    · rw [h] at this; cases this
  · right
    rw [hin] at hs
    have h1 : sumTo (fun p => one (partB M m p && inB (pathOf M j) p)) n = 1 := hs
    obtain ⟨k0, hk0, h2, h3⟩ := sumTo_only n h1
    have h4 : partB M (m : Int) k0 = true ∧ inB (pathOf M (j : Int)) (k0 : Int) = true := by
      cases ha : partB M (m : Int) k0
      · simp [ha, one] at h2
      · cases hb : inB (pathOf M (j : Int)) (k0 : Int)
        · simp [hb, one] at h2
        · exact ⟨rfl, rfl⟩
    refine ⟨k0, hk0, h4.1, ?_, fun k hk hp hne => wgt_out _ (inB_false.1 ?_) _⟩
    · rw [Int.mul_comm]
      exact part_weight ht hk0 (by simpa [partB] using h4.1) (j + 1) j 1 hj (by omega) (inB_true.1 h4.2)
    · have := h3 k hk hne
      simp only [hp, Bool.true_and] at this
      cases h : inB (pathOf M (j : Int)) (k : Int)
      · rfl
      · rw [h] at this; cases this
end Go.Proofs.Ytmjcnlpjnbcfjad

namespace Go.Proofs.Ytmjcnlpjnbcfjad
set_option maxRecDepth 20000

/-- what comes of parts whose numbers are small: their sum, each times its sign; something, if one is something -/
def someP (M : Nat → Mem) (f : Int → Int × Int) (k : Int) : Bool := !((M k.toNat).sign == 0) && ((f k).1 == 1)
theorem parts_sum {M : Nat → Mem} {f : Int → Int × Int} (P : List Int) (a b : Int) (hs : ∀ k ∈ P, -1 ≤ (M k.toNat).sign ∧ (M k.toNat).sign ≤ 1) (hf : ∀ k ∈ P, ((f k).1 = 1 ∨ ((f k).1 = 0 ∧ (f k).2 = 0)) ∧ -3000000000 ≤ (f k).2 ∧ (f k).2 ≤ 3000000000) (hab : a = 1 ∨ (a = 0 ∧ b = 0)) (h1 : -(1000000000000 - 3000000000 * (P.length : Int)) ≤ b) (h2 : b ≤ 1000000000000 - 3000000000 * (P.length : Int)) :
    P.foldl (partStep M f) (a, b) = (if (decide (a = 1) || P.any (someP M f)) = true then 1 else 0, b + sumP (fun k => (M k.toNat).sign * (f k).2) P) := by
  induction P generalizing a b with
  | nil =>
    simp only [List.foldl_nil, List.any_nil, Bool.or_false, sumP, Int.add_zero]
    rcases hab with rfl | ⟨rfl, rfl⟩ <;> simp
  | cons k r ih =>
    have hsk := hs k (List.mem_cons_self ..)
    obtain ⟨hfk, hb1, hb2⟩ := hf k (List.mem_cons_self ..)
    have hs' := fun j hj => hs j (List.mem_cons_of_mem k hj)
    have hf' := fun j hj => hf j (List.mem_cons_of_mem k hj)
    simp only [List.length_cons] at h1 h2
    have hlen : (0 : Int) ≤ (r.length : Int) := by omega
    rw [List.foldl_cons, List.any_cons, sumP]
    have e3 : (M k.toNat).sign = 1 ∨ (M k.toNat).sign = -1 ∨ (M k.toNat).sign = 0 := by omega
    rcases e3 with e3 | e3 | e3
    · have hst : partStep M f (a, b) k = (if (decide (a = 1) || decide ((f k).1 = 1)) = true then 1 else 0, b + (f k).2) := by
        unfold partStep
        rw [if_pos e3]
        show plusP a b (f k).1 (f k).2 = _
        rcases hab with rfl | ⟨rfl, rfl⟩
        · rcases hfk with hk | ⟨hk, hk2⟩
          · rw [hk]; unfold plusP joinP; rw [ofP_in (by omega) (by omega)]; rfl
          · rw [hk, hk2]; unfold plusP joinP; rw [ofP_in (by omega) (by omega)]; rfl
        · rcases hfk with hk | ⟨hk, hk2⟩
          · rw [hk]; unfold plusP joinP; rw [ofP_in (by omega) (by omega)]; rfl
          · rw [hk, hk2]; rfl
      rw [hst, ih _ _ hs' hf' ?_ (by omega) (by omega)]
      · have hsp : someP M f k = decide ((f k).1 = 1) := by
          unfold someP
          rw [e3]
          simp
          rfl
        rw [hsp]
        refine Prod.ext ?_ (by simp only [e3]; omega)
        simp only
        by_cases ha : a = 1
        · simp [ha]
        · by_cases hk : (f k).1 = 1
          · simp [hk]
          · simp [ha, hk]
      · rcases hab with rfl | ⟨rfl, rfl⟩
        · left; simp
        · rcases hfk with hk | ⟨hk, hk2⟩
          · left; simp [hk]
          · right; simp [hk, hk2]
    · have hst : partStep M f (a, b) k = (if (decide (a = 1) || decide ((f k).1 = 1)) = true then 1 else 0, b - (f k).2) := by
        unfold partStep
        rw [if_neg (by omega), if_pos e3]
        show minusP a b (f k).1 (f k).2 = _
        rcases hab with rfl | ⟨rfl, rfl⟩
        · rcases hfk with hk | ⟨hk, hk2⟩
          · rw [hk]; unfold minusP joinP; rw [ofP_in (by omega) (by omega)]; rfl
          · rw [hk, hk2]; unfold minusP joinP; rw [ofP_in (by omega) (by omega)]; rfl
        · rcases hfk with hk | ⟨hk, hk2⟩
          · rw [hk]; unfold minusP joinP; rw [ofP_in (by omega) (by omega)]; rfl
          · rw [hk, hk2]; rfl
      rw [hst, ih _ _ hs' hf' ?_ (by omega) (by omega)]
      · have hsp : someP M f k = decide ((f k).1 = 1) := by
          unfold someP
          rw [e3]
          simp
          rfl
        rw [hsp]
        refine Prod.ext ?_ (by simp only [e3]; omega)
        simp only
        by_cases ha : a = 1
        · simp [ha]
        · by_cases hk : (f k).1 = 1
          · simp [hk]
          · simp [ha, hk]
      · rcases hab with rfl | ⟨rfl, rfl⟩
        · left; simp
        · rcases hfk with hk | ⟨hk, hk2⟩
          · left; simp [hk]
          · right; simp [hk, hk2]
    · have hst : partStep M f (a, b) k = (a, b) := by
        unfold partStep
        rw [if_neg (by omega), if_neg (by omega)]
      rw [hst, ih _ _ hs' hf' hab (by omega) (by omega)]
      have hsp : someP M f k = false := by
        unfold someP
        rw [e3]
        rfl
      rw [hsp, e3, Int.zero_mul, Int.zero_add, Bool.false_or]

section
variable {D : Nat → Dm} {n dim : Nat} {l : List En} (hE : Ens D n l) (hd : dim < n) {S : Nat → Bool} (hS : S dim = false)
/-- the dims that are folded, and one more -/
def addS (S : Nat → Bool) (dim : Nat) (k : Nat) : Bool := S k || decide (k = dim)
include hE hd
theorem leaf_dim {e : En} (he : e ∈ l) : ∃ j : Nat, e.pl.getD dim 0 = j ∧ j < (D dim).n ∧ leafB (D dim).mem (D dim).n j = true := by
  obtain ⟨h1, h2, -⟩ := hE.each e he
  have h3 := h1.lo dim hd
  have h4 := h1.hi dim hd
  have h5 := leaf_each h2 dim hd
  refine ⟨(e.pl.getD dim 0).toNat, by omega, by omega, h5⟩
include hS
/-- a member without parts: nothing changes -/
theorem gw_bare {e : En} (he : e ∈ l) {p : List Int} {m : Nat} (hm : m < (D dim).n) (hp : p.getD dim 0 = m) (hP : partsOf (D dim).mem (D dim).n (m : Int) = []) : gwTo D (addS S dim) p e.pl n = gwTo D S p e.pl n := by
  have ht : Tr (D dim).mem (D dim).n := Tr.of ((allErr_right hE.right).2 dim hd)
  obtain ⟨j, hj, hjn, -⟩ := leaf_dim hE hd he
  refine gw_congr n fun k hk => ?_
  by_cases e1 : k = dim
  · subst e1
    unfold facS addS
    rw [hS, hp, hj]
    simp only [decide_true, Bool.or_true, if_true, Bool.false_eq_true, if_false]
    by_cases e2 : m = j
    · subst e2
      rw [if_pos rfl, weightOf, pathOf_cons ht hm, wgt_hit]
    · rw [if_neg (by omega), weightOf, wgt_out]
      intro h
      obtain ⟨q, h1, h2⟩ := part_has ht (j + 1) j hjn (by omega) (fun h => e2 h.symm) h
      have := sel_in h1 h2
      rw [show selTo (partB (D k).mem (m : Int)) (D k).n = [] from hP] at this
      cases this
  · unfold facS addS
    simp [e1]
omit hS
/-- a member with parts: an entry counts in it by one of them -/
theorem gw_parts {e : En} (he : e ∈ l) {p : List Int} {m : Nat} (hp : p.getD dim 0 = m) (hP : partsOf (D dim).mem (D dim).n (m : Int) ≠ []) (pk : Int → List Int) (hpk : ∀ k, k ∈ partsOf (D dim).mem (D dim).n (m : Int) → (pk k).getD dim 0 = k ∧ ∀ i, i < n → i ≠ dim → (pk k).getD i 0 = p.getD i 0) :
    gwTo D (addS S dim) p e.pl n = sumP (fun k => ((D dim).mem k.toNat).sign * gwTo D (addS S dim) (pk k) e.pl n) (partsOf (D dim).mem (D dim).n (m : Int)) ∧
    (gwTo D (addS S dim) p e.pl n ≠ 0 ↔ ∃ k, k ∈ partsOf (D dim).mem (D dim).n (m : Int) ∧ ((D dim).mem k.toNat).sign ≠ 0 ∧ gwTo D (addS S dim) (pk k) e.pl n ≠ 0) := by
  have ht : Tr (D dim).mem (D dim).n := Tr.of ((allErr_right hE.right).2 dim hd)
  obtain ⟨j, hj, hjn, hjl⟩ := leaf_dim hE hd he
  have hne : j ≠ m := fun e => hP (by rw [← e]; exact leaf_parts hjl)
  have hfac : ∀ q : List Int, facS D (addS S dim) q e.pl dim = weightOf (D dim).mem (q.getD dim 0) (j : Int) := fun q => by unfold facS addS; rw [hj]; simp
  have hw : ∀ q : List Int, gwTo D (addS S dim) q e.pl n = grTo D (addS S dim) dim q e.pl n * weightOf (D dim).mem (q.getD dim 0) (j : Int) := fun q => by rw [gw_split D (addS S dim) dim q e.pl n, if_pos hd, hfac]
  obtain ⟨c, hc⟩ : ∃ c, grTo D (addS S dim) dim p e.pl n = c := ⟨_, rfl⟩
  have hwk : ∀ k, k ∈ partsOf (D dim).mem (D dim).n (m : Int) → gwTo D (addS S dim) (pk k) e.pl n = c * weightOf (D dim).mem k (j : Int) := fun k hk => by
    obtain ⟨h1, h2⟩ := hpk k hk
    rw [hw, h1, ← hc, gr_congr n h2]
  rw [hw, hp, hc]
  rcases part_cases ht hjn hne with ⟨h0, hz⟩ | ⟨k0, hk0, hp0, h0, hz⟩
  · have hall : ∀ k, k ∈ partsOf (D dim).mem (D dim).n (m : Int) → gwTo D (addS S dim) (pk k) e.pl n = 0 := fun k hk => by
      obtain ⟨q, rfl, hq, hpq⟩ := selTo_mem k hk
      rw [hwk _ hk, hz q hq hpq, Int.mul_zero]
    rw [h0, Int.mul_zero]
    refine ⟨(sumP_zero fun k hk => by rw [hall k hk, Int.mul_zero]).symm, fun h => absurd rfl h, fun ⟨k, hk, _, h⟩ => absurd (hall k hk) h⟩
  · have hk0m : (k0 : Int) ∈ partsOf (D dim).mem (D dim).n (m : Int) := sel_in hk0 hp0
    have hkz : ∀ q, q < (D dim).n → partB (D dim).mem (m : Int) q = true → q ≠ k0 → gwTo D (addS S dim) (pk (q : Int)) e.pl n = 0 := fun q hq hpq hqn => by rw [hwk _ (sel_in hq hpq), hz q hq hpq hqn, Int.mul_zero]
    have e1 : c * weightOf (D dim).mem (m : Int) (j : Int) = ((D dim).mem k0).sign * gwTo D (addS S dim) (pk (k0 : Int)) e.pl n := by rw [h0, hwk _ hk0m, ← Int.mul_assoc, Int.mul_comm c, Int.mul_assoc]
    rw [e1]
    refine ⟨?_, fun h => ⟨k0, hk0m, fun h1 => h (by rw [show ((k0 : Int)).toNat = k0 by omega] at h1; rw [h1, Int.zero_mul]), fun h1 => h (by rw [h1, Int.mul_zero])⟩, fun ⟨k, hk, hs, hg⟩ => ?_⟩
    · have := sel_single (f := fun k => ((D dim).mem k.toNat).sign * gwTo D (addS S dim) (pk k) e.pl n) (D dim).n hk0 hp0 fun q hq hpq hqn => by rw [hkz q hq hpq hqn, Int.mul_zero]
      exact this.symm
    · obtain ⟨q, rfl, hq, hpq⟩ := selTo_mem k hk
      by_cases e2 : q = k0
      · subst e2
        rw [show ((q : Int)).toNat = q by omega] at hs
        exact Int.mul_ne_zero hs hg
      · exact absurd (hkz q hq hpq e2) hg
end
theorem gN_parts {D : Nat → Dm} {n : Nat} {S : Nat → Bool} {p : List Int} {P : List Int} {sg : Int → Int} {pk : Int → List Int} : ∀ l : List En, (∀ e ∈ l, gwTo D S p e.pl n = sumP (fun k => sg k * gwTo D S (pk k) e.pl n) P) → gN D n S p l = sumP (fun k => sg k * gN D n S (pk k) l) P
  | [], _ => by
    rw [gN]
    exact (sumP_zero fun k _ => by rw [gN, Int.mul_zero]).symm
  | e :: r, h => by
    rw [gN, gN_parts r fun x hx => h x (List.mem_cons_of_mem _ hx), h e (List.mem_cons_self ..), ← sumP_mul, ← sumP_add]
    exact sumP_congr fun k _ => by rw [gN, Int.mul_add, Int.mul_assoc]

section
variable {D : Nat → Dm} {n dim : Nat} {l : List En} (hE : Ens D n l) (hd : dim < n) {S : Nat → Bool}
include hE hd
theorem gL_fix {m : Nat} : FixAt D n dim m (gL D n (addS S dim) l) := fun y hy hm hP => by
  rw [gL_len] at hy
  have hR := hE.right
  obtain ⟨-, -, hp3, hdn⟩ := allErr_some hR
  have hdk := (allErr_right hR).2 dim hd
  have hpos : ∀ i, i < n → 1 ≤ (D i).n := fun i hi => (hdn i hi).1
  have ht := Tr.of hdk
  have hsg := Sg.of hdk
  rw [gL_at hy]
  obtain ⟨pk, hpkd⟩ : ∃ pk : Int → List Int, pk = fun k => placeL D n (((y : Int) + (k - (m : Int)) * (stepD D n dim : Int)).toNat) := ⟨_, rfl⟩
  have hat : ∀ k, k ∈ partsOf (D dim).mem (D dim).n (m : Int) → atP D n dim m y (gL D n (addS S dim) l) k = gV D n (addS S dim) l (pk k) ∧ ((pk k).getD dim 0 = k ∧ ∀ i, i < n → i ≠ dim → (pk k).getD i 0 = (placeL D n y).getD i 0) := fun k hk => by
    obtain ⟨j, rfl, h1, h2, -⟩ := part_behind ht hk
    obtain ⟨z, hz, hzl, hzd, hzo⟩ := part_place hpos hd hy hm h2
    have e : pk (j : Int) = placeL D n z := by rw [hpkd]; simp only; rw [hz]; rfl
    rw [e]
    refine ⟨?_, ?_, fun i hi hne => ?_⟩
    · unfold atP cAt
      rw [hz]
      exact gL_at hzl
    · rw [placeL_at hd, digit_step hd, hzd]
    · rw [placeL_at hi, placeL_at hi, hzo i hi hne]
  have hpd : (placeL D n y).getD dim 0 = (m : Int) := by rw [placeL_at hd, digit_step hd, hm]
  have hgp := fun e he => gw_parts (S := S) hE hd (e := e) he hpd hP pk fun k hk => (hat k hk).2
  unfold partsV
  rw [parts_same (g := fun k => gV D n (addS S dim) l (pk k)) _ _ fun k hk => (hat k hk).1]
  have hfew := hE.few
  have hPl : (partsOf (D dim).mem (D dim).n (m : Int)).length ≤ 12 := Nat.le_trans (selTo_len _ _) (hdn dim hd).2
  rw [parts_sum _ 0 0 (fun k hk => by obtain ⟨j, rfl, -, h2, -⟩ := part_behind ht hk; exact hsg j h2) (fun k _ => by
    have hb := gN_bound (D := D) (n := n) (addS S dim) (pk k) l hE.each
    refine ⟨?_, by unfold gV; simp only; omega, by unfold gV; simp only; omega⟩
    unfold gV
    simp only
    cases ha : l.any (gB D n (addS S dim) (pk k))
    · right; exact ⟨by simp, gN_none ha⟩
    · left; simp) (Or.inr ⟨rfl, rfl⟩) (by omega) (by omega)]
  unfold gV
  refine Prod.ext ?_ ?_
  · simp only
    have : l.any (gB D n (addS S dim) (placeL D n y)) = (decide ((0 : Int) = 1) || (partsOf (D dim).mem (D dim).n (m : Int)).any (someP (D dim).mem fun k => (if l.any (gB D n (addS S dim) (pk k)) = true then 1 else 0, gN D n (addS S dim) (pk k) l))) := by
      rw [show decide ((0 : Int) = 1) = false from rfl, Bool.false_or, Bool.eq_iff_iff, List.any_eq_true, List.any_eq_true]
      constructor
      · rintro ⟨e, he, hb⟩
        have hb' : gwTo D (addS S dim) (placeL D n y) e.pl n ≠ 0 := by unfold gB at hb; simpa using hb
        obtain ⟨k, hk, hs, hg⟩ := (hgp e he).2.1 hb'
        refine ⟨k, hk, ?_⟩
        unfold someP
        have : l.any (gB D n (addS S dim) (pk k)) = true := List.any_eq_true.2 ⟨e, he, by unfold gB; simpa using hg⟩
        simp [this, hs]
      · rintro ⟨k, hk, hb⟩
        unfold someP at hb
        simp only [Bool.and_eq_true] at hb
        have hs : ((D dim).mem k.toNat).sign ≠ 0 := by simpa using hb.1
        have hany : l.any (gB D n (addS S dim) (pk k)) = true := by
          cases ha : l.any (gB D n (addS S dim) (pk k))
          · rw [ha] at hb; simp at hb
          · rfl
        obtain ⟨e, he, hg⟩ := List.any_eq_true.1 hany
        refine ⟨e, he, ?_⟩
        have := (hgp e he).2.2 ⟨k, hk, hs, by unfold gB at hg; simpa using hg⟩
        unfold gB
        simpa using this
    rw [this]
  · simp only [Int.zero_add]
    exact gN_parts l fun e he => (hgp e he).1
/-- a dim more -/
theorem once_gL (hS : S dim = false) : onceV D n dim (gL D n S l) = gL D n (addS S dim) l := by
  have hR := hE.right
  obtain ⟨-, -, hp3, hdn⟩ := allErr_some hR
  have hdk := (allErr_right hR).2 dim hd
  have hpos : ∀ i, i < n → 1 ≤ (D i).n := fun i hi => (hdn i hi).1
  have ht := Tr.of hdk
  have key : ∀ r, r ≤ (D dim).n → ∀ y, y < prodN D n → (onceTo D n dim (gL D n S l) r).getD y (0, 0) = if (D dim).n - r ≤ y / stepD D n dim % (D dim).n then (gL D n (addS S dim) l).getD y (0, 0) else (gL D n S l).getD y (0, 0) := by
    intro r
    induction r with
    | zero =>
      intro _ y _
      have := Nat.mod_lt (y / stepD D n dim) (hpos dim hd)
      rw [onceTo, if_neg (by omega)]
    | succ r ih =>
      intro hr y hy
      have hlen : (onceTo D n dim (gL D n S l) r).length = prodN D n := by rw [once_len, gL_len]
      have hmod := Nat.mod_lt (y / stepD D n dim) (hpos dim hd)
      rw [onceTo, mbr_get hpos hd ht hlen (by omega)]
      by_cases hm : y / stepD D n dim % (D dim).n = (D dim).n - 1 - r
      · rw [if_pos (show (D dim).n - (r + 1) ≤ y / stepD D n dim % (D dim).n by omega)]
        by_cases hP : partsOf (D dim).mem (D dim).n (((D dim).n - 1 - r : Nat) : Int) = []
        · rw [if_neg (by simp [hP]), ih (by omega) y hy, if_neg (by omega), gL_at hy, gL_at hy]
          exact (gV_congr fun e he => gw_bare hE hd hS he (m := (D dim).n - 1 - r) (by omega) (by rw [placeL_at hd, digit_step hd, hm]) hP).symm
        · rw [if_pos ⟨hP, hm⟩, gL_fix hE hd (S := S) y (by rw [gL_len]; exact hy) hm hP]
          unfold partsV
          exact parts_same _ _ (atP_same hpos hd ht hy hm fun z hz hzm => by rw [ih (by omega) z hz, if_pos (by omega)])
      · rw [if_neg (fun h => hm h.2), ih (by omega) y hy]
        by_cases h1 : (D dim).n - r ≤ y / stepD D n dim % (D dim).n
        · rw [if_pos h1, if_pos (by omega)]
        · rw [if_neg h1, if_neg (by omega)]
  refine list_same (by unfold onceV; rw [once_len, gL_len, gL_len]) fun y hy => ?_
  have hy' : y < prodN D n := by unfold onceV at hy; rw [once_len, gL_len] at hy; exact hy
  have := key (D dim).n (Nat.le_refl _) y hy'
  rw [if_pos (by omega)] at this
  exact this
end
theorem gL_congr {D : Nat → Dm} {n : Nat} {l : List En} {S S' : Nat → Bool} (h : ∀ j, j < n → S j = S' j) : gL D n S l = gL D n S' l := by
  unfold gL
  apply List.map_congr_left
  intro x _
  exact gV_congr fun e _ => gw_congr n fun j hj => by unfold facS; rw [h j hj]
theorem fold_gL {D : Nat → Dm} {n : Nat} {l : List En} (hE : Ens D n l) : ∀ (O : List Int) (S : Nat → Bool), O.Nodup → (∀ d ∈ O, ∃ j : Nat, d = j ∧ j < n ∧ S j = false) → foldO D n (gL D n S l) O = gL D n (fun j => S j || decide ((j : Int) ∈ O)) l
  | [], S, _, _ => by
    unfold foldO
    exact gL_congr fun j _ => by simp
  | d :: r, S, hn, hO => by
    obtain ⟨j, rfl, hj, hSj⟩ := hO d (List.mem_cons_self ..)
    have hn' := List.nodup_cons.1 hn
    have h1 : foldO D n (gL D n S l) ((j : Int) :: r) = foldO D n (gL D n (addS S j) l) r := by
      unfold foldO
      rw [List.foldl_cons, show ((j : Int)).toNat = j by omega, once_gL hE hj hSj]
    rw [h1, fold_gL hE r (addS S j) hn'.2 fun d hd => ?_]
    · refine gL_congr fun i _ => ?_
      unfold addS
      by_cases e : i = j
      · subst e; simp
      · have e' : decide ((i : Int) = (j : Int)) = false := decide_eq_false (by omega)
        simp [e, e']
    · obtain ⟨i, rfl, hi, hSi⟩ := hO d (List.mem_cons_of_mem _ hd)
      refine ⟨i, rfl, hi, ?_⟩
      unfold addS
      have : i ≠ j := fun e => hn'.1 (by rw [← e]; exact hd)
      simp [hSi, this]
/-- in any order: what comes of all parts together -/
def rollL (D : Nat → Dm) (n : Nat) (l : List En) : List (Int × Int) := (List.range (prodN D n)).map fun x => rollV D n l (placeL D n x)
theorem fold_all {D : Nat → Dm} {n : Nat} {l : List En} (hE : Ens D n l) {O : List Int} (hO : eachB n O = true) : foldO D n (wrV D n l) O = rollL D n l := by
  have hp := each_perm hO
  rw [wr_gL hE, fold_gL hE O _ (hp.nodup_iff.2 (rangeI_nodup n)) fun d hd => by obtain ⟨j, h1, h2⟩ := (each_in hO).2 d hd; exact ⟨j, h1, h2, rfl⟩]
  unfold gL rollL
  apply List.map_congr_left
  intro x _
  exact gV_all (fun j hj => by
    have : (j : Int) ∈ O := hp.mem_iff.2 (by simp only [rangeI, List.mem_map, List.mem_range]; exact ⟨j, hj, rfl⟩)
    simp [this]) l _
theorem rollL_at {D : Nat → Dm} {n : Nat} {l : List En} {p : List Int} (hp : InO D n p) : (rollL D n l).getD (numI D p n).toNat (0, 0) = rollV D n l p ∧ (numI D p n).toNat < prodN D n := by
  obtain ⟨h1, h2, -⟩ := numI_bound hp (Nat.le_refl n)
  have h3 : (numI D p n).toNat < prodN D n := by omega
  refine ⟨?_, h3⟩
  simp [rollL, List.getD, h3, place_num hp]
end Go.Proofs.Ytmjcnlpjnbcfjad

namespace Go.Proofs.Ytmjcnlpjnbcfjad
open Go.ChangeShapes Go.WideShapes Go.ChangeAt Go.RowKit
set_option maxRecDepth 20000

/-- a row of a call's own of slices of ints: those ahead of k hold their lists -/
def SlB (w : World) (g n k : Nat) (L : Nat → List Int) : Prop := ∃ cur : Array Value, w.heap[g]? = some (.cells cur 26 (0, 0)) ∧ cur.size = n ∧ ∀ j, j < n → ∃ A l c, cur[j]? = some (.slice A l c) ∧ (j < k → l = (L j).length ∧ IntsAt w A c (L j))
section
variable {w w' : World} {g n k : Nat} {L : Nat → List Int}
theorem SlB.lt (h : SlB w g n k L) : g < w.heap.size := by
  obtain ⟨cur, h1, _⟩ := h
  exact (Array.getElem?_eq_some_iff.1 h1).1
theorem SlB.at (h : SlB w g n k L) {j : Nat} (hj : j < n) : ∃ A l c, w.cell? ⟨g, j, none⟩ = some (.slice A l c) ∧ (j < k → l = (L j).length ∧ IntsAt w A c (L j)) := by
  obtain ⟨cur, h1, h2, h3⟩ := h
  obtain ⟨A, l, c, h4, h5⟩ := h3 j hj
  exact ⟨A, l, c, by simp [World.cell?, h1, h4], h5⟩
theorem SlB.get (h : SlB w g n n L) {j : Nat} (hj : j < n) : ∃ A c, w.cell? ⟨g, j, none⟩ = some (.slice A (L j).length c) ∧ IntsAt w A c (L j) := by
  obtain ⟨A, l, c, h1, h2⟩ := h.at hj
  obtain ⟨rfl, h3⟩ := h2 hj
  exact ⟨A, c, h1, h3⟩
theorem SlB.frozen (h : SlB w g n k L) (j : Nat) : w.frozen? ⟨g, j, none⟩ = false := by
  obtain ⟨cur, h1, _⟩ := h
  exact Lib.frozen_of_heap h1 j
theorem SlB.later (h : SlB w g n k L) (hB : Below w.heap.size w w') : SlB w' g n k L := by
  have hlt := h.lt
  obtain ⟨cur, h1, h2, h3⟩ := h
  refine ⟨cur, (hB.block g hlt).trans h1, h2, fun j hj => ?_⟩
  obtain ⟨A, l, c, h4, h5⟩ := h3 j hj
  exact ⟨A, l, c, h4, fun hk => ⟨(h5 hk).1, (h5 hk).2.later hB⟩⟩
/-- a list that is read lies in another block than a row of slices -/
theorem IntsAt.off {A : Option Addr} {c : Nat} {X : List Int} {cur : Array Value} {T : Nat} (h : IntsAt w A c X) (hg : w.heap[g]? = some (.cells cur T (0, 0))) (hs : ∀ x y, cur[0]? = some (.int x y) → False) (hb : ∀ i, i < w.heap.size → i ≠ g → w'.heap[i]? = w.heap[i]?) (hz : w.heap.size ≤ w'.heap.size) : IntsAt w' A c X := by
  obtain ⟨h1, h2 | ⟨b, h2, h3, h4⟩⟩ := h
  · exact ⟨h1, Or.inl h2⟩
  · by_cases h0 : X.length = 0
    · exact ⟨h1, Or.inl (List.eq_nil_of_length_eq_zero h0)⟩
    · have hne : b ≠ g := fun e => by
        have := h4 0 (by omega)
        rw [e] at this
        simp only [World.cell?, hg] at this
        exact hs _ _ this
      exact ⟨h1, Or.inr ⟨b, h2, Nat.lt_of_lt_of_le h3 hz, fun j hj => (World.cell?_of_block (a := ⟨b, j, none⟩) (hb b h3 hne)).trans (h4 j hj)⟩⟩
theorem SlB.set (h : SlB w g n k L) (hk : k < n) {A : Option Addr} {c : Nat} (hI : IntsAt w A c (L k)) : SlB (w.setCell ⟨g, k, none⟩ (.slice A (L k).length c)) g n (k + 1) L := by
  obtain ⟨cur, h1, h2, h3⟩ := h
  have hs : ∀ x y, cur[0]? = some (.int x y) → False := fun x y e => by
    obtain ⟨A, l, c, h4, -⟩ := h3 0 (by omega)
    rw [h4] at e
    cases e
  have hb : ∀ i, i < w.heap.size → i ≠ g → (w.setCell ⟨g, k, none⟩ (.slice A (L k).length c)).heap[i]? = w.heap[i]? := fun i _ hi => Below.heap_setCell w ⟨g, k, none⟩ _ i hi
  have hz : w.heap.size ≤ (w.setCell ⟨g, k, none⟩ (.slice A (L k).length c)).heap.size := by simp [World.setCell]
  refine ⟨cur.setIfInBounds k (.slice A (L k).length c), by simp [World.setCell, Array.getElem?_modify, h1], by simpa using h2, fun j hj => ?_⟩
  by_cases e : j = k
  · subst e
    exact ⟨A, _, c, by simp [h2, hj], fun _ => ⟨rfl, hI.off h1 hs hb hz⟩⟩
  · obtain ⟨A', l, c', h4, h5⟩ := h3 j hj
    refine ⟨A', l, c', ?_, fun hjk => ⟨(h5 (by omega)).1, (h5 (by omega)).2.off h1 hs hb hz⟩⟩
    rw [Array.getElem?_setIfInBounds_ne (fun h => e h.symm)]
    exact h4
theorem SlB.made (w : World) (n : Nat) (L : Nat → List Int) : SlB (w.alloc (.cells (madeCells #[.slice none 0 0] n) 26)) w.heap.size n 0 L := by
  refine ⟨_, heap_alloc_new w _, by simp [madeCells], fun j hj => ⟨none, 0, 0, ?_, fun h => by cases h⟩⟩
  simp [madeCells, hj, Nat.mod_one]
end
theorem Try.infoSl : (Try.prog.info? 26).map (fun i => (i.zero, i.size, i.bytes)) = some (some (.slice none 0 0), 1, 24) := by kernel_rfl

/-- what a step of it reads: a dim in a box, and a number -/
def Four (W : World) (q b o : Nat) (v0 v1 v2 x : Value) : Prop := (q < W.heap.size ∧ b < W.heap.size) ∧ W.cell? ⟨q, 0, none⟩ = some v0 ∧ W.cell? ⟨q, 1, none⟩ = some v1 ∧ W.cell? ⟨q, 2, none⟩ = some v2 ∧ W.cell? ⟨b, o, none⟩ = some x
theorem keep4 {W w' : World} {q b o : Nat} {v0 v1 v2 x : Value} (h : Four W q b o v0 v1 v2 x) (hB : Below W.heap.size W w') : Below W.heap.size W w' ∧ w'.cell? ⟨q, 0, none⟩ = some v0 ∧ w'.cell? ⟨q, 1, none⟩ = some v1 ∧ w'.cell? ⟨q, 2, none⟩ = some v2 ∧ w'.cell? ⟨b, o, none⟩ = some x := by
  obtain ⟨⟨h1, h2⟩, c0, c1, c2, c3⟩ := h
  exact ⟨hB, (hB.cell (p := ⟨q, 0, none⟩) h1).trans c0, (hB.cell (p := ⟨q, 1, none⟩) h1).trans c1, (hB.cell (p := ⟨q, 2, none⟩) h1).trans c2, (hB.cell (p := ⟨b, o, none⟩) h2).trans c3⟩

set_option maxHeartbeats 4000000 in
theorem rls_any (A0 : Option Addr) (cap n : Nat) (D : Nat → Dm) (A : Nat → Option Addr) (C : Nat → Nat) (Ap : Option Addr) (cp : Nat) (p : List Int) (w : World) (hp : InO D n p) (hM : DimsV w A0 cap n D A C) (hP : PlAt w Ap cp p) : Calls Try.prog 27 #[.agg #[.slice A0 n cap], .slice Ap p.length cp] w fun e w' => (∃ g, e = .returned (.tuple #[.slice (some ⟨g, 0, none⟩) n n, .nilIface]) ∧ SlB w' g n n (lfs D p)) ∧ Below w.heap.size w w' := by
  have hB0 := ownOut_below w A0 n cap 24
  have h := pcheck_any A0 cap n D A C Ap cp p (ownOut w A0 n cap 24) (hM.later hB0) (hP.later hB0)
  have HB0 : Hid (Below w.heap.size w (ownOut w A0 n cap 24)) := hB0
  have HM : Hid (DimsV w A0 cap n D A C) := hM
  have HI : Hid (InO D n p) := hp
  rw [hp.ok, errV_zero] at h
  obtain ⟨hn1, hn4, -, hd⟩ := allErr_some hp.right
  have HD : Hid (∀ i, i < n → (dimErr (D i)).2 = 0) := (allErr_right hp.right).2
  have hl := hp.len
  obtain ⟨hcp, h0 | ⟨bp, op, rfl, hbp, hcell⟩⟩ := hP
  · rw [h0] at hl; simp at hl; omega
  rw [hl] at h hcp
  rw [hl]
  have HC : Hid (∀ j, j < n → w.cell? ⟨bp, op + j, none⟩ = some (.int .i64 (p.getD j 0))) := fun j hj => hcell j (by omega)
  have hn' : (n : Int) ≤ 4 := by omega
  have hmk := run_make_row' (P := Try.prog) 65 26 (.slice none 0 0) 24 Try.underlying65 Try.infoSl rfl .i64 .i64 n (by omega) (by omega)
  clear hB0 hM hp hl hcell hd
  go_enter Try.func27, Try.ntmps27
  go_wp2_with fail
  refine h.mono ?_
  rintro e w1 ⟨rfl, hb1⟩
  have hB : Below w.heap.size w w1 := onB HB0.out hb1
  have hz : w.heap.size < w1.heap.size := by have := hb1.size; rw [ownOut_size] at this; omega
  have h2 : w1.cell? ⟨w.heap.size, 0, none⟩ = some (.slice A0 n cap) := (hb1.cell (p := ⟨w.heap.size, 0, none⟩) (by show w.heap.size < _; rw [ownOut_size]; omega)).trans (ownOut_at ..)
  obtain ⟨hcap, h0 | ⟨b, o, rfl, hMs⟩⟩ := HM.out.later hB
  · omega
  have HMs : Hid (DimsAt w1 b o n D A C) := hMs
  have HB : Hid (Below w.heap.size w w1) := hB
  have HC1 : Hid (∀ j, j < n → w1.cell? ⟨bp, op + j, none⟩ = some (.int .i64 (p.getD j 0))) := fun j hj => (hB.cell (p := ⟨bp, op + j, none⟩) hbp).trans (HC.out j hj)
  have hbp1 : bp < w1.heap.size := Nat.lt_of_lt_of_le hbp hB.size
  clear hb1 h hMs hB
  go_wp2_with fail
  clear hmk
  go_loopg [25] n (fun g s25 wr => ∃ (k : Nat), k ≤ n ∧ g = n - k ∧ s25 = .int .i64 k ∧ SlB wr w1.heap.size n k (lfs D p) ∧ Below w1.heap.size w1 wr)
  case atStart => exact ⟨0, Nat.zero_le _, rfl, rfl, SlB.made w1 n _, by go_grown⟩
  case round =>
    obtain ⟨k, hk, rfl, rfl, hS, hBw⟩ := hrel
    have HBw : Hid (Below w1.heap.size w1 wr) := hBw
    have HS : Hid (SlB wr w1.heap.size n k (lfs D p)) := hS
    by_cases hlt : k < n
    · have hki : (k : Int) < (n : Int) := by omega
      obtain ⟨d0, d1, d2, h4⟩ := (HMs.out.later hBw).2 k hlt
      have hdk := HD.out k hlt
      have e1 := (hBw.cell (p := ⟨bp, op + k, none⟩) hbp1).trans (HC1.out k hlt)
      have hbq : bp < wr.heap.size := Nat.lt_of_lt_of_le hbp1 hBw.size
      have hte : treeErr (D k) [p.getD k 0] = 0 := by
        have := HI.out.lo k hlt
        have := HI.out.hi k hlt
        rw [treeErr_one hdk, if_neg (by omega)]
      have HLf : Hid (∀ w', Below wr.heap.size wr w' → Calls Try.prog 52 #[dimV (D k) (A k) (C k), .int .i64 (p.getD k 0)] w' fun e w'' => (∃ A' c', e = .returned (.tuple #[.slice A' (lfs D p k).length c', .nilIface]) ∧ IntsAt w'' A' c' (lfs D p k)) ∧ Below w'.heap.size w' w'') := fun w' hw' => by
        have := leafs_any (D k) (A k) (C k) (p.getD k 0) w' (h4.later hw')
        rw [hte, errV_zero] at this
        exact this
      unfold dimV at HLf
      have hBx : Below wr.heap.size wr (ownDim wr (D k) (A k) (C k) 32) := ownDim_below ..
      have hFo : Four (ownDim wr (D k) (A k) (C k) 32) wr.heap.size bp (op + k) (.string (D k).name) (.int .i64 (D k).solve) (.slice (A k) (D k).n (C k)) (.int .i64 (p.getD k 0)) := by
        obtain ⟨x0, x1, x2⟩ := ownDim_at wr (D k) (A k) (C k) 32
        exact ⟨⟨by rw [ownDim_size]; omega, Nat.lt_of_lt_of_le hbq hBx.size⟩, x0, x1, x2, (hBx.cell (p := ⟨bp, op + k, none⟩) hbq).trans e1⟩
      obtain ⟨Wx, hWx⟩ : ∃ W, ownDim wr (D k) (A k) (C k) 32 = W := ⟨_, rfl⟩
      rw [hWx] at hFo hBx
      unfold ownDim at hWx
      have HFo : Hid (Four Wx wr.heap.size bp (op + k) (.string (D k).name) (.int .i64 (D k).solve) (.slice (A k) (D k).n (C k)) (.int .i64 (p.getD k 0))) := hFo
      have HBx : Hid (Below wr.heap.size wr Wx) := hBx
      generalize p.getD k 0 = x at HLf HFo e1
      generalize (D k).name = dn at HLf HFo d0 hWx
      generalize (D k).solve = ds at HLf HFo d1 hWx
      generalize A k = Ak at HLf HFo d2 hWx
      generalize C k = Ck at HLf HFo d2 hWx
      generalize (D k).n = dk at HLf HFo d2 hWx
      obtain ⟨X, hX⟩ : ∃ X, lfs D p k = X := ⟨_, rfl⟩
      have HX : Hid (lfs D p k = X) := hX
      rw [hX] at HLf
      clear hFo hBx hS hBw h4 hdk hte hX
      go_wp2_with fail
      clear hWx
      go_cut [10, 11] (fun s10 s11 wx => ∃ A' c', s10 = .slice A' X.length c' ∧ s11 = .nilIface ∧ IntsAt wx A' c' X ∧ Below Wx.heap.size Wx wx)
      case first => as_aux_lemma =>
        go_region_held3 (fun w' => Below Wx.heap.size Wx w' ∧ w'.cell? ⟨wr.heap.size, 0, none⟩ = some (.string dn) ∧ w'.cell? ⟨wr.heap.size, 1, none⟩ = some (.int .i64 ds) ∧ w'.cell? ⟨wr.heap.size, 2, none⟩ = some (.slice Ak dk Ck) ∧ w'.cell? ⟨bp, op + k, none⟩ = some (.int .i64 x))
          ((refine keep4 HFo.out ?_; go_grown; done))
          (first | (go_at_call 52; refine (HLf.out _ (onB HBx.out (by go_grown))).mono ?_; rintro e w3 ⟨⟨A', c', rfl, hI⟩, hb3⟩; have hN3 := onB (W0 := Wx) (by go_grown) hb3; have hy3 := hN3.size; clear hb3))
        all_goals go_wp2_with fail
        all_goals go_meet
        all_goals exact ⟨_, _, rfl, rfl, by first | assumption | (refine IntsAt.later (by assumption) ?_; go_grown), by go_grown⟩
      case rest => as_aux_lemma =>
      obtain ⟨A', c', rfl, rfl, hI, hb⟩ := hcut
      obtain ⟨w2, rfl⟩ : ∃ w2 : World, w2 = wc := ⟨_, rfl⟩
      have hB2 : Below wr.heap.size wr w2 := onB HBx.out hb
      have hS2 := HS.out.later hB2
      obtain ⟨A1, l1, c1, hc1, -⟩ := hS2.at hlt
      have hfr := hS2.frozen k
      have HB2 : Hid (Below w1.heap.size w1 w2) := onB HBw.out hB2
      have HS2 : Hid (SlB w2 w1.heap.size n k (lfs D p)) := hS2
      have HI2 : Hid (IntsAt w2 A' c' X) := hI
      clear hb hB2 hS2 hI HLf HFo d0 d1 d2 e1
      go_wp2_with fail
      go_roundg (n - (k + 1))
      case measure => omega
      case rel =>
        refine ⟨k + 1, by omega, rfl, by go_num, ?_, HB2.out.setCell (by show w1.heap.size ≤ w1.heap.size; omega) _⟩
        have := HS2.out.set hlt (A := A') (c := c') (by rw [HX.out]; exact HI2.out)
        rw [HX.out] at this
        exact this
    · have hke : k = n := by omega
      subst hke
      clear hBw hS
      go_wp2_with fail
      go_ret2
      exact ⟨⟨_, rfl, HS.out⟩, onB HB.out HBw.out⟩

theorem rls_bad (A0 : Option Addr) (cap n : Nat) (D : Nat → Dm) (A : Nat → Option Addr) (C : Nat → Nat) (Ap : Option Addr) (cp : Nat) (p : List Int) (w : World) (hp : placeErr D n p ≠ 0) (hM : DimsV w A0 cap n D A C) (hP : PlAt w Ap cp p) : Calls Try.prog 27 #[.agg #[.slice A0 n cap], .slice Ap p.length cp] w fun e w' => e = .returned (.tuple #[.slice none 0 0, .iface 77 (.int .i64 (placeErr D n p))]) ∧ Below w.heap.size w w' := by
  have hB0 := ownOut_below w A0 n cap 24
  have h := pcheck_any A0 cap n D A C Ap cp p (ownOut w A0 n cap 24) (hM.later hB0) (hP.later hB0)
  have HB0 : Hid (Below w.heap.size w (ownOut w A0 n cap 24)) := hB0
  rw [errV_some hp] at h
  clear hB0 hM hP hp
  generalize placeErr D n p = c at h
  generalize p.length = m at h
  go_enter Try.func27, Try.ntmps27
  go_wp2_with fail
  refine h.mono ?_
  rintro e w1 ⟨rfl, hb1⟩
  go_wp2_with fail
  go_ret2
  exact ⟨rfl, onB HB0.out hb1⟩
end Go.Proofs.Ytmjcnlpjnbcfjad

namespace Go.Proofs.Ytmjcnlpjnbcfjad
open Go.ChangeShapes Go.WideShapes Go.ChangeAt Go.RowKit
set_option maxRecDepth 20000

/-- a row of slices with one more laid, whatever has been done to that one -/
theorem SlB.row {w w' : World} {g n k l c : Nat} {A : Option Addr} {L : Nat → List Int} (h : SlB w g n k L) (hk : k < n) (hb : ∀ i, i < w.heap.size → i ≠ g → w'.heap[i]? = w.heap[i]?) (hg : w'.heap[g]? = (w.setCell ⟨g, k, none⟩ (.slice A l c)).heap[g]?) (hz : w.heap.size ≤ w'.heap.size) (hl : l = (L k).length) (hI : IntsAt w' A c (L k)) : SlB w' g n (k + 1) L := by
  obtain ⟨cur, h1, h2, h3⟩ := h
  have hs : ∀ x y, cur[0]? = some (.int x y) → False := fun x y e => by
    obtain ⟨A, l, c, h4, -⟩ := h3 0 (by omega)
    rw [h4] at e
    cases e
  refine ⟨cur.setIfInBounds k (.slice A l c), by rw [hg]; simp [World.setCell, Array.getElem?_modify, h1], by simpa using h2, fun j hj => ?_⟩
  by_cases e : j = k
  · subst e
    exact ⟨A, _, c, by simp [h2, hj], fun _ => ⟨hl, hI⟩⟩
  · obtain ⟨A', l', c', h4, h5⟩ := h3 j hj
    refine ⟨A', l', c', ?_, fun hjk => ⟨(h5 (by omega)).1, (h5 (by omega)).2.off h1 hs hb hz⟩⟩
    rw [Array.getElem?_setIfInBounds_ne (fun h => e h.symm)]
    exact h4

theorem SlB.off {w w' : World} {g n k c : Nat} {A : Option Addr} {L : Nat → List Int} {X : List Int} (h : SlB w g n k L) (hn : 0 < n) (hI : IntsAt w A c X) (hb : ∀ i, i < w.heap.size → i ≠ g → w'.heap[i]? = w.heap[i]?) (hz : w.heap.size ≤ w'.heap.size) : IntsAt w' A c X := by
  obtain ⟨cur, h1, h2, h3⟩ := h
  refine hI.off h1 (fun x y e => ?_) hb hz
  obtain ⟨A, l, c, h4, -⟩ := h3 0 hn
  rw [h4] at e
  cases e
theorem setCell_same {w w' : World} {g k : Nat} {v : Value} (h : w.heap[g]? = w'.heap[g]?) : (w.setCell ⟨g, k, none⟩ v).heap[g]? = (w'.setCell ⟨g, k, none⟩ v).heap[g]? := by
  simp [World.setCell, Array.getElem?_modify, h]
/-- while a row of ints is written: all else is as it was, but for the one that leads to it -/
def Inn (W wi : World) (g k : Nat) (v : Value) : Prop := (∀ i, i < W.heap.size → i ≠ g → wi.heap[i]? = W.heap[i]?) ∧ wi.heap[g]? = (W.setCell ⟨g, k, none⟩ v).heap[g]? ∧ W.heap.size ≤ wi.heap.size
section
variable {W wi w' : World} {g k : Nat} {v : Value}
theorem Inn.start (o : Obj) (hg : g < W.heap.size) : Inn W ((W.setCell ⟨g, k, none⟩ v).alloc o) g k v := by
  have hz : (W.setCell ⟨g, k, none⟩ v).heap.size = W.heap.size := by simp [World.setCell]
  refine ⟨fun i hi hne => ?_, ?_, ?_⟩
  · rw [Below.heap_alloc _ _ _ (by rw [hz]; exact hi), Below.heap_setCell _ ⟨g, k, none⟩ v i hne]
  · rw [Below.heap_alloc _ _ _ (by rw [hz]; exact hg)]
  · simp [World.setCell]
theorem Inn.later (h : Inn W wi g k v) (hg : g < W.heap.size) (hB : Below wi.heap.size wi w') : Inn W w' g k v :=
  ⟨fun i hi hne => (hB.block i (Nat.lt_of_lt_of_le hi h.2.2)).trans (h.1 i hi hne), (hB.block g (Nat.lt_of_lt_of_le hg h.2.2)).trans h.2.1, Nat.le_trans h.2.2 hB.size⟩
theorem Inn.store (h : Inn W wi g k v) (hg : g < W.heap.size) {q : Nat} (hq : W.heap.size ≤ q) (j : Nat) (x : Value) : Inn W (wi.setCell ⟨q, j, none⟩ x) g k v :=
  ⟨fun i hi hne => (Below.heap_setCell _ ⟨q, j, none⟩ x i (by show i ≠ q; omega)).trans (h.1 i hi hne), (Below.heap_setCell _ ⟨q, j, none⟩ x g (by show g ≠ q; omega)).trans h.2.1, by have := h.2.2; simpa [World.setCell] using this⟩
theorem Inn.cell (h : Inn W wi g k v) {b o : Nat} (hb : b < W.heap.size) (hne : b ≠ g) : wi.cell? ⟨b, o, none⟩ = W.cell? ⟨b, o, none⟩ := World.cell?_of_block (a := ⟨b, o, none⟩) (h.1 b hb hne)
theorem Inn.at (h : Inn W wi g k v) {u : Value} (hu : W.cell? ⟨g, k, none⟩ = some u) : wi.cell? ⟨g, k, none⟩ = some v := by
  rw [World.cell?_of_block (a := ⟨g, k, none⟩) h.2.1]
  exact World.cell?_setCell_same _ _ _ hu
end

set_option maxHeartbeats 4000000 in
theorem rws_any (A0 : Option Addr) (cap n : Nat) (D : Nat → Dm) (A : Nat → Option Addr) (C : Nat → Nat) (Ap : Option Addr) (cp : Nat) (p : List Int) (w : World) (hp : InO D n p) (hM : DimsV w A0 cap n D A C) (hP : PlAt w Ap cp p) : Calls Try.prog 21 #[.agg #[.slice A0 n cap], .slice Ap p.length cp] w fun e w' => (∃ g, e = .returned (.tuple #[.slice (some ⟨g, 0, none⟩) n n, .nilIface]) ∧ SlB w' g n n (wts D p)) ∧ Below w.heap.size w w' := by
  have hB0 := ownOut_below w A0 n cap 24
  have h := rls_any A0 cap n D A C Ap cp p (ownOut w A0 n cap 24) hp (hM.later hB0) (hP.later hB0)
  have HB0 : Hid (Below w.heap.size w (ownOut w A0 n cap 24)) := hB0
  have HM : Hid (DimsV w A0 cap n D A C) := hM
  have HI : Hid (InO D n p) := hp
  obtain ⟨hn1, hn4, -, hd⟩ := allErr_some hp.right
  have HD : Hid (∀ i, i < n → (dimErr (D i)).2 = 0) := (allErr_right hp.right).2
  have HD2 : Hid (∀ i, i < n → 1 ≤ (D i).n ∧ (D i).n ≤ 12) := hd
  have hl := hp.len
  obtain ⟨hcp, h0 | ⟨bp, op, rfl, hbp, hcell⟩⟩ := hP
  · rw [h0] at hl; simp at hl; omega
  rw [hl] at h hcp
  rw [hl]
  have HC : Hid (∀ j, j < n → w.cell? ⟨bp, op + j, none⟩ = some (.int .i64 (p.getD j 0))) := fun j hj => hcell j (by omega)
  have hn' : (n : Int) ≤ 4 := by omega
  have hmk := run_make_row' (P := Try.prog) 65 26 (.slice none 0 0) 24 Try.underlying65 Try.infoSl rfl .i64 .i64 n (by omega) (by omega)
  clear hB0 hM hp hl hcell hd
  go_enter Try.func21, Try.ntmps21
  go_wp2_with fail
  refine h.mono ?_
  rintro e w1 ⟨⟨gb, rfl, hS⟩, hb1⟩
  have hB : Below w.heap.size w w1 := onB HB0.out hb1
  have hz : w.heap.size < w1.heap.size := by have := hb1.size; rw [ownOut_size] at this; omega
  have h2 : w1.cell? ⟨w.heap.size, 0, none⟩ = some (.slice A0 n cap) := (hb1.cell (p := ⟨w.heap.size, 0, none⟩) (by show w.heap.size < _; rw [ownOut_size]; omega)).trans (ownOut_at ..)
  obtain ⟨hcap, h0 | ⟨b, o, rfl, hMs⟩⟩ := HM.out.later hB
  · omega
  have HMs : Hid (DimsAt w1 b o n D A C) := hMs
  have HB : Hid (Below w.heap.size w w1) := hB
  have HS1 : Hid (SlB w1 gb n n (lfs D p)) := hS
  have HC1 : Hid (∀ j, j < n → w1.cell? ⟨bp, op + j, none⟩ = some (.int .i64 (p.getD j 0))) := fun j hj => (hB.cell (p := ⟨bp, op + j, none⟩) hbp).trans (HC.out j hj)
  have hbp1 : bp < w1.heap.size := Nat.lt_of_lt_of_le hbp hB.size
  clear hb1 h hMs hB hS
  go_wp2_with fail
  clear hmk
  go_loopg [31] n (fun g s31 wr => ∃ (k : Nat), k ≤ n ∧ g = n - k ∧ s31 = .int .i64 k ∧ SlB wr w1.heap.size n k (wts D p) ∧ Below w1.heap.size w1 wr)
  case atStart => exact ⟨0, Nat.zero_le _, rfl, rfl, SlB.made w1 n _, by go_grown⟩
  case round =>
    obtain ⟨wo, rfl⟩ : ∃ w2 : World, w2 = wr := ⟨_, rfl⟩
    obtain ⟨k, hk, rfl, rfl, hS, hBw⟩ := hrel
    have HBw : Hid (Below w1.heap.size w1 wo) := hBw
    have HS : Hid (SlB wo w1.heap.size n k (wts D p)) := hS
    by_cases hlt : k < n
    · have hki : (k : Int) < (n : Int) := by omega
      obtain ⟨d0, d1, d2, h4⟩ := (HMs.out.later hBw).2 k hlt
      have hdk := HD.out k hlt
      obtain ⟨hdn1, hdn2⟩ := HD2.out k hlt
      have e1 := (hBw.cell (p := ⟨bp, op + k, none⟩) hbp1).trans (HC1.out k hlt)
      have hbq : bp < wo.heap.size := Nat.lt_of_lt_of_le hbp1 hBw.size
      have hlo := HI.out.lo k hlt
      have hhi := HI.out.hi k hlt
      obtain ⟨x, hx⟩ : ∃ x : Nat, p.getD k 0 = x := ⟨(p.getD k 0).toNat, by omega⟩
      have HWt : Hid (∀ j ∈ lfs D p k, ∀ w', Below w1.heap.size w1 w' → Calls Try.prog 45 #[dimV (D k) (A k) (C k), .int .i64 x, .int .i64 j] w' fun e w'' => e = .returned (.tuple #[.int .i64 (weightOf (D k).mem x j), .nilIface]) ∧ Below w'.heap.size w' w'') := fun j hj w' hw' => by
        obtain ⟨m, rfl, hm, hlf⟩ := lfs_mem j hj
        have ht := tweight_any (D k) (A k) (C k) x m w' ((HMs.out.later hw').2 k hlt).2.2.2
        have he : wErr (D k) x m = 0 := wErr_ok (by rw [treeErr_two hdk, if_neg (by omega)]) (by unfold leafIn at hlf; rw [Bool.and_eq_true] at hlf; simpa using hlf.1)
        rw [he, errV_zero, wVal_ok he] at ht
        exact ht
      have HLm : Hid (∀ j ∈ lfs D p k, ∃ m : Nat, j = m ∧ m < (D k).n) := fun j hj => by
        obtain ⟨m, h1, h2, -⟩ := lfs_mem j hj
        exact ⟨m, h1, h2⟩
      have hLl : (lfs D p k).length ≤ 12 := Nat.le_trans (lfs_len D p k) hdn2
      obtain ⟨AL, cL, hcL, hIL⟩ := (HS1.out.later hBw).get hlt
      have hgbw : gb < wo.heap.size := (HS1.out.later hBw).lt
      have HIL : Hid (IntsAt wo AL cL (lfs D p k)) := hIL
      have HWT : Hid (wts D p k = cnts (D k) x (lfs D p k)) := by show _ = _; unfold wts; rw [hx]
      have HCL : Hid (∀ X, (cnts (D k) x X).length = (D k).n) := fun X => cnts_len ..
      have HCN : Hid (cnts (D k) x [] = List.replicate (D k).n 0) := cnts_nil ..
      have HCS : Hid (∀ X (j : Nat), (cnts (D k) x X).set j (weightOf (D k).mem x j) = cnts (D k) x (X ++ [(j : Int)])) := fun X j => cnts_set
      have hmk := run_make_row' (P := Try.prog) 26 3 (.int .i64 0) 8 Try.underlying26 Try.infoIntP rfl .i64 .i64 (D k).n (by omega) (by omega)
      unfold dimV at HWt
      have hBx : Below wo.heap.size wo (ownDim wo (D k) (A k) (C k) 32) := ownDim_below ..
      have hFo : Four (ownDim wo (D k) (A k) (C k) 32) wo.heap.size bp (op + k) (.string (D k).name) (.int .i64 (D k).solve) (.slice (A k) (D k).n (C k)) (.int .i64 x) := by
        obtain ⟨x0, x1, x2⟩ := ownDim_at wo (D k) (A k) (C k) 32
        exact ⟨⟨by rw [ownDim_size]; omega, Nat.lt_of_lt_of_le hbq hBx.size⟩, x0, x1, x2, (hBx.cell (p := ⟨bp, op + k, none⟩) hbq).trans (by rw [e1, hx])⟩
      have hzx := ownDim_size wo (D k) (A k) (C k) 32
      obtain ⟨Wx, hWx⟩ : ∃ W, ownDim wo (D k) (A k) (C k) 32 = W := ⟨_, rfl⟩
      rw [hWx] at hFo hBx hzx
      unfold ownDim at hWx
      have HFo : Hid (Four Wx wo.heap.size bp (op + k) (.string (D k).name) (.int .i64 (D k).solve) (.slice (A k) (D k).n (C k)) (.int .i64 x)) := hFo
      have HBx : Hid (Below wo.heap.size wo Wx) := hBx
      generalize (cnts (D k) x) = cn at HWT HCL HCN HCS
      generalize weightOf (D k).mem (x : Int) = wt at HWt HCS
      obtain ⟨-, f0, f1, f2, f3⟩ := hFo
      generalize (D k).name = dn at HWt HFo d0 hWx f0
      generalize (D k).solve = ds at HWt HFo d1 hWx f1
      generalize A k = Ak at HWt HFo d2 hWx f2
      generalize C k = Ck at HWt HFo d2 hWx f2
      generalize (D k).n = dk at HWt HFo d2 hWx HLm HCL HCN f2 hmk hdn1 hdn2
      obtain ⟨X, hX⟩ : ∃ X, lfs D p k = X := ⟨_, rfl⟩
      have HX : Hid (lfs D p k = X) := hX
      rw [hX] at HWt HLm hLl HIL HWT hcL
      have hSx := HS.out.later hBx
      obtain ⟨A1, l1, c1, hc1, -⟩ := hSx.at hlt
      have hfr := hSx.frozen k
      have hcLx := (hBx.cell (p := ⟨gb, k, none⟩) hgbw).trans hcL
      have hdk' : (dk : Int) ≤ 12 := by omega
      have hg1 : w1.heap.size < wo.heap.size := HS.out.lt
      have hgx : w1.heap.size < Wx.heap.size := by omega
      have hgb1 : gb < w1.heap.size := HS1.out.lt
      have hgbx : gb < Wx.heap.size := by omega
      have HZX : Hid (Wx.heap.size = wo.heap.size + 1) := hzx
      clear hBx hS hBw h4 hdk hX hIL hSx hlo hhi hx hzx
      go_wp2_with fail
      have HIn0 : Hid (Inn Wx ((Wx.setCell ⟨w1.heap.size, k, none⟩ (.slice (some ⟨Wx.heap.size, 0, none⟩) dk dk)).alloc (.cells (madeCells #[.int .i64 0] dk) 3)) w1.heap.size k (.slice (some ⟨Wx.heap.size, 0, none⟩) dk dk)) := Inn.start _ hgx
      have HIB0 : Hid (IntB ((Wx.setCell ⟨w1.heap.size, k, none⟩ (.slice (some ⟨Wx.heap.size, 0, none⟩) dk dk)).alloc (.cells (madeCells #[.int .i64 0] dk) 3)) Wx.heap.size (cn [])) := by
        show IntB _ _ _
        rw [HCN.out]
        have hh := IntB.made (Wx.setCell ⟨w1.heap.size, k, none⟩ (.slice (some ⟨Wx.heap.size, 0, none⟩) dk dk)) dk
        rw [show (Wx.setCell ⟨w1.heap.size, k, none⟩ (.slice (some ⟨Wx.heap.size, 0, none⟩) dk dk)).heap.size = Wx.heap.size by simp [World.setCell]] at hh
        exact hh
      clear hWx hmk d0 d1 d2 e1 f0 f1 f2 f3 hcL hcLx
      go_loopg [48] X.length (fun g s48 wi => ∃ (m : Nat), m ≤ X.length ∧ g = X.length - m ∧ s48 = .int .i64 m ∧ IntB wi Wx.heap.size (cn (X.take m)) ∧ Inn Wx wi w1.heap.size k (.slice (some ⟨Wx.heap.size, 0, none⟩) dk dk) ∧ Below w1.heap.size w1 wi)
      case atStart => exact ⟨0, Nat.zero_le _, rfl, rfl, HIB0.out, HIn0.out, ((onB HBw.out HBx.out).setCell (p := ⟨w1.heap.size, k, none⟩) (Nat.le_refl _) _).alloc (by simp [World.setCell]; omega) _⟩
      case round =>
        obtain ⟨wi, rfl⟩ : ∃ w2 : World, w2 = wr := ⟨_, rfl⟩
        obtain ⟨m, hm, rfl, rfl, hIB, hIn, hBi⟩ := hrel
        have HBi : Hid (Below w1.heap.size w1 wi) := hBi
        have HIn : Hid (Inn Wx wi w1.heap.size k (.slice (some ⟨Wx.heap.size, 0, none⟩) dk dk)) := hIn
        have HIB : Hid (IntB wi Wx.heap.size (cn (X.take m))) := hIB
        have hoff : ∀ i, i < wo.heap.size → i ≠ w1.heap.size → wi.heap[i]? = wo.heap[i]? := fun i hi hne => (hIn.1 i (by have := HZX.out; omega) hne).trans (HBx.out.block i hi)
        have hoz : wo.heap.size ≤ wi.heap.size := by have := HZX.out; have := hIn.2.2; omega
        by_cases hmt : m < X.length
        · have hmi : (m : Int) < (X.length : Int) := by omega
          obtain ⟨hcL, h0 | ⟨bL, rfl, hbL, hLc⟩⟩ := HS.out.off (by omega) HIL.out hoff hoz
          · rw [h0] at hmt; cases hmt
          have c0 := hLc m hmt
          obtain ⟨j, hj, hjd⟩ := HLm.out (X.getD m 0) (by rw [List.getD_eq_getElem?_getD, List.getElem?_eq_getElem hmt]; exact List.getElem_mem hmt)
          have HWj : Hid (∀ w', Below w1.heap.size w1 w' → _) := HWt.out (X.getD m 0) (by rw [List.getD_eq_getElem?_getD, List.getElem?_eq_getElem hmt]; exact List.getElem_mem hmt)
          rw [hj] at c0 HWj
          have HTk : Hid ((cn (X.take m)).set j (wt j) = cn (X.take (m + 1))) := by
            show _ = _
            rw [HCS.out]
            congr 1
            rw [List.take_succ_eq_append_getElem hmt]
            congr 2
            rw [← hj, List.getD_eq_getElem?_getD, List.getElem?_eq_getElem hmt]; rfl
          obtain ⟨-, f0, f1, f2, f3⟩ := HFo.out
          have hFi : Four wi wo.heap.size bp (op + k) (.string dn) (.int .i64 ds) (.slice Ak dk Ck) (.int .i64 x) :=
            ⟨⟨by have := HZX.out; have := hIn.2.2; omega, by omega⟩, (hIn.cell (by have := HZX.out; omega) (by omega)).trans f0, (hIn.cell (by have := HZX.out; omega) (by omega)).trans f1, (hIn.cell (by have := HZX.out; omega) (by omega)).trans f2, (hIn.cell (by have := HZX.out; omega) (by omega)).trans f3⟩
          have HFi : Hid (Four wi wo.heap.size bp (op + k) (.string dn) (.int .i64 ds) (.slice Ak dk Ck) (.int .i64 x)) := hFi
          have hji : (j : Int) < (dk : Int) := by omega
          clear f0 f1 f2 f3 hLc hIB hIn hBi hoff hoz hj hFi
          go_wp2_with fail
          go_cut [13, 14] (fun s13 s14 wx => s13 = .int .i64 (wt j) ∧ s14 = .nilIface ∧ Below wi.heap.size wi wx)
          case first => as_aux_lemma =>
            go_region_held3 (fun w' => Below wi.heap.size wi w' ∧ w'.cell? ⟨wo.heap.size, 0, none⟩ = some (.string dn) ∧ w'.cell? ⟨wo.heap.size, 1, none⟩ = some (.int .i64 ds) ∧ w'.cell? ⟨wo.heap.size, 2, none⟩ = some (.slice Ak dk Ck) ∧ w'.cell? ⟨bp, op + k, none⟩ = some (.int .i64 x))
              ((refine keep4 HFi.out ?_; go_grown; done))
              (first | (go_at_call 45; refine (HWj.out _ (onB HBi.out (by go_grown))).mono ?_; rintro e w3 ⟨rfl, hb3⟩; have hN3 := onB (W0 := wi) (by go_grown) hb3; have hy3 := hN3.size; clear hb3))
            all_goals go_wp2_with fail
            all_goals go_meet
            all_goals exact ⟨rfl, rfl, by go_grown⟩
          case rest => as_aux_lemma =>
          obtain ⟨rfl, rfl, hb⟩ := hcut
          obtain ⟨w2, rfl⟩ : ∃ w2 : World, w2 = wc := ⟨_, rfl⟩
          have hI2 := HIn.out.later hgx hb
          have hB2 := HIB.out.later hb
          have HI2 : Hid (Inn Wx w2 w1.heap.size k (.slice (some ⟨Wx.heap.size, 0, none⟩) dk dk)) := hI2
          have HIB2 : Hid (IntB w2 Wx.heap.size (cn (X.take m))) := hB2
          have HB2 : Hid (Below w1.heap.size w1 w2) := onB HBi.out hb
          have g0 := hI2.at hc1
          have g1 := hB2.cell (j := j) (by rw [HCL.out]; exact hjd)
          have g2 := hB2.frozen j
          have hsz := hB2.lt
          generalize (cn (X.take m)).getD j 0 = old at g1
          clear hI2 hB2 hb HFi HWj c0
          go_wp2_with fail
          go_roundg (X.length - (m + 1))
          case measure => omega
          case rel =>
            refine ⟨m + 1, by omega, rfl, by go_num, ?_, HI2.out.store hgx (Nat.le_refl _) j _, HB2.out.setCell (by show w1.heap.size ≤ Wx.heap.size; omega) _⟩
            have := HIB2.out.set j (wt j)
            rw [HTk.out] at this
            exact this
        · have hme : m = X.length := by omega
          have HOff : Hid (∀ i, i < wo.heap.size → i ≠ w1.heap.size → wi.heap[i]? = wo.heap[i]?) := hoff
          have HOz : Hid (wo.heap.size ≤ wi.heap.size) := hoz
          have HFin : Hid (IntB wi Wx.heap.size (wts D p k)) := by
            show IntB _ _ _
            rw [HWT.out]
            rw [hme, List.take_length] at hIB
            exact hIB
          have hmi : ¬ ((m : Int) < (X.length : Int)) := by omega
          clear hIB hIn hBi hoff hoz hme
          go_wp2_with fail
          go_roundg (n - (k + 1))
          case measure => omega
          case rel =>
            have hl : (wts D p k).length = dk := by rw [HWT.out, HCL.out]
            refine ⟨k + 1, by omega, rfl, by go_num, ?_, HBi.out⟩
            refine HS.out.row hlt HOff.out (HIn.out.2.1.trans (setCell_same (HBx.out.block _ hg1))) HOz.out hl.symm ?_
            refine ⟨by rw [hl]; exact Nat.le_refl _, Or.inr ⟨Wx.heap.size, rfl, HFin.out.lt, fun j hj => HFin.out.cell hj⟩⟩
    · have hke : k = n := by omega
      subst hke
      clear hBw hS
      go_wp2_with fail
      go_ret2
      exact ⟨⟨_, rfl, HS.out⟩, onB HB.out HBw.out⟩

theorem rws_bad (A0 : Option Addr) (cap n : Nat) (D : Nat → Dm) (A : Nat → Option Addr) (C : Nat → Nat) (Ap : Option Addr) (cp : Nat) (p : List Int) (w : World) (hp : placeErr D n p ≠ 0) (hM : DimsV w A0 cap n D A C) (hP : PlAt w Ap cp p) : Calls Try.prog 21 #[.agg #[.slice A0 n cap], .slice Ap p.length cp] w fun e w' => e = .returned (.tuple #[.slice none 0 0, .iface 77 (.int .i64 (placeErr D n p))]) ∧ Below w.heap.size w w' := by
  have hB0 := ownOut_below w A0 n cap 24
  have h := rls_bad A0 cap n D A C Ap cp p (ownOut w A0 n cap 24) hp (hM.later hB0) (hP.later hB0)
  have HB0 : Hid (Below w.heap.size w (ownOut w A0 n cap 24)) := hB0
  clear hB0 hM hP hp
  generalize placeErr D n p = c at h
  generalize p.length = m at h
  go_enter Try.func21, Try.ntmps21
  go_wp2_with fail
  refine h.mono ?_
  rintro e w1 ⟨rfl, hb1⟩
  go_wp2_with fail
  go_ret2
  exact ⟨rfl, onB HB0.out hb1⟩
end Go.Proofs.Ytmjcnlpjnbcfjad

namespace Go.Proofs.Ytmjcnlpjnbcfjad
open Go.ChangeShapes Go.WideShapes Go.ChangeAt Go.RowKit
set_option maxRecDepth 20000

set_option maxHeartbeats 2000000 in
theorem rprod_any (g n : Nat) (D : Nat → Dm) (p : List Int) (Aq : Option Addr) (cq : Nat) (q : List Int) (w : World) (hq : InO D n q) (hS : SlB w g n n (wts D p)) (hQ : PlAt w Aq cq q) : Calls Try.prog 22 #[.slice (some ⟨g, 0, none⟩) n n, .slice Aq q.length cq] w fun e w' => e = .returned (.int .i64 (prTo (wts D p) q n)) ∧ Below w.heap.size w w' := by
  obtain ⟨hn1, hn4, -, hd⟩ := allErr_some hq.right
  have hl := hq.len
  obtain ⟨hcp, h0 | ⟨bq, oq, rfl, hbq, hcell⟩⟩ := hQ
  · rw [h0] at hl; simp at hl; omega
  rw [hl] at hcp hcell ⊢
  have HC : Hid (∀ j, j < n → w.cell? ⟨bq, oq + j, none⟩ = some (.int .i64 (q.getD j 0))) := hcell
  have HS : Hid (SlB w g n n (wts D p)) := hS
  have HQ : Hid (InO D n q) := hq
  have hn' : (n : Int) ≤ 4 := by omega
  clear hcell hS hq hl
  go_enter Try.func22, Try.ntmps22
  go_wp2_with fail
  go_loopg [5, 10] n (fun g' s5 s10 wr => ∃ (k : Nat), k ≤ n ∧ g' = n - k ∧ s10 = .int .i64 k ∧ s5 = .int .i64 (prTo (wts D p) q k) ∧ Below w.heap.size w wr)
  case atStart => exact ⟨0, Nat.zero_le _, rfl, rfl, rfl, Below.refl _ _⟩
  case round =>
    obtain ⟨k, hk, rfl, rfl, rfl, hBw⟩ := hrel
    have HBw : Hid (Below w.heap.size w wr) := hBw
    by_cases hlt : k < n
    · have hki : (k : Int) < (n : Int) := by omega
      obtain ⟨AL, cL, hcL, hcl, hIL⟩ := (HS.out.later hBw).get hlt
      have hlen : (wts D p k).length = (D k).n := cnts_len ..
      have e1 := (hBw.cell (p := ⟨bq, oq + k, none⟩) hbq).trans (HC.out k hlt)
      obtain ⟨x, hx⟩ : ∃ x : Nat, q.getD k 0 = x := ⟨(q.getD k 0).toNat, by have := HQ.out.lo k hlt; omega⟩
      have hxn : x < (D k).n := by have := HQ.out.hi k hlt; omega
      obtain ⟨hdn1, hdn2⟩ := hd k hlt
      rcases hIL with h0 | ⟨bL, rfl, hbL, hLc⟩
      · rw [h0] at hlen; simp at hlen; omega
      have e2 := hLc x (by omega)
      rw [hlen] at hcL hcl
      rw [hx] at e1
      have HPr : Hid (prTo (wts D p) q (k + 1) = prTo (wts D p) q k * (wts D p k).getD x 0) := by show _ = _; rw [prTo, hx, Int.toNat_natCast]
      have hs1 := prTo_small HQ.out.right p q (k + 1) (by omega)
      rw [HPr.out] at hs1
      obtain ⟨hs1, hs2⟩ := hs1
      generalize (wts D p k).getD x 0 = y at e2 HPr hs1 hs2
      generalize (D k).n = dk at hcL hcl hdn1 hdn2 hxn
      generalize prTo (wts D p) q k = z at HPr hs1 hs2
      have hxi : (x : Int) < (dk : Int) := by omega
      have hdi : (dk : Int) ≤ 12 := by omega
      clear hBw hLc hlen hx
      go_wp2_with fail
      first | go_quiet (fail) | skip
      go_wp2_with fail
      go_roundg (n - (k + 1))
      case measure => omega
      case rel => exact ⟨k + 1, by omega, rfl, by go_num, by rw [HPr.out], by first | exact HBw.out | exact below_drewN HBw.out _⟩
    · have hke : k = n := by omega
      subst hke
      clear hBw
      go_wp2_with fail
      go_ret
      exact ⟨rfl, HBw.out⟩

/-- what is wrong with entries, or with a place; what comes of them there -/
def rvErr (D : Nat → Dm) (n : Nat) (l : List En) (p : List Int) : Int := if entsErr D n l ≠ 0 then entsErr D n l else placeErr D n p
def rvV (D : Nat → Dm) (n : Nat) (l : List En) (p : List Int) : Int × Int := if rvErr D n l p = 0 then rollV D n l p else (0, 0)
theorem rvErr_ents {D : Nat → Dm} {n : Nat} {l : List En} {p : List Int} (h : entsErr D n l ≠ 0) : rvErr D n l p = entsErr D n l := by unfold rvErr; rw [if_pos h]
theorem rvErr_place {D : Nat → Dm} {n : Nat} {l : List En} {p : List Int} (h : entsErr D n l = 0) : rvErr D n l p = placeErr D n p := by unfold rvErr; rw [if_neg (by simpa using h)]
theorem rvV_bad {D : Nat → Dm} {n : Nat} {l : List En} {p : List Int} (h : rvErr D n l p ≠ 0) : rvV D n l p = (0, 0) := by unfold rvV; rw [if_neg h]
theorem rvV_ok {D : Nat → Dm} {n : Nat} {l : List En} {p : List Int} (h : rvErr D n l p = 0) : rvV D n l p = rollV D n l p := by unfold rvV; rw [if_pos h]
theorem rvErr_in {D : Nat → Dm} {n : Nat} {l : List En} {p : List Int} (h : rvErr D n l p = 0) : Ens D n l ∧ InO D n p := by
  by_cases h1 : entsErr D n l = 0
  · rw [rvErr_place h1] at h
    exact ⟨ens_of h1, inO_of h⟩
  · rw [rvErr_ents h1] at h
    exact absurd h h1

set_option maxHeartbeats 4000000 in
theorem rvalue_any (A0 : Option Addr) (cap n : Nat) (D : Nat → Dm) (A : Nat → Option Addr) (C : Nat → Nat) (AE : Option Addr) (ce : Nat) (xs : List EnL) (Ap : Option Addr) (cp : Nat) (p : List Int) (w : World) (hEs : Ens D n (lE xs)) (hp : InO D n p) (hM : DimsV w A0 cap n D A C) (hE : EnsV w AE ce xs) (hP : PlAt w Ap cp p) :
    Calls Try.prog 7 #[.agg #[.slice A0 n cap], .slice AE xs.length ce, .slice Ap p.length cp] w fun e w' => e = .returned (.tuple #[.agg #[.int .i64 (rollV D n (lE xs) p).1, .int .i64 (rollV D n (lE xs) p).2], .nilIface]) ∧ Below w.heap.size w w' := by
  have hB0 := ownOC_below w A0 n cap
  have h := icheck_any A0 cap n D A C AE ce xs (ownOC w A0 n cap) (hM.later hB0) (hE.later hB0)
  rw [hEs.ok, errV_zero] at h
  have HB0 : Hid (Below w.heap.size w (ownOC w A0 n cap)) := hB0
  have HWs : Hid (∀ w', Below w.heap.size w w' → Calls Try.prog 21 #[.agg #[.slice A0 n cap], .slice Ap p.length cp] w' fun e w'' => (∃ g, e = .returned (.tuple #[.slice (some ⟨g, 0, none⟩) n n, .nilIface]) ∧ SlB w'' g n n (wts D p)) ∧ Below w'.heap.size w' w'') := fun w' hw' => rws_any A0 cap n D A C Ap cp p w' hp (hM.later hw') (hP.later hw')
  have HE : Hid (EnsV w AE ce xs) := hE
  have HEs : Hid (Ens D n (lE xs)) := hEs
  have hfew : xs.length ≤ 3000 := by have := hEs.few; rw [lE_len] at this; exact this
  have HFin : Hid (((lE xs).take xs.length).foldl (rollStep D n p) (0, 0) = rollV D n (lE xs) p) := by show _ = _; rw [List.take_of_length_le (by rw [lE_len]; exact Nat.le_refl _)]; exact roll_fold ..
  obtain ⟨N, hN⟩ : ∃ N, xs.length = N := ⟨_, rfl⟩
  have HN : Hid (xs.length = N) := hN
  rw [hN] at h hfew HFin
  rw [hN]
  generalize p.length = np at HWs
  have hNi : (N : Int) ≤ 3000 := by omega
  clear hB0 hM hE hP hN hEs hp
  go_enter Try.func7, Try.ntmps7
  go_wp2_with fail
  refine h.mono ?_
  rintro e w1 ⟨rfl, hb1⟩
  have hB : Below w.heap.size w w1 := onB HB0.out hb1
  have hz1 : w.heap.size + 1 < w1.heap.size := by have := hb1.size; rw [ownOC_size] at this; omega
  have c1 : w1.cell? ⟨w.heap.size, 0, none⟩ = some (.slice A0 n cap) := (hb1.cell (p := ⟨w.heap.size, 0, none⟩) (by show w.heap.size < _; rw [ownOC_size]; omega)).trans (ownOC_o ..)
  have HK1 : Hid (w1.heap[w.heap.size + 1]? = some (.cells #[.int .i64 0, .int .i64 0] 34)) := (hb1.block (w.heap.size + 1) (by rw [ownOC_size]; omega)).trans (ownOC_b ..)
  have hws := HWs.out w1 hB
  have HB : Hid (Below w.heap.size w w1) := hB
  clear hb1 h hB
  go_wp2_with fail
  refine hws.mono ?_
  rintro e w2 ⟨⟨g, rfl, hS⟩, hb2⟩
  have HB2 : Hid (Below w.heap.size w w2) := onB HB.out hb2
  have HS : Hid (SlB w2 g n n (wts D p)) := hS
  have HK2 : Hid (w2.heap[w.heap.size + 1]? = some (.cells #[.int .i64 0, .int .i64 0] 34)) := (hb2.block _ hz1).trans HK1.out
  have hz2 : w.heap.size + 1 < w2.heap.size := Nat.lt_of_lt_of_le hz1 hb2.size
  clear hb2 hS hws c1 HK1 HB hz1
  go_wp2_with fail
  go_loopg [11, 12, 35] N (fun g' s11 s12 s35 wr => ∃ (k : Nat), k ≤ N ∧ g' = N - k ∧ s35 = .int .i64 k ∧ s11 = .int .i64 (rollN D n p ((lE xs).take k)) ∧ s12 = .bool (((lE xs).take k).any (cntR D n p)) ∧ Below w2.heap.size w2 wr)
  case atStart => exact ⟨0, Nat.zero_le _, rfl, rfl, rfl, rfl, Below.refl _ _⟩
  case round =>
    obtain ⟨k, hk, rfl, rfl, rfl, rfl, hBw⟩ := hrel
    have HBw : Hid (Below w2.heap.size w2 wr) := hBw
    by_cases hlt : k < N
    · have hki : (k : Int) < (N : Int) := by omega
      have hkx : k < xs.length := by rw [HN.out]; exact hlt
      have hkl : k < (lE xs).length := by rw [lE_len]; exact hkx
      obtain ⟨hce, -, h0 | ⟨b, o, rfl, hA⟩⟩ := HE.out.later (onB HB2.out hBw)
      · rw [h0] at hkx; cases hkx
      obtain ⟨c0, c1⟩ := hA.at hkx
      have hpl := hA.pl hkx
      have hel : (lE xs)[k] = (xs.getD k noL).e := by rw [← lE_at, List.getD_eq_getElem?_getD, List.getElem?_eq_getElem hkl]; rfl
      obtain ⟨hqO, hqL, hqN⟩ := HEs.out.each (lE xs)[k] (List.getElem_mem hkl)
      rw [hel] at hqO hqL hqN
      have hw0 := pwTo_small hqO p n (Nat.le_refl _)
      have hpr := pr_wts hqO hqL p n (Nat.le_refl _)
      have HPd : Hid (∀ w', Below wr.heap.size wr w' → Calls Try.prog 22 #[.slice (some ⟨g, 0, none⟩) n n, .slice (xs.getD k noL).A (xs.getD k noL).e.pl.length (xs.getD k noL).c] w' fun e w'' => e = .returned (.int .i64 (pwTo D p (xs.getD k noL).e.pl n)) ∧ Below w'.heap.size w' w'') := fun w' hw' => by
        have := rprod_any g n D p _ _ _ w' hqO (HS.out.later (onB hBw hw')) (hpl.later hw')
        rw [hpr] at this
        exact this
      have hn1 : -1000000 ≤ (xs.getD k noL).e.n ∧ (xs.getD k noL).e.n ≤ 1000000 := by simpa [numOk] using hqN
      have hbd := roll_bound p ((lE xs).take k) fun e he => HEs.out.each e (List.mem_of_mem_take he)
      have hlk : (((lE xs).take k).length : Int) ≤ 3000 := by
        have := List.length_take_le k (lE xs)
        omega
      have HT : Hid ((lE xs).take (k + 1) = (lE xs).take k ++ [(xs.getD k noL).e]) := by show _ = _; rw [List.take_succ_eq_append_getElem hkl, hel]
      have HCn : Hid (cntR D n p (xs.getD k noL).e = !(pwTo D p (xs.getD k noL).e.pl n == 0)) := cnt_pw
      have HVr : Hid (valR D n p (xs.getD k noL).e = pwTo D p (xs.getD k noL).e.pl n * (xs.getD k noL).e.n) := rfl
      generalize hlen : ((lE xs).take k).length = lk at hbd hlk
      obtain ⟨RS, hRS⟩ : ∃ v, rollN D n p ((lE xs).take k) = v := ⟨_, rfl⟩
      have HRS : Hid (rollN D n p ((lE xs).take k) = RS) := hRS
      rw [hRS] at hbd ⊢
      obtain ⟨an, han⟩ : ∃ v, ((lE xs).take k).any (cntR D n p) = v := ⟨_, rfl⟩
      have HAN : Hid (((lE xs).take k).any (cntR D n p) = an) := han
      rw [han]
      generalize (xs.getD k noL).e = en at *
      generalize (xs.getD k noL).A = Ae at *
      generalize (xs.getD k noL).c = ke at *
      generalize pwTo D p en.pl n = pw at HPd HCn HVr hw0
      obtain ⟨en1, en2⟩ := en
      simp only at *
      generalize en1.length = me at c0 HPd
      have hRS1 : -3000000000 ≤ RS := by omega
      have hRS2 : RS ≤ 3000000000 := by omega
      have hcs : pw = 0 ∨ pw = 1 ∨ pw = -1 := by omega
      clear hBw hA hpl hqO hqL hqN hpr hbd hlk hlen hRS han hel hw0
      obtain ⟨hn1, hn2⟩ := hn1
      rcases hcs with rfl | rfl | rfl
      · have HC0 : Hid (cntR D n p ⟨en1, en2⟩ = false) := HCn.out
        go_wp2_with fail
        refine (HPd.out _ (by go_grown)).mono ?_
        rintro e w3 ⟨rfl, hb3⟩
        have HB3 : Hid (Below wr.heap.size wr w3) := onB (by go_grown) hb3
        clear hb3
        go_wp2_with fail
        go_roundg (N - (k + 1))
        case measure => omega
        case rel =>
          refine ⟨k + 1, by omega, rfl, by go_num, ?_, ?_, onB HBw.out HB3.out⟩
          · rw [HT.out, rollN_append, HRS.out, rollN, rollN, if_neg (by rw [HC0.out]; simp)]
            simp
          · rw [HT.out, List.any_append, HAN.out]; simp [HC0.out]
      · have HC0 : Hid (cntR D n p ⟨en1, en2⟩ = true) := HCn.out
        have HV0 : Hid (valR D n p ⟨en1, en2⟩ = en2) := by show _ = _; rw [HVr.out]; simp
        go_wp2_with fail
        refine (HPd.out _ (by go_grown)).mono ?_
        rintro e w3 ⟨rfl, hb3⟩
        have HB3 : Hid (Below wr.heap.size wr w3) := onB (by go_grown) hb3
        have c3 : w3.cell? ⟨wr.heap.size, 1, none⟩ = some (.int .i64 en2) := (hb3.cell (p := ⟨wr.heap.size, 1, none⟩) (by simp)).trans (by simp)
        clear hb3
        go_wp2_with fail
        go_roundg (N - (k + 1))
        case measure => omega
        case rel =>
          refine ⟨k + 1, by omega, rfl, by go_num, ?_, ?_, onB HBw.out HB3.out⟩
          · rw [HT.out, rollN_append, HRS.out, rollN, rollN, if_pos HC0.out, HV0.out]
            first | rfl | (congr 1; omega) | go_num
          · rw [HT.out, List.any_append, HAN.out]; simp [HC0.out]
      · have HC0 : Hid (cntR D n p ⟨en1, en2⟩ = true) := HCn.out
        have HV0 : Hid (valR D n p ⟨en1, en2⟩ = -en2) := by show _ = _; rw [HVr.out]; simp
        go_wp2_with fail
        refine (HPd.out _ (by go_grown)).mono ?_
        rintro e w3 ⟨rfl, hb3⟩
        have HB3 : Hid (Below wr.heap.size wr w3) := onB (by go_grown) hb3
        have c3 : w3.cell? ⟨wr.heap.size, 1, none⟩ = some (.int .i64 en2) := (hb3.cell (p := ⟨wr.heap.size, 1, none⟩) (by simp)).trans (by simp)
        clear hb3
        go_wp2_with fail
        go_roundg (N - (k + 1))
        case measure => omega
        case rel =>
          refine ⟨k + 1, by omega, rfl, by go_num, ?_, ?_, onB HBw.out HB3.out⟩
          · rw [HT.out, rollN_append, HRS.out, rollN, rollN, if_pos HC0.out, HV0.out]
            first | rfl | (congr 1; omega) | go_num
          · rw [HT.out, List.any_append, HAN.out]; simp [HC0.out]
    · have hke : k = N := by omega
      subst hke
      have hz3 : w.heap.size + 1 < wr.heap.size := Nat.lt_of_lt_of_le hz2 hBw.size
      have HK3 : Hid (wr.heap[w.heap.size + 1]? = some (.cells #[.int .i64 0, .int .i64 0] 34)) := (hBw.block _ hz2).trans HK2.out
      have HAll : Hid ((lE xs).take k = lE xs) := by show _ = _; rw [List.take_of_length_le (by rw [lE_len, HN.out]; exact Nat.le_refl _)]
      rw [HAll.out]
      have hbd := roll_bound p (lE xs) HEs.out.each
      have hlk : ((lE xs).length : Int) ≤ 3000 := by rw [lE_len, HN.out]; omega
      have hR1 : -3000000000 ≤ rollN D n p (lE xs) := by omega
      have hR2 : rollN D n p (lE xs) ≤ 3000000000 := by omega
      cases han : (lE xs).any (cntR D n p)
      · have HV1 : Hid (rollV D n (lE xs) p = (0, 0)) := by show _ = _; unfold rollV rollK; rw [roll_none han, han]; rfl
        have d0 : wr.cell? ⟨w.heap.size + 1, 0, none⟩ = some (.int .i64 0) := by rw [Lib.cell_of_heap HK3.out]; rfl
        have d1 : wr.cell? ⟨w.heap.size + 1, 1, none⟩ = some (.int .i64 0) := by rw [Lib.cell_of_heap HK3.out]; rfl
        have f0 : wr.frozen? ⟨w.heap.size + 1, 0, none⟩ = false := Lib.frozen_of_heap HK3.out 0
        have f1 : wr.frozen? ⟨w.heap.size + 1, 1, none⟩ = false := Lib.frozen_of_heap HK3.out 1
        generalize rollN D n p (lE xs) = RS
        clear hBw han hbd hlk hR1 hR2
        go_wp2_with fail
        refine bodyPost_ret (v := .tuple #[.agg #[.int .i64 0, .int .i64 0], .nilIface]) (by simp [results, Try.results7, go_sem, d0, d1]) rfl ⟨by rw [HV1.out], ?_⟩
        exact ((onB HB2.out HBw.out).setCell (by show w.heap.size ≤ w.heap.size + 1; omega) _).setCell (by show w.heap.size ≤ w.heap.size + 1; omega) _
      · have HV1 : Hid (rollV D n (lE xs) p = (1, rollN D n p (lE xs))) := by show _ = _; unfold rollV rollK; rw [han]; rfl
        generalize rollN D n p (lE xs) = RS at HV1 hR1 hR2
        have hof := fun w' => of_any RS w'
        have hofp : ofP RS = (1, RS) := ofP_in (by omega) (by omega)
        rw [hofp] at hof
        clear hBw han hbd hlk hofp
        go_wp2_with fail
        refine (hof _).mono ?_
        rintro e w4 ⟨rfl, hb4⟩
        have k4 : w4.heap[w.heap.size + 1]? = some (.cells #[.int .i64 0, .int .i64 0] 34) := (hb4.block _ hz3).trans HK3.out
        have d0 : w4.cell? ⟨w.heap.size + 1, 0, none⟩ = some (.int .i64 0) := by rw [Lib.cell_of_heap k4]; rfl
        have d1 : w4.cell? ⟨w.heap.size + 1, 1, none⟩ = some (.int .i64 0) := by rw [Lib.cell_of_heap k4]; rfl
        have f0 : w4.frozen? ⟨w.heap.size + 1, 0, none⟩ = false := Lib.frozen_of_heap k4 0
        have f1 : w4.frozen? ⟨w.heap.size + 1, 1, none⟩ = false := Lib.frozen_of_heap k4 1
        have HB4 : Hid (Below w.heap.size w w4) := onB (onB HB2.out HBw.out) hb4
        clear hb4 k4 hof
        go_wp2_with fail
        refine bodyPost_ret (v := .tuple #[.agg #[.int .i64 1, .int .i64 RS], .nilIface]) (by simp [results, Try.results7, go_sem, d0, d1]) rfl ⟨by rw [HV1.out], ?_⟩
        exact (HB4.out.setCell (by show w.heap.size ≤ w.heap.size + 1; omega) _).setCell (by show w.heap.size ≤ w.heap.size + 1; omega) _

set_option maxHeartbeats 2000000 in
/-- what Value answers, whatever it is called with -/
theorem rval_any (A0 : Option Addr) (cap n : Nat) (D : Nat → Dm) (A : Nat → Option Addr) (C : Nat → Nat) (AE : Option Addr) (ce : Nat) (xs : List EnL) (Ap : Option Addr) (cp : Nat) (p : List Int) (w : World) (hM : DimsV w A0 cap n D A C) (hE : EnsV w AE ce xs) (hP : PlAt w Ap cp p) :
    Calls Try.prog 7 #[.agg #[.slice A0 n cap], .slice AE xs.length ce, .slice Ap p.length cp] w fun e w' => e = .returned (.tuple #[.agg #[.int .i64 (rvV D n (lE xs) p).1, .int .i64 (rvV D n (lE xs) p).2], errV (rvErr D n (lE xs) p)]) ∧ Below w.heap.size w w' := by
  by_cases hr : rvErr D n (lE xs) p = 0
  · obtain ⟨hEs, hp⟩ := rvErr_in hr
    rw [rvV_ok hr, hr, errV_zero]
    exact rvalue_any A0 cap n D A C AE ce xs Ap cp p w hEs hp hM hE hP
  · have HV : Hid (rvV D n (lE xs) p = (0, 0)) := rvV_bad hr
    have HEr : Hid (errV (rvErr D n (lE xs) p) = .iface 77 (.int .i64 (rvErr D n (lE xs) p))) := errV_some hr
    have hB0 := ownOC_below w A0 n cap
    have h := icheck_any A0 cap n D A C AE ce xs (ownOC w A0 n cap) (hM.later hB0) (hE.later hB0)
    have HB0 : Hid (Below w.heap.size w (ownOC w A0 n cap)) := hB0
    by_cases he : entsErr D n (lE xs) = 0
    · have hpe := rvErr_place (p := p) he
      rw [hpe] at hr HEr
      rw [he, errV_zero] at h
      have HWs : Hid (∀ w', Below w.heap.size w w' → Calls Try.prog 21 #[.agg #[.slice A0 n cap], .slice Ap p.length cp] w' fun e w'' => e = .returned (.tuple #[.slice none 0 0, .iface 77 (.int .i64 (placeErr D n p))]) ∧ Below w'.heap.size w' w'') := fun w' hw' => rws_bad A0 cap n D A C Ap cp p w' hr (hM.later hw') (hP.later hw')
      have HPE : Hid (rvErr D n (lE xs) p = placeErr D n p) := hpe
      clear hB0 hM hE hP hr he hpe
      generalize placeErr D n p = E at HWs HEr HPE
      generalize p.length = np at HWs
      generalize xs.length = N at h
      go_enter Try.func7, Try.ntmps7
      go_wp2_with fail
      refine h.mono ?_
      rintro e w1 ⟨rfl, hb1⟩
      have hB : Below w.heap.size w w1 := onB HB0.out hb1
      have hz1 : w.heap.size + 1 < w1.heap.size := by have := hb1.size; rw [ownOC_size] at this; omega
      have c1 : w1.cell? ⟨w.heap.size, 0, none⟩ = some (.slice A0 n cap) := (hb1.cell (p := ⟨w.heap.size, 0, none⟩) (by show w.heap.size < _; rw [ownOC_size]; omega)).trans (ownOC_o ..)
      have HK1 : Hid (w1.heap[w.heap.size + 1]? = some (.cells #[.int .i64 0, .int .i64 0] 34)) := (hb1.block (w.heap.size + 1) (by rw [ownOC_size]; omega)).trans (ownOC_b ..)
      have hws := HWs.out w1 hB
      have HB : Hid (Below w.heap.size w w1) := hB
      clear hb1 h hB
      go_wp2_with fail
      refine hws.mono ?_
      rintro e w2 ⟨rfl, hb2⟩
      have HB2 : Hid (Below w.heap.size w w2) := onB HB.out hb2
      have k4 : w2.heap[w.heap.size + 1]? = some (.cells #[.int .i64 0, .int .i64 0] 34) := (hb2.block _ hz1).trans HK1.out
      have d0 : w2.cell? ⟨w.heap.size + 1, 0, none⟩ = some (.int .i64 0) := by rw [Lib.cell_of_heap k4]; rfl
      have d1 : w2.cell? ⟨w.heap.size + 1, 1, none⟩ = some (.int .i64 0) := by rw [Lib.cell_of_heap k4]; rfl
      have f0 : w2.frozen? ⟨w.heap.size + 1, 0, none⟩ = false := Lib.frozen_of_heap k4 0
      have f1 : w2.frozen? ⟨w.heap.size + 1, 1, none⟩ = false := Lib.frozen_of_heap k4 1
      clear hb2 hws c1 HK1 HB hz1 k4
      go_wp2_with fail
      refine bodyPost_ret (v := .tuple #[.agg #[.int .i64 0, .int .i64 0], .iface 77 (.int .i64 E)]) (by simp [results, Try.results7, go_sem, d0, d1]) rfl ⟨by rw [HV.out, HPE.out, HEr.out], ?_⟩
      exact (HB2.out.setCell (by show w.heap.size ≤ w.heap.size + 1; omega) _).setCell (by show w.heap.size ≤ w.heap.size + 1; omega) _
    · have hpe := rvErr_ents (p := p) he
      rw [hpe] at hr HEr
      rw [errV_some he] at h
      have HPE : Hid (rvErr D n (lE xs) p = entsErr D n (lE xs)) := hpe
      clear hB0 hM hE hP hr he hpe
      generalize entsErr D n (lE xs) = E at h HEr HPE
      generalize p.length = np
      generalize xs.length = N at h
      go_enter Try.func7, Try.ntmps7
      go_wp2_with fail
      refine h.mono ?_
      rintro e w2 ⟨rfl, hb2⟩
      have HB2 : Hid (Below w.heap.size w w2) := onB HB0.out hb2
      have k4 : w2.heap[w.heap.size + 1]? = some (.cells #[.int .i64 0, .int .i64 0] 34) := (hb2.block (w.heap.size + 1) (by rw [ownOC_size]; omega)).trans (ownOC_b ..)
      have d0 : w2.cell? ⟨w.heap.size + 1, 0, none⟩ = some (.int .i64 0) := by rw [Lib.cell_of_heap k4]; rfl
      have d1 : w2.cell? ⟨w.heap.size + 1, 1, none⟩ = some (.int .i64 0) := by rw [Lib.cell_of_heap k4]; rfl
      have f0 : w2.frozen? ⟨w.heap.size + 1, 0, none⟩ = false := Lib.frozen_of_heap k4 0
      have f1 : w2.frozen? ⟨w.heap.size + 1, 1, none⟩ = false := Lib.frozen_of_heap k4 1
      clear hb2 h k4
      go_wp2_with fail
      refine bodyPost_ret (v := .tuple #[.agg #[.int .i64 0, .int .i64 0], .iface 77 (.int .i64 E)]) (by simp [results, Try.results7, go_sem, d0, d1]) rfl ⟨by rw [HV.out, HPE.out, HEr.out], ?_⟩
      exact (HB2.out.setCell (by show w.heap.size ≤ w.heap.size + 1; omega) _).setCell (by show w.heap.size ≤ w.heap.size + 1; omega) _
end Go.Proofs.Ytmjcnlpjnbcfjad

namespace Go.Proofs.Ytmjcnlpjnbcfjad
open Go.ChangeShapes Go.WideShapes Go.ChangeAt Go.RowKit
set_option maxRecDepth 20000

/-- blocks laid one behind the other -/
def lays (w : World) : List Obj → World
  | [] => w
  | o :: r => lays (w.alloc o) r
theorem lays_size (w : World) (os : List Obj) : (lays w os).heap.size = w.heap.size + os.length := by
  induction os generalizing w with
  | nil => rfl
  | cons o r ih => rw [lays, ih, List.length_cons]; simp; omega
theorem lays_below (w : World) (os : List Obj) : Below w.heap.size w (lays w os) := by
  induction os generalizing w with
  | nil => exact Below.refl _ _
  | cons o r ih => exact onB (by go_grown) (ih (w.alloc o))
theorem lays_heap (w : World) (os : List Obj) (i : Nat) (h : i < os.length) : (lays w os).heap[w.heap.size + i]? = os[i]? := by
  induction os generalizing w i with
  | nil => cases h
  | cons o r ih =>
    have hz : (w.alloc o).heap.size = w.heap.size + 1 := by simp
    cases i with
    | zero =>
      rw [lays, (lays_below (w.alloc o) r).block _ (by rw [hz]; omega), Nat.add_zero, heap_alloc_new]
      rfl
    | succ i =>
      rw [lays, show w.heap.size + (i + 1) = (w.alloc o).heap.size + i by rw [hz]; omega, ih (w.alloc o) i (by simpa using h)]
      rfl
theorem lays_cell {w : World} {os : List Obj} (i j : Nat) {cs : Array Value} {T : Nat} (h : os[i]? = some (.cells cs T (0, 0))) : (lays w os).cell? ⟨w.heap.size + i, j, none⟩ = cs[j]? :=
  Lib.cell_of_heap ((lays_heap w os i (List.getElem?_eq_some_iff.1 h).1).trans h) j

def foM : Nat → Mem
  | 0 => ⟨⟨#[98]⟩, -1, 0, ⟨#[]⟩⟩
  | _ => ⟨⟨#[99]⟩, 0, 1, ⟨#[]⟩⟩
def foD (_ : Nat) : Dm := ⟨⟨#[97]⟩, 0, 2, foM⟩
theorem fo_ok : faErr foD 1 [⟨[1], 7⟩] [0] = 0 := by decide +kernel
theorem fo_val : faL foD 1 [⟨[1], 7⟩] [0] = [(1, 7), (1, 7)] := by decide +kernel
def foO (z : Nat) (A0 : Option Addr) (n cap : Nat) : List Obj := [.cells #[.slice A0 n cap] 24,
  .cells #[.string ⟨#[98]⟩, .int .i64 (-1), .int .i64 0, .string ⟨#[]⟩, .string ⟨#[99]⟩, .int .i64 0, .int .i64 1, .string ⟨#[]⟩] 29,
  .cells #[.string ⟨#[97]⟩, .int .i64 0, .slice (some ⟨z + 1, 0, none⟩) 2 2] 32,
  .cells #[.slice (some ⟨z + 2, 0, none⟩) 1 1] 24,
  .cells #[.int .i64 1] 3,
  .cells #[.slice (some ⟨z + 4, 0, none⟩) 1 1, .int .i64 7] 40,
  .cells #[.int .i64 0] 3]
def foW (w : World) (A0 : Option Addr) (n cap : Nat) : World := lays w (foO w.heap.size A0 n cap)
theorem foW_size (w : World) (A0 : Option Addr) (n cap : Nat) : (foW w A0 n cap).heap.size = w.heap.size + 7 := lays_size _ _
theorem foW_below (w : World) (A0 : Option Addr) (n cap : Nat) : Below w.heap.size w (foW w A0 n cap) := lays_below _ _
theorem foW_at (w : World) (A0 : Option Addr) (n cap : Nat) : (foW w A0 n cap).cell? ⟨w.heap.size, 0, none⟩ = some (.slice A0 n cap) := (lays_cell 0 0 (os := foO w.heap.size A0 n cap) rfl).trans rfl
theorem foW_dims (w : World) (A0 : Option Addr) (n cap : Nat) : DimsV (foW w A0 n cap) (some ⟨w.heap.size + 2, 0, none⟩) 1 1 foD (fun _ => some ⟨w.heap.size + 1, 0, none⟩) (fun _ => 2) := by
  refine ⟨Nat.le_refl _, Or.inr ⟨_, _, rfl, by rw [foW_size]; omega, fun i hi => ?_⟩⟩
  have hi' : i = 0 := by omega
  subst hi'
  refine ⟨(lays_cell 2 0 (os := foO w.heap.size A0 n cap) rfl).trans rfl, (lays_cell 2 1 (os := foO w.heap.size A0 n cap) rfl).trans rfl, (lays_cell 2 2 (os := foO w.heap.size A0 n cap) rfl).trans rfl, Nat.le_refl _, Or.inr ⟨_, _, rfl, by rw [foW_size]; omega, fun i hi => ?_⟩⟩
  have hi' : i = 0 ∨ i = 1 := by have : i < 2 := hi; omega
  rcases hi' with rfl | rfl
  · exact ⟨(lays_cell 1 0 (os := foO w.heap.size A0 n cap) rfl).trans rfl, (lays_cell 1 1 (os := foO w.heap.size A0 n cap) rfl).trans rfl, (lays_cell 1 2 (os := foO w.heap.size A0 n cap) rfl).trans rfl, (lays_cell 1 3 (os := foO w.heap.size A0 n cap) rfl).trans rfl⟩
  · exact ⟨(lays_cell 1 4 (os := foO w.heap.size A0 n cap) rfl).trans rfl, (lays_cell 1 5 (os := foO w.heap.size A0 n cap) rfl).trans rfl, (lays_cell 1 6 (os := foO w.heap.size A0 n cap) rfl).trans rfl, (lays_cell 1 7 (os := foO w.heap.size A0 n cap) rfl).trans rfl⟩
theorem foW_one (w : World) (A0 : Option Addr) (n cap : Nat) (i : Nat) (x : Int) (h : (foO w.heap.size A0 n cap)[i]? = some (.cells #[.int .i64 x] 3 (0, 0))) : PlAt (foW w A0 n cap) (some ⟨w.heap.size + i, 0, none⟩) 1 [x] := by
  have hi := (List.getElem?_eq_some_iff.1 h).1
  refine ⟨by simp, Or.inr ⟨_, _, rfl, by rw [foW_size]; have : i < 7 := hi; omega, fun j hj => ?_⟩⟩
  have hj' : j = 0 := by simp at hj; exact hj
  subst hj'
  exact (lays_cell i 0 h).trans rfl
def foX (z : Nat) : List EnL := [⟨⟨[1], 7⟩, some ⟨z + 4, 0, none⟩, 1⟩]
theorem foW_ens (w : World) (A0 : Option Addr) (n cap : Nat) : EnsV (foW w A0 n cap) (some ⟨w.heap.size + 5, 0, none⟩) 1 (foX w.heap.size) := by
  refine ⟨Nat.le_refl _, by decide, Or.inr ⟨_, _, rfl, by rw [foW_size]; omega, fun j u hj => ?_, fun x hx => ?_⟩⟩
  · rw [Nat.zero_add]
    refine (lays_cell 5 j (os := foO w.heap.size A0 n cap) rfl).trans ?_
    rw [← hj]
    simp [foX, cellsE]
  · simp only [foX, List.mem_cons, List.not_mem_nil, or_false] at hx
    rw [hx]
    exact foW_one w A0 n cap 4 1 rfl
theorem keepO2 {W w' : World} {b o : Nat} {v0 v1 : Value} (h : b < W.heap.size ∧ W.cell? ⟨b, o, none⟩ = some v0 ∧ W.cell? ⟨b, o + 1, none⟩ = some v1) (hB : Below W.heap.size W w') : Below W.heap.size W w' ∧ w'.cell? ⟨b, o, none⟩ = some v0 ∧ w'.cell? ⟨b, o + 1, none⟩ = some v1 :=
  ⟨hB, (hB.cell (p := ⟨b, o, none⟩) h.1).trans h.2.1, (hB.cell (p := ⟨b, o + 1, none⟩) h.1).trans h.2.2⟩
theorem fa_in {D : Nat → Dm} {n : Nat} {l : List En} {O : List Int} (h : faErr D n l O = 0) : entsErr D n l = 0 ∧ eachB n O = true := by
  by_cases h1 : entsErr D n l = 0
  · refine ⟨h1, ?_⟩
    cases h2 : eachB n O
    · rw [(fa1 h1 h2).1] at h; cases h
    · rfl
  · rw [(fa0 h1).1] at h; exact absurd h h1
theorem fa_roll {D : Nat → Dm} {n : Nat} {l : List En} {O : List Int} (h : faErr D n l O = 0) : faL D n l O = rollL D n l ∧ Ens D n l := by
  obtain ⟨h1, h2⟩ := fa_in h
  exact ⟨by rw [(fa2 h1 h2).2, fold_all (ens_of h1) h2], ens_of h1⟩

/-- an outline in a box, entries, two lists and a place -/
def CtxF (q : Nat) (A0 : Option Addr) (cap n : Nat) (D : Nat → Dm) (A : Nat → Option Addr) (C : Nat → Nat) (AE : Option Addr) (ce : Nat) (xs : List EnL) (AO : Option Addr) (cO : Nat) (O : List Int) (AK : Option Addr) (cK : Nat) (K : List Int) (Ap : Option Addr) (cp : Nat) (p : List Int) (w : World) : Prop :=
  q < w.heap.size ∧ w.cell? ⟨q, 0, none⟩ = some (.slice A0 n cap) ∧ DimsV w A0 cap n D A C ∧ EnsV w AE ce xs ∧ PlAt w AO cO O ∧ PlAt w AK cK K ∧ PlAt w Ap cp p
theorem CtxF.later {q : Nat} {A0 : Option Addr} {cap n : Nat} {D : Nat → Dm} {A : Nat → Option Addr} {C : Nat → Nat} {AE : Option Addr} {ce : Nat} {xs : List EnL} {AO : Option Addr} {cO : Nat} {O : List Int} {AK : Option Addr} {cK : Nat} {K : List Int} {Ap : Option Addr} {cp : Nat} {p : List Int} {w w' : World} (h : CtxF q A0 cap n D A C AE ce xs AO cO O AK cK K Ap cp p w) (hB : Below w.heap.size w w') : CtxF q A0 cap n D A C AE ce xs AO cO O AK cK K Ap cp p w' := by
  obtain ⟨h1, h2, h3, h4, h5, h6, h7⟩ := h
  exact ⟨Nat.lt_of_lt_of_le h1 hB.size, (hB.cell (p := ⟨q, 0, none⟩) h1).trans h2, h3.later hB, h4.later hB, h5.later hB, h6.later hB, h7.later hB⟩

set_option maxHeartbeats 32000000 in
theorem forders_law (A0 : Option Addr) (cap n : Nat) (D : Nat → Dm) (A : Nat → Option Addr) (C : Nat → Nat) (AE : Option Addr) (ce : Nat) (xs : List EnL) (AO : Option Addr) (cO : Nat) (O : List Int) (AK : Option Addr) (cK : Nat) (K : List Int) (Ap : Option Addr) (cp : Nat) (p : List Int) (w : World) (hM : DimsV w A0 cap n D A C) (hE : EnsV w AE ce xs) (hO : PlAt w AO cO O) (hK : PlAt w AK cK K) (hP : PlAt w Ap cp p) :
    Calls Try.prog 5 #[.agg #[.slice A0 n cap], .slice AE xs.length ce, .slice AO O.length cO, .slice AK K.length cK, .slice Ap p.length cp] w fun e w' => e = .returned (.bool true) ∧ Below w.heap.size w w' := by
  have hB0 := foW_below w A0 n cap
  have h1 := fall_any (some ⟨w.heap.size + 2, 0, none⟩) 1 1 foD (fun _ => some ⟨w.heap.size + 1, 0, none⟩) (fun _ => 2) (some ⟨w.heap.size + 5, 0, none⟩) 1 (foX w.heap.size) (some ⟨w.heap.size + 6, 0, none⟩) 1 [0] (foW w A0 n cap) (foW_dims ..) (foW_ens ..) (foW_one w A0 n cap 6 0 rfl)
  have e0 : lE (foX w.heap.size) = [⟨[1], 7⟩] := rfl
  rw [e0, fo_ok, fo_val, errV_zero] at h1
  have e1 : (foX w.heap.size).length = 1 := rfl
  rw [e1] at h1
  simp only [List.length_cons, List.length_nil, Nat.zero_add] at h1
  have HX0 : Hid (CtxF w.heap.size A0 cap n D A C AE ce xs AO cO O AK cK K Ap cp p (foW w A0 n cap)) := ⟨by rw [foW_size]; omega, foW_at .., hM.later hB0, hE.later hB0, hO.later hB0, hK.later hB0, hP.later hB0⟩
  have HB0 : Hid (Below w.heap.size w (foW w A0 n cap)) := hB0
  have H2 : Hid (∀ w', CtxF w.heap.size A0 cap n D A C AE ce xs AO cO O AK cK K Ap cp p w' → Calls Try.prog 15 #[.agg #[.slice A0 n cap], .slice AE xs.length ce, .slice AO O.length cO] w' fun e w'' => (∃ A' c', e = .returned (.tuple #[.slice A' (faL D n (lE xs) O).length c', errV (faErr D n (lE xs) O)]) ∧ CelV w'' A' c' (faL D n (lE xs) O)) ∧ Below w'.heap.size w' w'') := fun w' hX => fall_any A0 cap n D A C AE ce xs AO cO O w' hX.2.2.1 hX.2.2.2.1 hX.2.2.2.2.1
  have H3 : Hid (∀ w', CtxF w.heap.size A0 cap n D A C AE ce xs AO cO O AK cK K Ap cp p w' → Calls Try.prog 15 #[.agg #[.slice A0 n cap], .slice AE xs.length ce, .slice AK K.length cK] w' fun e w'' => (∃ A' c', e = .returned (.tuple #[.slice A' (faL D n (lE xs) K).length c', errV (faErr D n (lE xs) K)]) ∧ CelV w'' A' c' (faL D n (lE xs) K)) ∧ Below w'.heap.size w' w'') := fun w' hX => fall_any A0 cap n D A C AE ce xs AK cK K w' hX.2.2.1 hX.2.2.2.1 hX.2.2.2.2.2.1
  have H4 : Hid (∀ w', CtxF w.heap.size A0 cap n D A C AE ce xs AO cO O AK cK K Ap cp p w' → Calls Try.prog 17 #[.agg #[.slice A0 n cap], .slice Ap p.length cp] w' fun e w'' => e = .returned (.tuple #[.int .i64 (numV D n p), errV (placeErr D n p)]) ∧ Below w'.heap.size w' w'') := fun w' hX => pnumber_any A0 cap n D A C Ap cp p w' hX.2.2.1 hX.2.2.2.2.2.2
  have H5 : Hid (∀ w', CtxF w.heap.size A0 cap n D A C AE ce xs AO cO O AK cK K Ap cp p w' → Calls Try.prog 7 #[.agg #[.slice A0 n cap], .slice AE xs.length ce, .slice Ap p.length cp] w' fun e w'' => e = .returned (.tuple #[.agg #[.int .i64 (rvV D n (lE xs) p).1, .int .i64 (rvV D n (lE xs) p).2], errV (rvErr D n (lE xs) p)]) ∧ Below w'.heap.size w' w'') := fun w' hX => rval_any A0 cap n D A C AE ce xs Ap cp p w' hX.2.2.1 hX.2.2.2.1 hX.2.2.2.2.2.2
  have hof := fun w' => of_any 7 w'
  rw [show ofP 7 = (1, 7) from rfl] at hof
  have HOF : Hid (∀ w', Calls Try.prog 11 #[.int .i64 7] w' fun e w'' => e = .returned (.agg #[.int .i64 1, .int .i64 7]) ∧ Below w'.heap.size w' w'') := hof
  obtain ⟨nx, hnx⟩ : ∃ nx, xs.length = nx := ⟨_, rfl⟩
  obtain ⟨nO, hnO⟩ : ∃ nx, O.length = nx := ⟨_, rfl⟩
  obtain ⟨nK, hnK⟩ : ∃ nx, K.length = nx := ⟨_, rfl⟩
  obtain ⟨np, hnp⟩ : ∃ nx, p.length = nx := ⟨_, rfl⟩
  rw [hnx] at H2 H3 H5
  rw [hnO] at H2
  rw [hnK] at H3
  rw [hnp] at H4 H5
  rw [hnx, hnO, hnK, hnp]
  clear hM hE hO hK hP hB0 e0 e1 hof hnx hnO hnK hnp
  go_enter Try.func5, Try.ntmps5
  go_wp2_with fail
  refine h1.mono ?_
  rintro e w2 ⟨⟨AF, cF, rfl, hCF⟩, hb2⟩
  have HB2 : Hid (Below w.heap.size w w2) := onB HB0.out hb2
  have HX2 : Hid (CtxF w.heap.size A0 cap n D A C AE ce xs AO cO O AK cK K Ap cp p w2) := HX0.out.later hb2
  obtain ⟨hcF, -, h0 | ⟨bF, oF, rfl, hF⟩⟩ := hCF
  · cases h0
  obtain ⟨f1, f2⟩ := hF.2 0 (by decide)
  have HK : Hid (bF < w2.heap.size ∧ w2.cell? ⟨bF, oF, none⟩ = some (.int .i64 1) ∧ w2.cell? ⟨bF, oF + 1, none⟩ = some (.int .i64 7)) := ⟨hF.1, f1, f2⟩
  have hcF4 : 2 ≤ cF := hcF
  clear hb2 h1 hF hcF f1 f2 HX0 HB0
  go_wp2_with fail
  go_cut [49] (fun s49 wx => s49 = .bool false ∧ Below w2.heap.size w2 wx)
  case first => as_aux_lemma =>
    go_region_held3 (fun w' => Below w2.heap.size w2 w' ∧ w'.cell? ⟨bF, oF, none⟩ = some (.int .i64 1) ∧ w'.cell? ⟨bF, oF + 1, none⟩ = some (.int .i64 7))
      ((refine keepO2 HK.out ?_; go_grown; done))
      (first | (go_at_call 11; refine (HOF.out _).mono ?_; rintro e w3 ⟨rfl, hb3⟩; have hM3 := onB (W0 := w2) (by go_grown) hb3; have hy3 := hM3.size; clear hb3))
    all_goals go_wp2_with fail
    all_goals go_meet
    all_goals exact ⟨rfl, by go_grown⟩
  case rest => as_aux_lemma =>
  obtain ⟨rfl, hb⟩ := hcut
  obtain ⟨w3, rfl⟩ : ∃ w3 : World, w3 = wc := ⟨_, rfl⟩
  have HB3 : Hid (Below w.heap.size w w3) := onB HB2.out hb
  have HX3 : Hid (CtxF w.heap.size A0 cap n D A C AE ce xs AO cO O AK cK K Ap cp p w3) := HX2.out.later hb
  have c3 := HX3.out.2.1
  have h2 := H2.out w3 HX3.out
  clear hb HK HOF H2 HX2 HB2
  by_cases a1 : faErr D n (lE xs) O = 0
  case neg =>
    rw [errV_some a1] at h2
    generalize faErr D n (lE xs) O = E1 at h2
    have h3 := H3.out
    generalize errV (faErr D n (lE xs) K) = V2 at h3
    go_wp2_with fail
    refine h2.mono ?_
    rintro e w4 ⟨⟨A4, c4, rfl, -⟩, hb4⟩
    have HB4 : Hid (Below w.heap.size w w4) := onB HB3.out hb4
    have HX4 := HX3.out.later hb4
    have x4 := HX4.2.1
    have h4 := h3 w4 HX4
    clear hb4 h2 h3 HX4 c3
    go_wp2_with fail
    refine h4.mono ?_
    rintro e w5 ⟨⟨A5, c5, rfl, -⟩, hb5⟩
    have HB5 : Hid (Below w.heap.size w w5) := onB HB4.out hb5
    clear hb5 h4 x4
    go_wp2_with fail
    go_ret
    exact ⟨rfl, HB5.out⟩
  case pos =>
  obtain ⟨r1, hEs⟩ := fa_roll a1
  have hlen : (rollL D n (lE xs)).length = prodN D n := by simp [rollL]
  obtain ⟨-, -, hp3, -⟩ := allErr_some hEs.right
  rw [a1, errV_zero, r1, hlen] at h2
  have HEs : Hid (Ens D n (lE xs)) := hEs
  obtain ⟨PN, hPN⟩ : ∃ PN, prodN D n = PN := ⟨_, rfl⟩
  have HPN : Hid (prodN D n = PN) := hPN
  have HLen : Hid ((rollL D n (lE xs)).length = PN) := by show _ = _; rw [hlen, hPN]
  rw [hPN] at h2 hp3
  clear a1 r1 hEs hlen hPN
  by_cases a2 : faErr D n (lE xs) K = 0
  case neg =>
    have h3 := H3.out
    rw [errV_some a2] at h3
    generalize faErr D n (lE xs) K = E1 at h3
    go_wp2_with fail
    refine h2.mono ?_
    rintro e w4 ⟨⟨A4, c4, rfl, -⟩, hb4⟩
    have HB4 : Hid (Below w.heap.size w w4) := onB HB3.out hb4
    have HX4 := HX3.out.later hb4
    have x4 := HX4.2.1
    have h4 := h3 w4 HX4
    clear hb4 h2 h3 HX4 c3
    go_wp2_with fail
    refine h4.mono ?_
    rintro e w5 ⟨⟨A5, c5, rfl, -⟩, hb5⟩
    have HB5 : Hid (Below w.heap.size w w5) := onB HB4.out hb5
    clear hb5 h4 x4
    go_wp2_with fail
    go_ret
    exact ⟨rfl, HB5.out⟩
  case pos =>
  obtain ⟨r2, -⟩ := fa_roll a2
  have h3 := H3.out
  rw [a2, errV_zero, r2, HLen.out] at h3
  clear a2 r2 H3
  go_wp2_with fail
  refine h2.mono ?_
  rintro e w4 ⟨⟨A4, c4, rfl, hC4⟩, hb4⟩
  have HB4 : Hid (Below w.heap.size w w4) := onB HB3.out hb4
  have HX4 : Hid (CtxF w.heap.size A0 cap n D A C AE ce xs AO cO O AK cK K Ap cp p w4) := HX3.out.later hb4
  have HC4 : Hid (CelV w4 A4 c4 (rollL D n (lE xs))) := hC4
  have x4 := HX4.out.2.1
  have h4 := h3 w4 HX4.out
  clear hb4 h2 h3 c3 hC4 HX3 HB3
  go_wp2_with fail
  refine h4.mono ?_
  rintro e w5 ⟨⟨A5, c5, rfl, hC5⟩, hb5⟩
  have HB5 : Hid (Below w.heap.size w w5) := onB HB4.out hb5
  have HX5 : Hid (CtxF w.heap.size A0 cap n D A C AE ce xs AO cO O AK cK K Ap cp p w5) := HX4.out.later hb5
  have HC5 : Hid (CelV w5 A4 c4 (rollL D n (lE xs))) := HC4.out.later hb5
  have h5 := samecells_any A4 A5 c4 c5 (rollL D n (lE xs)) w5 (by rw [HLen.out]; exact hp3) HC5.out hC5
  rw [HLen.out] at h5
  clear hb5 h4 x4 hC5 HX4 HB4 HC4
  go_wp2_with fail
  refine h5.mono ?_
  rintro e w6 ⟨rfl, hb6⟩
  have HB6 : Hid (Below w.heap.size w w6) := onB HB5.out hb6
  have HX6 : Hid (CtxF w.heap.size A0 cap n D A C AE ce xs AO cO O AK cK K Ap cp p w6) := HX5.out.later hb6
  have HC6 : Hid (CelV w6 A4 c4 (rollL D n (lE xs))) := HC5.out.later hb6
  have x6 := HX6.out.2.1
  have h6 := H4.out w6 HX6.out
  have h7 := H5.out
  rw [rvErr_place HEs.out.ok] at h7
  clear hb6 h5 HX5 HB5 HC5 H4 H5
  by_cases a3 : placeErr D n p = 0
  case neg =>
    rw [errV_some a3] at h6 h7
    generalize placeErr D n p = E3 at h6 h7
    generalize numV D n p = NV at h6
    generalize (rvV D n (lE xs) p).1 = v1 at h7
    generalize (rvV D n (lE xs) p).2 = v2 at h7
    go_wp2_with fail
    refine h6.mono ?_
    rintro e w7 ⟨rfl, hb7⟩
    have HB7 : Hid (Below w.heap.size w w7) := onB HB6.out hb7
    have HX7 := HX6.out.later hb7
    have x7 := HX7.2.1
    have h8 := h7 w7 HX7
    clear hb7 h6 h7 HX7 x6
    go_wp2_with fail
    refine h8.mono ?_
    rintro e w8 ⟨rfl, hb8⟩
    have HB8 : Hid (Below w.heap.size w w8) := onB HB7.out hb8
    clear hb8 h8 x7
    go_wp2_with fail
    go_ret
    exact ⟨rfl, onB HB8.out (by go_grown)⟩
  case pos =>
  have hin := inO_of a3
  obtain ⟨q1, q2⟩ := rollL_at (l := lE xs) hin
  obtain ⟨q3, -, -⟩ := numI_bound hin (Nat.le_refl n)
  obtain ⟨X, hX⟩ : ∃ X : Nat, numI D p n = X := ⟨(numI D p n).toNat, by omega⟩
  have hnv : numV D n p = (X : Int) := by unfold numV; rw [if_pos a3, hX]
  have hrv : rvV D n (lE xs) p = rollV D n (lE xs) p := rvV_ok (by rw [rvErr_place HEs.out.ok]; exact a3)
  rw [hX, show ((X : Int)).toNat = X by omega, ← hrv] at q1
  rw [hX, show ((X : Int)).toNat = X by omega] at q2
  rw [a3, errV_zero, hnv] at h6
  rw [a3, errV_zero] at h7
  obtain ⟨⟨v1, v2⟩, hv⟩ : ∃ v : Int × Int, rvV D n (lE xs) p = v := ⟨_, rfl⟩
  rw [hv] at h7 q1
  simp only at h7
  have HQ1 : Hid ((rollL D n (lE xs)).getD X noC = (v1, v2)) := q1
  have hXN : X < PN := by have := HPN.out; omega
  have hXi : (X : Int) < (PN : Int) := by omega
  have hX0 : decide (0 ≤ (X : Int)) = true := decide_eq_true (by omega)
  have hX1 : decide ((X : Int) < (PN : Int)) = true := decide_eq_true hXi
  have hPN3 : (PN : Int) ≤ 3000 := by omega
  clear hin q1 q2 q3 hX hnv hrv hv a3
  go_wp2_with fail
  refine h6.mono ?_
  rintro e w7 ⟨rfl, hb7⟩
  have HB7 : Hid (Below w.heap.size w w7) := onB HB6.out hb7
  have HX7 := HX6.out.later hb7
  have HC7 : Hid (CelV w7 A4 c4 (rollL D n (lE xs))) := HC6.out.later hb7
  have x7 := HX7.2.1
  have h8 := h7 w7 HX7
  clear hb7 h6 h7 HX7 x6 HX6 HB6 HC6
  go_wp2_with fail
  refine h8.mono ?_
  rintro e w8 ⟨rfl, hb8⟩
  obtain ⟨y8, hy8⟩ : ∃ y, w8.alloc (.cells #[.int .i64 v1, .int .i64 v2] 34) = y := ⟨_, rfl⟩
  have hBy : Below w8.heap.size w8 y8 := by rw [← hy8]; go_grown
  have hB8 : Below w7.heap.size w7 y8 := onB hb8 hBy
  have HB8 : Hid (Below w.heap.size w y8) := onB HB7.out hB8
  obtain ⟨p0, p1, -, -⟩ := pair_at (show y8.heap[w8.heap.size]? = some (.cells #[.int .i64 v1, .int .i64 v2] 34 (0, 0)) from by rw [← hy8]; exact heap_alloc_new ..)
  obtain ⟨hc4, -, h0 | ⟨bX, oX, rfl, hCA⟩⟩ := HC7.out.later hB8
  · have := HLen.out; rw [h0] at this; simp at this; omega
  obtain ⟨k1, k2⟩ := hCA.2 X (by rw [HLen.out]; exact hXN)
  rw [HQ1.out] at k1 k2
  rw [HLen.out] at hc4
  simp only at k1 k2
  clear hb8 h8 x7 hBy hB8 HC7 hCA
  go_wp2_with fail
  clear hy8
  first | (go_quiet (fail); go_wp2_with fail) | skip
  go_ret
  exact ⟨by simp, by first | exact HB8.out | exact below_drewN HB8.out _⟩
end Go.Proofs.Ytmjcnlpjnbcfjad

namespace Go.Proofs.Ytmjcnlpjnbcfjad
open Go Go.ChangeShapes Go.WideShapes Go.ChangeAt Go.RowKit Go.Deep
set_option maxRecDepth 100000

theorem open_list {H : Type} {enc : TypeId × Value → H} {w : World} {held : Bool} {r : Reach} {b0 : Nat} {v : Value} {d : DataW H} {p : List MemPlace} (hv : Value.okWide Try.prog w r b0 26 v) (h : DataW.Trod enc Try.prog w 0 (fun _ => true) held 26 v d p) :
    ∃ (Ap : Option Addr) (cp : Nat) (L : List Int), v = .slice Ap L.length cp ∧ PlAt w Ap cp L := by
  obtain ⟨a, len, cap, rfl⟩ := okWide_slice Try.underlying26 hv
  obtain ⟨fuel, hf⟩ := h
  have hf' : DataW.trod enc Try.prog w 0 (fun _ => true) held fuel 26 [.slice a len cap] = some (d, p) := hf
  rcases open_ints Try.underlying26 Try.underlying3 (by kernel_rfl) hf' with ⟨e, _⟩ | ⟨a', len', cap', zs, e, _, hl, _, hzl, _, hc, _⟩
  · simp at e
    obtain ⟨rfl, rfl, rfl⟩ := e
    exact ⟨none, 0, [], rfl, PlAt.nil _ _ _⟩
  · simp at e hzl
    obtain ⟨rfl, rfl, rfl⟩ := e
    have hlen : (zs.take len).length = len := by simp; omega
    refine ⟨some a', cap, zs.take len, by rw [hlen], by rw [hlen]; exact hl, ?_⟩
    rcases Nat.eq_zero_or_pos len with h0 | h0
    · left
      subst h0
      simp
    right
    have c0 := hc 0 (by omega)
    have hp := addr_plain c0 rfl
    have hb := World.block_lt_of_cell? _ _ c0
    refine ⟨a'.block, a'.off, by rw [← hp], by simpa [Addr.add] using hb, fun j hj => ?_⟩
    rw [hlen] at hj
    have := hc j (by omega)
    rw [hp, plain_add] at this
    rw [this]
    simp [List.getD, hj]
end Go.Proofs.Ytmjcnlpjnbcfjad

namespace Go.Proofs.Ytmjcnlpjnbcfjad
open Go Go.ChangeShapes Go.WideShapes Go.ChangeAt Go.RowKit

theorem post_below {H : Type} {enc : TypeId × Value → H} {P : Program} {f : Func} {s : ChangeSpec} {apart fresh handsOn : Bool} {W W' : World} {args : Array Value} {v : Value} {ds gs : List (DataW H)} {before pa pv : List MemPlace}
    (hW : DataW.Whole enc P f.params.toList s.vars apart W args.toList ds gs before)
    (hres : ∀ (b : Nat) (sp : Nat → Bool) (hd : Bool), DataW.TrodAll enc P W' b sp hd f.resultTypes.toList (v.resultList f.resultTypes.size) (s.fn H (ds ++ gs)).results [])
    (hargs : ∀ sp : Nat → Bool, (∀ p ∈ before, sp p.block = true) → DataW.TrodAll enc P W' 0 sp true f.params.toList args.toList (s.fn H (ds ++ gs)).args pa)
    (hvars : ∀ sp : Nat → Bool, (∀ p ∈ before, sp p.block = true) → DataW.TrodVars enc P W' sp s.vars (s.fn H (ds ++ gs)).vars pv)
    (hps : before = pa ++ pv) (hk : W.keptBut W' (· ∈ before)) :
    s.post enc P f apart fresh handsOn false W args v W' := by
  have hold : ∀ p ∈ before, (fun b => decide (b < W.heap.size)) p.block = true := fun p hp => by simpa using hW.lt p hp
  refine ⟨ds, gs, before, [], pa, pv, hW, hres _ _ _, hargs _ hold, hvars _ hold, World.keptBut_mono (fun p hp => ⟨hp, ?_⟩) hk, fun h => by cases h⟩
  rw [hps, List.mem_append] at hp
  exact Or.inr hp
end Go.Proofs.Ytmjcnlpjnbcfjad
