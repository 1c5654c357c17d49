/-
  Where a name is among names that rise: what slices.BinarySearch over strings and the closure of reckon.Value answer, called in whatever memory.
-/
import Derived.Test.YtklfenojapgmnaeDoorRk1
namespace Go.Proofs.YtklfenojapgmnaeDoor
open Go.ChangeShapes Go.WideShapes Go.ChangeAt Go.RowKit
set_option maxRecDepth 20000

theorem first_false (p : Nat → Bool) : ∀ n, p n = false → ∃ k, k ≤ n ∧ p k = false ∧ ∀ t, t < k → p t = true := by
  intro n
  induction n with
  | zero => intro h; exact ⟨0, Nat.le_refl _, h, fun t ht => absurd ht (Nat.not_lt_zero _)⟩
  | succ n ih =>
    intro h
    by_cases e : ∃ j, j ≤ n ∧ p j = false
    · obtain ⟨j, hj, h1⟩ := e
      clear ih
      have hw : ∀ m j, j ≤ m → p j = false → ∃ k, k ≤ j ∧ p k = false ∧ ∀ t, t < k → p t = true := by
        intro m
        induction m with
        | zero => intro j hj h1; exact ⟨j, Nat.le_refl _, h1, fun t ht => by omega⟩
        | succ m ih =>
          intro j hj h1
          by_cases e2 : ∃ i, i < j ∧ p i = false
          · obtain ⟨i, hi, h2⟩ := e2
            obtain ⟨k, h3, h4, h5⟩ := ih i (by omega) h2
            exact ⟨k, by omega, h4, h5⟩
          · refine ⟨j, Nat.le_refl _, h1, fun t ht => ?_⟩
            cases hp : p t
            · exact absurd ⟨t, ht, hp⟩ e2
            · rfl
      obtain ⟨k, h2, h3, h4⟩ := hw j j (Nat.le_refl _) h1
      exact ⟨k, by omega, h3, h4⟩
    · refine ⟨n + 1, Nat.le_refl _, h, fun t ht => ?_⟩
      cases hp : p t
      · exact absurd ⟨t, by omega, hp⟩ e
      · rfl
theorem not_less (x : ByteArray) : Op.bytesLess x.toList x.toList = false := by
  rw [bytesLess_eq]
  exact decide_eq_false (List.lt_irrefl _)
/-- of names that rise the search tells where one is -/
theorem bs_where {N : List ByteArray} (hr : ∀ j, 1 ≤ j → j < N.length → downS N j = false) (x : ByteArray) (S : Nat → ByteArray) (hS : S = fun j => if j < N.length then N.getD j noS else x) :
    (decide (Lib.bsGo (fun t => Op.bytesLess (S t).toList x.toList) N.length 0 N.length < N.length ∧ S (Lib.bsGo (fun t => Op.bytesLess (S t).toList x.toList) N.length 0 N.length) = x) = decide (0 ≤ whereS N x)) ∧
    (0 ≤ whereS N x → (Lib.bsGo (fun t => Op.bytesLess (S t).toList x.toList) N.length 0 N.length : Int) = whereS N x) := by
  have hup := rise_all hr
  have s1 : ∀ j, j < N.length → S j = N.getD j noS := fun j hj => by rw [hS]; exact if_pos hj
  have s2 : ∀ j, N.length ≤ j → S j = x := fun j hj => by rw [hS]; exact if_neg (by omega)
  obtain ⟨k, hk, h1, h2⟩ := first_false (fun t => Op.bytesLess (S t).toList x.toList) N.length (by show Op.bytesLess (S N.length).toList x.toList = false; rw [s2 _ (Nat.le_refl _)]; exact not_less x)
  have h1' : Op.bytesLess (S k).toList x.toList = false := h1
  have h2' : ∀ t, t < k → Op.bytesLess (S t).toList x.toList = true := h2
  have h3 : ∀ t, k ≤ t → Op.bytesLess (S t).toList x.toList = false := by
    intro t ht
    by_cases e : N.length ≤ t
    · rw [s2 t e]; exact not_less x
    · by_cases e2 : t = k
      · rw [e2]; exact h1'
      · rw [s1 t (by omega), bytesLess_eq]
        rw [s1 k (by omega), bytesLess_eq] at h1'
        refine decide_eq_false fun h => of_decide_eq_false h1' (List.lt_trans (hup k t (by omega) (by omega)) h)
  have hbs : Lib.bsGo (fun t => Op.bytesLess (S t).toList x.toList) N.length 0 N.length = k := Lib.bsGo_spec _ k h2 h3 _ _ _ (by omega) (Nat.zero_le _) hk
  rw [hbs]
  rcases where_cases N x with ⟨hw, hn⟩ | ⟨i, hw, hi, he⟩
  · refine ⟨?_, fun h => by omega⟩
    rw [hw, decide_eq_false (show ¬ (0 : Int) ≤ -1 by omega)]
    refine decide_eq_false fun h => ?_
    rw [s1 k h.1] at h
    exact hn k h.1 h.2
  · have hki : k = i := by
      have hle : k ≤ i := by
        apply Nat.le_of_not_lt
        intro h
        have := h2' i h
        rw [s1 i hi, he, not_less] at this
        cases this
      by_cases e : k = i
      · exact e
      · have hlt := hup k i (by omega) hi
        rw [s1 k (by omega), bytesLess_eq] at h1'
        rw [he] at hlt
        exact absurd hlt (of_decide_eq_false h1')
    subst hki
    refine ⟨?_, fun _ => hw.symm⟩
    rw [hw, decide_eq_true (show (0 : Int) ≤ (k : Int) by omega)]
    exact decide_eq_true ⟨hi, by rw [s1 k hi]; exact he⟩
theorem bsearch_any (An : Option Addr) (cn : Nat) (N : List ByteArray) (x : ByteArray) (w : World) (hN : NmV w An cn N) (hr : ∀ j, 1 ≤ j → j < N.length → downS N j = false) :
    Calls Tryd.prog 26 #[.slice An N.length cn, .string x] w fun e w' => (∃ i : Nat, e = .returned (.tuple #[.int .i64 i, .bool (decide (0 ≤ whereS N x))]) ∧ (0 ≤ whereS N x → (i : Int) = whereS N x)) ∧ Below w.heap.size w w' := by
  obtain ⟨h1, h2, h3, h4 | ⟨b, o, rfl, h5, h6⟩⟩ := hN
  · subst h4
    refine (Any2.slices_BinarySearch_string_empty Tryd.lays26 An cn x w).mono ?_
    rintro e w' ⟨rfl, rfl⟩
    exact ⟨⟨0, rfl, fun h => absurd h (by show ¬ (0 : Int) ≤ whereS [] x; unfold whereS; show ¬ (0 : Int) ≤ -1; omega)⟩, Below.refl _ _⟩
  · obtain ⟨e1, e2⟩ := bs_where hr x (fun j => if j < N.length then N.getD j noS else x) rfl
    refine (Any2.slices_BinarySearch_string Tryd.lays26 b o N.length cn (fun j => if j < N.length then N.getD j noS else x) x w h2 (fun j hj => by simp only [if_pos hj]; exact h6 j hj)).mono ?_
    rintro e w' ⟨rfl, q, rfl⟩
    exact ⟨⟨_, by rw [e1], e2⟩, below_drewN (Below.refl _ _) _⟩

/-- what a name is -/
def isC (N : List ByteArray) (C : List (Int × Int)) (x : ByteArray) : Int × Int := if 0 ≤ whereS N x then C.getD (whereS N x).toNat noC else noC
def isE (N : List ByteArray) (x : ByteArray) : Int := if 0 ≤ whereS N x then 0 else 5

set_option maxHeartbeats 1000000 in
theorem value1_any (q r : Nat) (An : Option Addr) (cn : Nat) (N : List ByteArray) (Ac : Option Addr) (cc : Nat) (C : List (Int × Int)) (x : ByteArray) (w : World) (hq : w.cell? ⟨q, 0, none⟩ = some (.slice An N.length cn)) (hrr : w.cell? ⟨r, 0, none⟩ = some (.slice Ac C.length cc)) (hN : NmV w An cn N) (hC : CelV w Ac cc C) (hck : ckErr N C = 0) :
    Calls Tryd.prog 25 #[.string x, .pointer (some ⟨q, 0, none⟩), .pointer (some ⟨r, 0, none⟩)] w fun e w' => e = .returned (.tuple #[.agg #[.int .i64 (isC N C x).1, .int .i64 (isC N C x).2], errV (isE N x)]) ∧ Below w.heap.size w w' := by
  obtain ⟨hlen, -, hr⟩ := ck_right hck
  have hbs := fun w' (hb : Below w.heap.size w w') => bsearch_any An cn N x w' (hN.later hb) hr
  have hrl := World.block_lt_of_cell? _ _ hrr
  have hql := World.block_lt_of_cell? _ _ hq
  simp only at hrl hql
  by_cases h0 : 0 ≤ whereS N x
  · rw [decide_eq_true h0] at hbs
    obtain ⟨i, hi, hil, -⟩ : ∃ i : Nat, whereS N x = (i : Int) ∧ i < N.length ∧ N.getD i noS = x := by
      rcases where_cases N x with ⟨hw, -⟩ | h
      · omega
      · exact h
    obtain ⟨-, -, hC3⟩ := hC
    obtain ⟨b, o, rfl, hCA⟩ := hC3.resolve_left (fun e => by rw [e] at hlen; simp at hlen; omega)
    obtain ⟨c, hc⟩ : ∃ c, C.getD i noC = c := ⟨_, rfl⟩
    have hic : isC N C x = c := by unfold isC; rw [if_pos h0, hi]; exact hc
    have hie : isE N x = 0 := by unfold isE; rw [if_pos h0]
    have HC : Hid (CelAt w b o C) := hCA
    have HI : Hid (∀ j : Nat, (0 ≤ whereS N x → (j : Int) = whereS N x) → j = i) := fun j hj => by have := hj h0; omega
    have HCc : Hid (C.getD i noC = c) := hc
    have hil' : (i : Int) < (C.length : Int) := by omega
    rw [hic, hie, errV_zero]
    obtain ⟨m, hm⟩ : ∃ m, C.length = m := ⟨_, rfl⟩
    have HM : Hid (C.length = m) := hm
    rw [hm] at hrr hil'
    clear hck hN hr hi hic hie hC3 hCA h0 hc hm hil hlen
    go_enter Tryd.func25, Tryd.ntmps25
    go_wp2_with fail
    refine (hbs _ (by go_grown)).mono ?_
    rintro e w1 ⟨⟨j, rfl, hj⟩, hb⟩
    have hji := HI.out j hj
    subst hji
    obtain ⟨hbc, hbf⟩ := bcell hb
    have hz := bsize hb
    simp at hz
    have hb1 : Below w.heap.size w w1 := onB (by go_grown) hb
    clear hb
    obtain ⟨c0, c1⟩ := HC.out.2 j (by rw [HM.out]; omega)
    rw [HCc.out] at c0 c1
    have HB1 : Hid (Below w.heap.size w w1) := hb1
    have hbl : b < w.heap.size := HC.out.1
    clear hb1 hbs hq hj
    go_wp2_with fail
    refine bodyPost_ret (v := .tuple #[.agg #[.int .i64 c.1, .int .i64 c.2], .nilIface]) (by simp [results, Tryd.results25, go_sem, hbc]) rfl ⟨rfl, ?_⟩
    exact ((HB1.out.setCell (Nat.le_refl _) _).setCell (Nat.le_refl _) _)
  · rw [decide_eq_false h0] at hbs
    have hic : isC N C x = noC := by unfold isC; rw [if_neg h0]
    have hie : isE N x = 5 := by unfold isE; rw [if_neg h0]
    rw [hic, hie, errV_some (by decide)]
    unfold noC
    clear hck hN hr hic hie hC hlen
    go_enter Tryd.func25, Tryd.ntmps25
    go_wp2_with fail
    refine (hbs _ (by go_grown)).mono ?_
    rintro e w1 ⟨⟨j, rfl, hj⟩, hb⟩
    obtain ⟨hbc, hbf⟩ := bcell hb
    have hz := bsize hb
    simp at hz
    have hb1 : Below w.heap.size w w1 := onB (by go_grown) hb
    have HB1 : Hid (Below w.heap.size w w1) := hb1
    clear hb hb1 hbs hq hj h0
    go_wp2_with fail
    refine bodyPost_ret (v := .tuple #[.agg #[.int .i64 0, .int .i64 0], .iface 58 (.int .i64 5)]) (by simp [results, Tryd.results25, go_sem, hbc]) rfl ⟨rfl, ?_⟩
    first | exact HB1.out | exact ((HB1.out.setCell (Nat.le_refl _) _).setCell (Nat.le_refl _) _)
end Go.Proofs.YtklfenojapgmnaeDoor
