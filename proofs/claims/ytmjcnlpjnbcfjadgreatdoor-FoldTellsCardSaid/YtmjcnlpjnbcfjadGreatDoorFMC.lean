/-
  Small facts on two numbers that lie in a block (a cell of the program in a variable), on worlds that grew, and on Of a number that may be told.
  What the document's own answers for cells (tallyref1: Cell, Of, Plus, Times, Over) come to: the same pure functions as the program's.
  The document's own sum, difference, product and quotient of cells that are right (tallyref1: Plus, Times, Over) come to the same as the program's.
  A place with another member, what is written, and whether an order names each dim once, as the document reckons them: what its With, Written and Each answer, called in whatever memory.
  Cells folded by a dim, as the document reckons it: what its Parts, Each and Fold answer, called in whatever memory.
-/
import Derived.Test.YtmjcnlpjnbcfjadGreatDoorCells5
import Derived.Deep.RegionHeld3
import Derived.Deep.DeepCutAuto
import Derived.Deep.RegionWith
import Derived.Deep.QuietTactic
import Derived.BigQuiet
import Derived.Test.YtmjcnlpjnbcfjadGreatDoorFMA
import Derived.Test.YtmjcnlpjnbcfjadGreatDoorFMB
import Derived.Test.YtmjcnlpjnbcfjadGreatDoorFMT
import Derived.Test.YtmjcnlpjnbcfjadGreatDoorOwn1
import Derived.Test.YtmjcnlpjnbcfjadGreatDoorParts1
import Derived.Deep.RegionLaw
namespace Go.Proofs.YtmjcnlpjnbcfjadGreatDoor
open Go.ChangeShapes Go.WideShapes Go.ChangeAt Go.RowKit

def At (s : Nat) (k n : Int) (w : World) : Prop := s < w.heap.size ∧ w.cell? ⟨s, 0, none⟩ = some (.int .i64 k) ∧ w.cell? ⟨s, 1, none⟩ = some (.int .i64 n)
theorem At.later {s : Nat} {k n : Int} {w w' : World} (h : At s k n w) (hb : Below w.heap.size w w') : At s k n w' :=
  ⟨Nat.lt_of_lt_of_le h.1 hb.size, (hb.cell (p := ⟨s, 0, none⟩) h.1).trans h.2.1, (hb.cell (p := ⟨s, 1, none⟩) h.1).trans h.2.2⟩
theorem At.new (k n : Int) (w : World) (T : Nat) : At w.heap.size k n (w.alloc (.cells #[.int .i64 k, .int .i64 n] T)) := ⟨by simp, by simp, by simp⟩
theorem At.set {s : Nat} {k n : Int} {w : World} {u v : Value} (hs : s < w.heap.size) (h0 : w.cell? ⟨s, 0, none⟩ = some u) (h1 : w.cell? ⟨s, 1, none⟩ = some v) : At s k n ((w.setCell ⟨s, 0, none⟩ (.int .i64 k)).setCell ⟨s, 1, none⟩ (.int .i64 n)) := by
  refine ⟨by simpa using hs, ?_, ?_⟩ <;> simp [go_sem, h0, h1]
theorem Below.next {W0 W w4 : World} (h : Below W0.heap.size W0 W) (hb : Below W.heap.size W w4) : Below W0.heap.size W0 w4 := h.trans (hb.mono h.size)
theorem held_of {s : Nat} {k n : Int} {W0 w' : World} (h : At s k n W0) (hB : Below W0.heap.size W0 w') : Below W0.heap.size W0 w' ∧ w'.cell? ⟨s, 0, none⟩ = some (.int .i64 k) ∧ w'.cell? ⟨s, 1, none⟩ = some (.int .i64 n) := ⟨hB, (h.later hB).2⟩

theorem held_of2 {s t : Nat} {k n k' n' : Int} {W0 w' : World} (h : At s k n W0) (h' : At t k' n' W0) (hB : Below W0.heap.size W0 w') : Below W0.heap.size W0 w' ∧ w'.cell? ⟨s, 0, none⟩ = some (.int .i64 k) ∧ w'.cell? ⟨s, 1, none⟩ = some (.int .i64 n) ∧ w'.cell? ⟨t, 0, none⟩ = some (.int .i64 k') ∧ w'.cell? ⟨t, 1, none⟩ = some (.int .i64 n') := ⟨hB, (h.later hB).2.1, (h.later hB).2.2, (h'.later hB).2⟩

theorem of_in {n : Int} (h1 : -1000000000000 ≤ n) (h2 : n ≤ 1000000000000) (w : World) : Calls Tryz.prog 24 #[.int .i64 n] w fun e w' => e = .returned (.agg #[.int .i64 1, .int .i64 n]) ∧ Below w.heap.size w w' := by
  have h := of_any n w
  rw [ofP_in h1 h2] at h
  exact h

end Go.Proofs.YtmjcnlpjnbcfjadGreatDoor

namespace Go.Proofs.YtmjcnlpjnbcfjadGreatDoor
open Go.ChangeShapes Go.WideShapes Go.ChangeAt Go.RowKit

theorem rof_any (n : Int) (w : World) : Calls Tryz.prog 44 #[.int .i64 n] w fun e w' => e = .returned (.agg #[.int .i64 (ofP n).1, .int .i64 (ofP n).2]) ∧ Below w.heap.size w w' := by
  by_cases h1 : n < -1000000000000
  · rw [ofP_out (by omega)]
    go_enter Tryz.func44, Tryz.ntmps44
    go_wp2
    go_returns
    exact ⟨rfl, by go_grown⟩
  · by_cases h2 : 1000000000000 < n
    · rw [ofP_out (by omega)]
      go_enter Tryz.func44, Tryz.ntmps44
      go_wp2
      go_returns
      exact ⟨rfl, by go_grown⟩
    · rw [ofP_in (by omega) (by omega)]
      go_enter Tryz.func44, Tryz.ntmps44
      go_wp2
      go_returns
      exact ⟨rfl, by go_grown⟩

theorem rcell_no (k n : Int) (w : World) (h : good k n = false) : Calls Tryz.prog 14 #[.agg #[.int .i64 k, .int .i64 n]] w fun e w' => e = .returned (.int .i64 1) ∧ Below w.heap.size w w' := by
  have h' : ¬ ((k = 1 ∧ -1000000000000 ≤ n ∧ n ≤ 1000000000000) ∨ ((k = 0 ∨ k = 2) ∧ n = 0)) := by simpa [good] using h
  by_cases h1 : k < 0
  · clear h'
    go_enter Tryz.func14, Tryz.ntmps14
    go_wp2
    go_ret
    exact ⟨rfl, by go_grown⟩
  · by_cases h2 : 2 < k
    · clear h'
      go_enter Tryz.func14, Tryz.ntmps14
      go_wp2
      go_ret
      exact ⟨rfl, by go_grown⟩
    · by_cases h3 : n < -1000000000000
      · clear h'
        go_enter Tryz.func14, Tryz.ntmps14
        go_wp2
        go_ret
        exact ⟨rfl, by go_grown⟩
      · by_cases h4 : 1000000000000 < n
        · clear h'
          go_enter Tryz.func14, Tryz.ntmps14
          go_wp2
          go_ret
          exact ⟨rfl, by go_grown⟩
        · have h5 : (k != 1) = true := by simp; omega
          have h6 : (n != 0) = true := by simp; omega
          clear h' h
          go_enter Tryz.func14, Tryz.ntmps14
          go_wp2
          go_ret
          exact ⟨rfl, by go_grown⟩
theorem rcell_yes (k n : Int) (w : World) (h : good k n = true) : Calls Tryz.prog 14 #[.agg #[.int .i64 k, .int .i64 n]] w fun e w' => e = .returned (.int .i64 0) ∧ Below w.heap.size w w' := by
  have h' : (k = 1 ∧ -1000000000000 ≤ n ∧ n ≤ 1000000000000) ∨ ((k = 0 ∨ k = 2) ∧ n = 0) := by simpa [good] using h
  clear h
  rcases h' with ⟨rfl, h1, h2⟩ | ⟨rfl | rfl, rfl⟩
  all_goals
    go_enter Tryz.func14, Tryz.ntmps14
    go_wp2
    go_ret
    exact ⟨rfl, by go_grown⟩

end Go.Proofs.YtmjcnlpjnbcfjadGreatDoor

namespace Go.Proofs.YtmjcnlpjnbcfjadGreatDoor
open Go.ChangeShapes Go.WideShapes Go.ChangeAt Go.RowKit

def RefTo (f : Nat) (args : Array Value) (r : Int × Int) : Prop := ∀ (w : World), Calls Tryz.prog f args w fun e w' => e = .returned (.agg #[.int .i64 r.1, .int .i64 r.2]) ∧ Below w.heap.size w w'

theorem bool2 {k : Int} (h : ¬ k = 2) : (k == 2) = false := by simpa using h
theorem bool0 {k : Int} (h : ¬ k = 0) : (k == 0) = false := by simpa using h

theorem rplus_made (ka na kb nb sg r : Int) (w : World) (q1 : (ka == 2) = false) (q2 : (kb == 2) = false) (q3 : ((ka == 0) && (kb == 0)) = false) (hm : wrap64 (na + wrap64 (sg * nb)) = r) :
    Calls Tryz.prog 27 #[.agg #[.int .i64 ka, .int .i64 na], .agg #[.int .i64 kb, .int .i64 nb], .int .i64 sg] w fun e w' => e = .returned (.agg #[.int .i64 (ofP r).1, .int .i64 (ofP r).2]) ∧ Below w.heap.size w w' := by
  subst hm
  have HR := rof_any (wrap64 (na + wrap64 (sg * nb)))
  cases q4 : (ka == 0)
  all_goals
    rw [q4] at q3
    try simp only [Bool.true_and, Bool.false_and] at q3
    go_enter Tryz.func27, Tryz.ntmps27
    go_wp2_with fail
    refine (HR _).mono ?_
    rintro e w1 ⟨rfl, hb⟩
    have hB : Below w.heap.size w w1 := Below.trans (by go_grown) (hb.mono (by simp; omega))
    obtain ⟨hc, hf⟩ := bcell hb
    have hz := bsize hb
    simp at hz
    go_wp2_with fail
    refine bodyPost_ret (v := .agg #[.int .i64 (ofP (wrap64 (na + wrap64 (sg * nb)))).1, .int .i64 (ofP (wrap64 (na + wrap64 (sg * nb)))).2]) (by simp [results, Tryz.results27, go_sem, hc]) rfl ⟨rfl, ?_⟩
    go_grown

theorem rplus_fault (ka na kb nb sg : Int) (w : World) (h : ka = 2 ∨ kb = 2) : Calls Tryz.prog 27 #[.agg #[.int .i64 ka, .int .i64 na], .agg #[.int .i64 kb, .int .i64 nb], .int .i64 sg] w fun e w' => e = .returned (.agg #[.int .i64 2, .int .i64 0]) ∧ Below w.heap.size w w' := by
  by_cases h1 : ka = 2
  · subst h1
    clear h
    go_enter Tryz.func27, Tryz.ntmps27
    go_wp2
    go_returns
    exact ⟨rfl, by go_grown⟩
  · have q1 := bool2 h1
    have h2 : kb = 2 := by omega
    subst h2
    clear h h1
    go_enter Tryz.func27, Tryz.ntmps27
    go_wp2
    go_returns
    exact ⟨rfl, by go_grown⟩

theorem rplus_blank (na nb sg : Int) (w : World) : Calls Tryz.prog 27 #[.agg #[.int .i64 0, .int .i64 na], .agg #[.int .i64 0, .int .i64 nb], .int .i64 sg] w fun e w' => e = .returned (.agg #[.int .i64 0, .int .i64 0]) ∧ Below w.heap.size w w' := by
  go_enter Tryz.func27, Tryz.ntmps27
  go_wp2
  go_returns
  exact ⟨rfl, by go_grown⟩

theorem rplus_any (ka na kb nb sg r : Int) (hr : wrap64 (na + wrap64 (sg * nb)) = r) : RefTo 27 #[.agg #[.int .i64 ka, .int .i64 na], .agg #[.int .i64 kb, .int .i64 nb], .int .i64 sg] (joinP (!(ka != 0 || kb != 0)) ka kb (ofP r)) := by
  intro w
  unfold joinP
  by_cases h2 : ka = 2 ∨ kb = 2
  · rw [if_pos h2]
    exact rplus_fault ka na kb nb sg w h2
  · rw [if_neg h2]
    by_cases h0 : ka = 0 ∧ kb = 0
    · obtain ⟨rfl, rfl⟩ := h0
      exact rplus_blank na nb sg w
    · rw [if_neg (by simp; omega)]
      exact rplus_made ka na kb nb sg r w (bool2 (by omega)) (bool2 (by omega)) (by simp; omega) hr
theorem rplus_plus (ka na kb nb : Int) (ha : good ka na = true) (hb : good kb nb = true) : RefTo 27 #[.agg #[.int .i64 ka, .int .i64 na], .agg #[.int .i64 kb, .int .i64 nb], .int .i64 1] (plusP ka na kb nb) := by
  obtain ⟨a1, a2⟩ := good_bd ha
  obtain ⟨b1, b2⟩ := good_bd hb
  exact rplus_any ka na kb nb 1 (na + nb) (by unfold wrap64; omega)
theorem rplus_minus (ka na kb nb : Int) (ha : good ka na = true) (hb : good kb nb = true) : RefTo 27 #[.agg #[.int .i64 ka, .int .i64 na], .agg #[.int .i64 kb, .int .i64 nb], .int .i64 (-1)] (minusP ka na kb nb) := by
  obtain ⟨a1, a2⟩ := good_bd ha
  obtain ⟨b1, b2⟩ := good_bd hb
  exact rplus_any ka na kb nb (-1) (na - nb) (by unfold wrap64; omega)

end Go.Proofs.YtmjcnlpjnbcfjadGreatDoor

namespace Go.Proofs.YtmjcnlpjnbcfjadGreatDoor
open Go Go.ChangeShapes Go.WideShapes Go.ChangeAt Go.RowKit
set_option maxRecDepth 20000

set_option maxHeartbeats 4000000 in
theorem rwith_any (Ap : Option Addr) (cp : Nat) (p : List Int) (dim : Nat) (x : Int) (w : World) (hd : dim < p.length) (h4 : p.length ≤ 4) (hP : PlAt w Ap cp p) :
    Calls Tryz.prog 29 #[.slice Ap p.length cp, .int .i64 dim, .int .i64 x] w fun e w' => (∃ A' c', e = .returned (.slice A' p.length c') ∧ PlAt w' A' c' (p.set dim x)) ∧ Below w.heap.size w w' := by
  obtain ⟨i0, hi0, hz0, hz1, hz2⟩ := info_parts Tryz.infoIntP
  obtain ⟨hcp, h0 | ⟨b, o, rfl, hb, hcell⟩⟩ := hP
  · rw [h0] at hd; simp at hd
  have HC : Hid (∀ j u, (p.map (Value.int .i64))[j]? = some u → w.cell? ((⟨b, o, none⟩ : Addr).add j) = some u) := by
    intro j u hj
    have hlt : j < p.length := by have := (List.getElem?_eq_some_iff.1 hj).1; simpa using this
    rw [plain_add, hcell j hlt]
    simp only [List.getElem?_map, List.getElem?_eq_getElem hlt, Option.map_some, Option.some.injEq] at hj
    rw [← hj, List.getD_eq_getElem?_getD, List.getElem?_eq_getElem hlt]
    rfl
  obtain ⟨N, hN⟩ : ∃ N, p.length = N := ⟨_, rfl⟩
  have HN : Hid (p.length = N) := hN
  rw [hN] at hd h4 hcp ⊢
  have hdi : (dim : Int) < (N : Int) := by omega
  have h4' : (N : Int) ≤ 4 := by omega
  clear hcell hN
  go_enter Tryz.func29, Tryz.ntmps29
  go_wp2_with (at_builtin; refine wpList_append_own _ rfl _ _ 46 rfl w.heap.size 3 i0 (.int .i64 0) 1 8 Tryz.underlying46 hi0 hz0 hz1 hz2 rfl (by decide) _ _ _ rfl (World.ownsRow_nil w w.heap.size 3 1) ⟨b, o, none⟩ N cp (p.map (Value.int .i64)) rfl ?qc1 ?qc2 ?qc3 ?qc4 ?qc5 ?qc6 ?_)
  case qc1 => simp [HN.out]
  case qc2 => exact HC.out
  case qc3 => intro u hu; simp at hu; obtain ⟨y, -, rfl⟩ := hu; rfl
  case qc4 => simp only [maxLen]; omega
  case qc5 => omega
  case qc6 => exact Nat.le_refl _
  intro v' w1 hown hgrow hnil
  have hown1 : w1.ownsRow w.heap.size 3 1 v' N (p.map (Value.int .i64)) := by simpa using hown
  have HB : Hid (Below w.heap.size w w1) := (Below.refl _ w).grown hgrow (Nat.le_refl _) (by intro k hk; cases hk)
  rcases hown1.2 with ⟨h1, h2⟩ | ⟨g, cap, cur, rfl, hbg, hg, hc, hm, hs, ht⟩
  · omega
  have HT : Hid (cur.toList.take (N * 1) = p.map (Value.int .i64) ∧ cur.size = cap * 1 ∧ w1.heap[g]? = some (.cells cur 3 (0, 0)) ∧ w.heap.size ≤ g) := ⟨ht, hs, hg, hbg⟩
  have cg : w1.cell? ⟨g, dim, none⟩ = some (.int .i64 (p.getD dim 0)) := by
    have := hown1.cells (g := g) rfl dim (.int .i64 (p.getD dim 0)) (by simp [List.getD, HN.out, hd])
    rw [plain_add, Nat.zero_add] at this
    exact this
  have fg : w1.frozen? ⟨g, dim, none⟩ = false := Lib.frozen_of_heap hg dim
  have hcap : N ≤ cap := hc
  generalize p.getD dim 0 = old at cg
  clear hown hown1 hgrow hnil hg hbg hs ht
  go_wp2_with fail
  go_ret
  obtain ⟨h1, h2, h3, h5⟩ := HT.out
  refine ⟨⟨_, cap, rfl, by rw [List.length_set, HN.out]; exact hcap, Or.inr ⟨g, 0, rfl, by simp [World.setCell]; exact (Array.getElem?_eq_some_iff.1 h3).1, fun j hj => ?_⟩⟩, HB.out.setCell (by show w.heap.size ≤ g; exact h5) _⟩
  rw [List.length_set, HN.out] at hj
  have hk : (w1.setCell ⟨g, dim, none⟩ (.int .i64 x)).heap[g]? = some (.cells (cur.setIfInBounds dim (.int .i64 x)) 3 (0, 0)) := by simp [World.setCell, Array.getElem?_modify, h3]
  rw [Nat.zero_add, Lib.cell_of_heap hk]
  have hcj : ∀ i, i < N → cur[i]? = some (.int .i64 (p.getD i 0)) := fun i hi => by
    have := congrArg (fun l => l[i]?) h1
    simp only [List.getElem?_take, show i < N * 1 by omega, if_true, Array.getElem?_toList] at this
    rw [this]
    simp [List.getD, HN.out, hi]
  by_cases e : j = dim
  · subst e
    have hz := (Array.getElem?_eq_some_iff.1 (hcj j hj)).1
    rw [Array.getElem?_setIfInBounds_self_of_lt hz]
    simp [List.getD, HN.out, hj]
  · rw [Array.getElem?_setIfInBounds_ne (fun h => e h.symm), hcj j hj]
    simp [List.getD, List.getElem?_set_ne (fun h => e h.symm)]

/-- what is written, place by place -/
def rwL (D : Nat → Dm) (n : Nat) (l : List En) (m : Nat) : List (Int × Int) := (List.range m).map fun x => getE l (placeL D n x)
theorem rwL_len (D : Nat → Dm) (n : Nat) (l : List En) (m : Nat) : (rwL D n l m).length = m := by simp [rwL]
theorem rwL_step (D : Nat → Dm) (n : Nat) (l : List En) (m : Nat) : rwL D n l (m + 1) = rwL D n l m ++ [getE l (placeL D n m)] := by simp [rwL, List.range_succ]
theorem wr_none {D : Nat → Dm} {n x : Nat} : ∀ (l : List En) (L : List (Int × Int)), (∀ e ∈ l, InO D n e.pl) → L.length = prodN D n → (∀ e ∈ l, (numI D e.pl n).toNat ≠ x) → (l.foldl (wrStep D n) L).getD x (0, 0) = L.getD x (0, 0)
  | [], _, _, _, _ => rfl
  | e :: r, L, hi, hL, h => by
    obtain ⟨h1, h2, -⟩ := numI_bound (hi e (List.mem_cons_self ..)) (Nat.le_refl n)
    rw [List.foldl_cons, wr_none r _ (fun y hy => hi y (List.mem_cons_of_mem _ hy)) (by unfold wrStep; rw [List.length_set]; exact hL) fun y hy => h y (List.mem_cons_of_mem _ hy)]
    unfold wrStep
    have := h e (List.mem_cons_self ..)
    simp [List.getD, List.getElem?_set_ne this]
theorem wr_some {D : Nat → Dm} {n : Nat} {e : En} : ∀ (l : List En) (L : List (Int × Int)), (∀ y ∈ l, InO D n y.pl) → (l.Pairwise fun a b => lessL a.pl b.pl = true) → L.length = prodN D n → e ∈ l → (l.foldl (wrStep D n) L).getD (numI D e.pl n).toNat (0, 0) = (1, e.n)
  | [], _, _, _, _, h => by cases h
  | y :: r, L, hi, hr, hL, h => by
    have hr' := List.pairwise_cons.1 hr
    have hiy := hi y (List.mem_cons_self ..)
    have hir := fun z hz => hi z (List.mem_cons_of_mem y hz)
    obtain ⟨h1, h2, -⟩ := numI_bound hiy (Nat.le_refl n)
    rw [List.foldl_cons]
    have hL' : (wrStep D n L y).length = prodN D n := by unfold wrStep; rw [List.length_set]; exact hL
    rcases List.mem_cons.1 h with rfl | h
    · rw [wr_none r _ hir hL' fun z hz => by
        have h3 := less_num hiy (hir z hz) (hr'.1 z hz)
        obtain ⟨h4, -, -⟩ := numI_bound (hir z hz) (Nat.le_refl n)
        omega]
      unfold wrStep
      have : (numI D e.pl n).toNat < L.length := by omega
      simp [List.getD, this]
    · exact wr_some r _ hir hr'.2 hL' h
theorem wr_rwL {D : Nat → Dm} {n : Nat} {l : List En} (h : Ens D n l) : wrV D n l = rwL D n l (prodN D n) := by
  apply List.ext_getElem (by rw [wrV_len, rwL_len])
  intro x h1 h2
  rw [wrV_len] at h1
  have e1 : (wrV D n l).getD x (0, 0) = getE l (placeL D n x) := by
    unfold wrV
    by_cases hx : ∃ e, e ∈ l ∧ (numI D e.pl n).toNat = x
    · obtain ⟨e, he, hn⟩ := hx
      have h3 := wr_some l (List.replicate (prodN D n) (0, 0)) (fun y hy => (h.each y hy).1) h.rise (by simp) he
      rw [hn] at h3
      rw [h3, ← hn, place_num (h.each e he).1, get_mem h.rise he]
    · rw [wr_none l _ (fun y hy => (h.each y hy).1) (by simp) fun e he hn => hx ⟨e, he, hn⟩]
      rw [(get_none h.rise fun e he e2 => hx ⟨e, he, by rw [e2, num_place h.right h1]; omega⟩).1]
      simp [List.getD, h1]
  have h3 : x < (wrV D n l).length := by rw [wrV_len]; exact h1
  rw [List.getD_eq_getElem?_getD, List.getElem?_eq_getElem h3] at e1
  simp only [Option.getD_some] at e1
  rw [e1]
  simp [rwL]

set_option maxHeartbeats 8000000 in
theorem rwritten_any (A0 : Option Addr) (cap n : Nat) (D : Nat → Dm) (A : Nat → Option Addr) (C : Nat → Nat) (AE : Option Addr) (ce : Nat) (xs : List EnL) (w : World) (hEs : Ens D n (lE xs)) (hM : DimsV w A0 cap n D A C) (hE : EnsV w AE ce xs) :
    Calls Tryz.prog 5 #[.agg #[.slice A0 n cap], .slice AE xs.length ce] w fun e w' => (∃ A' c', e = .returned (.slice A' (wrV D n (lE xs)).length c') ∧ CelV w' A' c' (wrV D n (lE xs))) ∧ Below w.heap.size w w' := by
  obtain ⟨i0, hi0, hz0, hz1, hz2⟩ := info_parts Tryz.infoCe
  have hR := hEs.right
  obtain ⟨hn1, hn4, hp3, hd⟩ := allErr_some hR
  have hPos : 1 ≤ prodN D n := prodN_pos fun j hj => (hd j hj).1
  have HR : Hid ((allErr D n).2.2 = 0) := hR
  have HEs : Hid (Ens D n (lE xs)) := hEs
  have HM : Hid (DimsV w A0 cap n D A C) := hM
  have HE : Hid (EnsV w AE ce xs) := hE
  have hfew : xs.length ≤ 3000 := by have := hEs.few; rw [lE_len] at this; exact this
  have HSh : Hid (∀ x, Short xs (placeL D n x)) := fun x => ⟨fun k hk => by
    have hmem : (xs.getD k noL).e ∈ lE xs := List.mem_map.2 ⟨_, enl_mem hk, rfl⟩
    rw [(hEs.each _ hmem).1.len]; exact hn4, by rw [placeL_len]; exact hn4⟩
  have hB0 := ownOut_below w A0 n cap 24
  obtain ⟨W, hW⟩ : ∃ W, w.alloc (.cells #[.slice A0 n cap] 24) = W := ⟨_, rfl⟩
  have hWo : ownOut w A0 n cap 24 = W := hW
  rw [hWo] at hB0
  have HBW : Hid (BoxN W w.heap.size (.slice A0 n cap)) := ⟨by rw [← hWo, ownOut_size]; omega, by rw [← hWo]; exact ownOut_at ..⟩
  have HB0 : Hid (Below w.heap.size w W) := hB0
  have hsz : Calls Tryz.prog 13 #[.agg #[.slice A0 n cap]] W fun e w' => e = .returned (.int .i64 (prodN D n)) ∧ Below W.heap.size W w' := by
    obtain ⟨-, h0 | ⟨b, o, rfl, hMs⟩⟩ := hM.later hB0
    · omega
    · exact osize_any b o n cap D A C W hn4 (fun j hj => (hd j hj).2) hMs
  have HFin : Hid (wrV D n (lE xs) = rwL D n (lE xs) (prodN D n)) := wr_rwL hEs
  obtain ⟨PN, hPN⟩ : ∃ PN, prodN D n = PN := ⟨_, rfl⟩
  have HPN : Hid (prodN D n = PN) := hPN
  rw [hPN] at hsz hp3 hPos HFin
  have hp3' : (PN : Int) ≤ 3000 := by omega
  obtain ⟨NX, hNX⟩ : ∃ NX, xs.length = NX := ⟨_, rfl⟩
  have HNX : Hid (xs.length = NX) := hNX
  rw [hNX]
  have cW := HBW.out.2
  clear hM hE hR hd hB0 hWo hPN hEs hNX
  go_enter Tryz.func5, Tryz.ntmps5
  go_wp2_with fail
  clear hW
  refine hsz.mono ?_
  rintro e w1 ⟨rfl, hb1⟩
  have HB1 : Hid (Below w.heap.size w w1) := onB HB0.out hb1
  have HBo : Hid (BoxN w1 w.heap.size (.slice A0 n cap)) := HBW.out.later hb1
  clear hb1 hsz cW
  go_wp2_with fail
  go_loopg [5, 7] PN (fun g s5 s7 wr => ∃ (k : Nat), k ≤ PN ∧ g = PN - k ∧ s7 = .int .i64 k ∧ wr.ownsRow w1.heap.size 42 2 s5 k (cellsC (rwL D n (lE xs) k)) ∧ Below w1.heap.size w1 wr)
  case atStart => exact ⟨0, Nat.zero_le _, rfl, rfl, World.ownsRow_nil _ _ _ _, Below.refl _ _⟩
  case round =>
    obtain ⟨k, hk, rfl, rfl, hown, hBw⟩ := hrel
    have HBw : Hid (Below w1.heap.size w1 wr) := hBw
    have HOw : Hid (wr.ownsRow w1.heap.size 42 2 u5 k (cellsC (rwL D n (lE xs) k))) := hown
    have HBr : Hid (Below w.heap.size w wr) := onB HB1.out hBw
    have cr := (HBo.out.later hBw).2
    by_cases hlt : k < PN
    · have hki : (k : Int) < (PN : Int) := by omega
      have hat := rat_any A0 cap n D A C k wr HR.out (by rw [HPN.out]; exact hlt) (HM.out.later HBr.out)
      have HSt : Hid (rwL D n (lE xs) (k + 1) = rwL D n (lE xs) k ++ [getE (lE xs) (placeL D n k)]) := rwL_step ..
      have HIn : Hid (∀ w' Aq cq, Below wr.heap.size wr w' → PlAt w' Aq cq (placeL D n k) → Calls Tryz.prog 19 #[.slice AE NX ce, .slice Aq (placeL D n k).length cq] w' fun e w'' => e = .returned (.agg #[.int .i64 (getE (lE xs) (placeL D n k)).1, .int .i64 (getE (lE xs) (placeL D n k)).2]) ∧ Below w'.heap.size w' w'') := fun w' Aq cq hw' hq => by
        have h := rinput_any AE ce xs Aq cq (placeL D n k) w' (by rw [HNX.out] at hfew ⊢; exact hfew) (HE.out.later (onB HBr.out hw')) (HSh.out k) hq
        rw [HNX.out] at h
        exact h
      generalize placeL D n k = q at hat HSt HIn
      generalize getE (lE xs) q = gv at HSt HIn
      obtain ⟨gk, gn⟩ := gv
      simp only at HIn
      obtain ⟨nq, hnq⟩ : ∃ nq, q.length = nq := ⟨_, rfl⟩
      rw [hnq] at hat HIn
      clear hown hBw hnq
      go_wp2_with fail
      refine hat.mono ?_
      rintro e w2 ⟨⟨Aq, cq, rfl, hq⟩, hb2⟩
      have HB2 : Hid (Below wr.heap.size wr w2) := hb2
      have hin := HIn.out w2 Aq cq hb2 hq
      clear hb2 hq hat cr HIn
      go_wp2_with fail
      refine hin.mono ?_
      rintro e w3 ⟨rfl, hb3⟩
      obtain ⟨y3, hy3⟩ : ∃ y, w3.alloc (.cells #[.int .i64 gk, .int .i64 gn] 42) = y := ⟨_, rfl⟩
      have hBy : Below w3.heap.size w3 y3 := by rw [← hy3]; go_grown
      have HB3 : Hid (Below wr.heap.size wr y3) := onB (onB HB2.out hb3) hBy
      obtain ⟨p0, p1, -, -⟩ := pair_at (show y3.heap[w3.heap.size]? = some (.cells #[.int .i64 gk, .int .i64 gn] 42 (0, 0)) from by rw [← hy3]; exact heap_alloc_new ..)
      have HO3 : Hid (y3.ownsRow w1.heap.size 42 2 u5 k (cellsC (rwL D n (lE xs) k))) := own_later HOw.out HB3.out
      have HB13 : Hid (Below w1.heap.size w1 y3) := onB HBw.out HB3.out
      have hsz3 := HB13.out.size
      clear hb3 hBy hin
      go_wp2_with (at_builtin; refine wpList_append_own _ rfl _ _ 26 rfl w1.heap.size 42 i0 (.agg #[.int .i64 0, .int .i64 0]) 2 16 Tryz.underlying26 hi0 hz0 hz1 hz2 rfl (by decide) _ _ _ rfl (HO3.out.alloc _) ⟨y3.heap.size, 0, none⟩ 1 1 [.int .i64 gk, .int .i64 gn] rfl rfl ?qe2 ?qe3 ?qe4 ?qe5 ?qe6 ?_)
      case qe2 =>
        intro j u hj
        rw [plain_add, Lib.cell_of_heap (heap_alloc_new y3 (.cells #[.int .i64 gk, .int .i64 gn] 42))]
        simpa using hj
      case qe3 => intro u hu; simp at hu; rcases hu with rfl | rfl <;> rfl
      case qe4 => simp only [maxLen]; omega
      case qe5 => omega
      case qe6 => simp; omega
      intro v' w4 hown' hgrow hnil
      have HB4 : Hid (Below w1.heap.size w1 w4) := grown_own HB13.out HO3.out hgrow
      have HO4 : Hid (w4.ownsRow w1.heap.size 42 2 v' (k + 1) (cellsC (rwL D n (lE xs) (k + 1)))) := by
        show World.ownsRow ..
        rw [HSt.out, cellsC_append]
        exact hown'
      clear hown' hgrow hnil p0 p1 hy3
      go_wp2_with fail
      go_roundg (PN - (k + 1))
      case measure => omega
      case rel => exact ⟨k + 1, by omega, rfl, by go_num, HO4.out, HB4.out⟩
    · have hke : k = PN := by omega
      subst hke
      clear hown hBw cr
      go_wp2_with fail
      go_ret
      have hl : (rwL D n (lE xs) k).length = k := rwL_len ..
      obtain ⟨g, c, h1, -, h2, h3, h4⟩ := celB_own (L := rwL D n (lE xs) k) (by rw [hl]; exact HOw.out) (by omega)
      rw [HFin.out]
      refine ⟨⟨some ⟨g, 0, none⟩, c, ?_, h2, h3, Or.inr ⟨g, 0, rfl, h4.celAt⟩⟩, HBr.out⟩
      rw [← h1]
      rfl
end Go.Proofs.YtmjcnlpjnbcfjadGreatDoor

namespace Go.Proofs.YtmjcnlpjnbcfjadGreatDoor
open Go Go.ChangeShapes Go.WideShapes Go.ChangeAt Go.RowKit
set_option maxRecDepth 20000

set_option maxHeartbeats 2000000 in
theorem rparts_new (d : Dm) (b o cap : Nat) (i : Int) (w : World) (hn : d.n ≤ 12) (hM : MemsAt w b o d.n d.mem) : Calls Tryz.prog 26 #[.agg #[.string d.name, .int .i64 d.solve, .slice (some ⟨b, o, none⟩) d.n cap], .int .i64 i] w fun e w' => (∃ A c, e = .returned (.slice A (partsOf d.mem d.n i).length c) ∧ IntsAt w' A c (partsOf d.mem d.n i) ∧ ∀ b o, A = some ⟨b, o, none⟩ → w.heap.size ≤ b) ∧ Below w.heap.size w w' := by
  obtain ⟨i0, hi0, hz0, hz1, hz2⟩ := info_parts Tryz.infoInt
  have hS := ownDim_size w d (some ⟨b, o, none⟩) cap 62
  have hB0 := ownDim_below w d (some ⟨b, o, none⟩) cap 62
  have hA := (ownDim_at w d (some ⟨b, o, none⟩) cap 62).2.2
  obtain ⟨W, hW⟩ : ∃ W, W = ownDim w d (some ⟨b, o, none⟩) cap 62 := ⟨_, rfl⟩
  rw [← hW] at hS hB0 hA
  have HW : Hid (W = ownDim w d (some ⟨b, o, none⟩) cap 62) := hW
  have HB0 : Hid (Below w.heap.size w W) := hB0
  have HM : Hid (MemsAt W b o d.n d.mem) := hM.later hB0
  have HA : Hid (W.cell? ⟨w.heap.size, 2, none⟩ = some (.slice (some ⟨b, o, none⟩) d.n cap)) := hA
  have hsz : w.heap.size < W.heap.size := by omega
  have hn' : (d.n : Int) ≤ 12 := by omega
  obtain ⟨p, hp⟩ : ∃ p : Nat → Bool, p = partB d.mem i := ⟨_, rfl⟩
  have HP : Hid (p = partB d.mem i) := hp
  unfold partsOf
  rw [← hp]
  clear hM hW hB0 hA hS hp
  go_enter Tryz.func26, Tryz.ntmps26
  go_wp2_with fail
  go_loopg [5, 6] d.n (fun g s5 s6 wr => ∃ (k : Nat), k ≤ d.n ∧ g = d.n - k ∧ s6 = .int .i64 k ∧ wr.ownsRow W.heap.size 3 1 s5 (selTo p k).length (mapI (selTo p k)) ∧ Below W.heap.size W wr)
  case atStart => exact ⟨0, Nat.zero_le _, rfl, rfl, World.ownsRow_nil _ _ _ _, by rw [HW.out]; exact Below.refl _ _⟩
  case round =>
    obtain ⟨k, hk, rfl, rfl, hown, hBw⟩ := hrel
    have HWr : Hid (Below W.heap.size W wr) := hBw
    have HO : Hid (wr.ownsRow W.heap.size 3 1 _ (selTo p k).length (mapI (selTo p k))) := hown
    have c2 : wr.cell? ⟨w.heap.size, 2, none⟩ = some (.slice (some ⟨b, o, none⟩) d.n cap) := (hBw.cell (p := ⟨w.heap.size, 2, none⟩) hsz).trans HA.out
    have hszr := hBw.size
    by_cases hlt : k < d.n
    · have hki : (k : Int) < (d.n : Int) := by omega
      obtain ⟨-, h1, -, -⟩ := (HM.out.later hBw).2 k hlt
      have hlen := selTo_len p k
      have hpk : p k = ((d.mem k).parent == i) := by rw [HP.out]; rfl
      clear hBw
      cases hb : p k
      · have HK : Hid (p k = false) := hb
        rw [hb] at hpk
        have hpe : ((d.mem k).parent == i) = false := hpk.symm
        clear hb hpk hown
        go_wp2_with fail
        go_roundg (d.n - (k + 1))
        case measure => omega
        case rel => exact ⟨k + 1, by omega, rfl, by go_num, by rw [selTo_miss HK.out]; exact HO.out, HWr.out⟩
      · have HK : Hid (p k = true) := hb
        rw [hb] at hpk
        have hpe : ((d.mem k).parent == i) = true := hpk.symm
        clear hb hpk
        go_wp2_with (at_builtin; refine wpList_append_own _ rfl _ _ 27 rfl W.heap.size 3 i0 (.int .i64 0) 1 8 Tryz.underlying27 hi0 hz0 hz1 hz2 rfl (by decide) _ _ _ rfl (hown.alloc _) ⟨wr.heap.size, 0, none⟩ 1 1 [.int .i64 k] rfl rfl one_cell one_one (by unfold maxLen; omega) (by omega) (by simp; omega) ?_)
        intro v' w2 hown' hgrow _
        have HB2 : Hid (Below W.heap.size W w2) := grown_own HWr.out hown hgrow
        have HO2 : Hid (w2.ownsRow W.heap.size 3 1 v' (selTo p (k + 1)).length (mapI (selTo p (k + 1)))) := by
          show World.ownsRow ..
          rw [selTo_hit HK.out, mapI_snoc, List.length_append]; exact hown'
        clear hown' hgrow hown c2
        go_wp2_with fail
        go_roundg (d.n - (k + 1))
        case measure => omega
        case rel => exact ⟨k + 1, by omega, rfl, by go_num, HO2.out, HB2.out⟩
    · have hke : k = d.n := by omega
      subst hke
      clear hBw hown
      go_wp2_with fail
      go_ret
      obtain ⟨A, c, h1, h2, h3⟩ := ints_new HO.out
      exact ⟨⟨A, c, by rw [← h1]; rfl, h2, fun b o e => Nat.le_trans HB0.out.size (h3 b o e)⟩, onB HB0.out HWr.out⟩

/-- what the document asks of an order -/
theorem each_bad {n : Nat} {O : List Int} {i : Nat} (hi : i < O.length) (h : O.getD i 0 < 0 ∨ (n : Int) ≤ O.getD i 0) : eachB n O = false := by
  cases he : eachB n O
  · rfl
  · have hm : O.getD i 0 ∈ O := by rw [List.getD_eq_getElem?_getD, List.getElem?_eq_getElem hi]; exact List.getElem_mem hi
    obtain ⟨j, hj, hjn⟩ := (each_in he).2 _ hm
    omega
theorem each_twice {n : Nat} {O : List Int} {i k : Nat} (hi : i < O.length) (hk : k < i) (h : O.getD k 0 = O.getD i 0) : eachB n O = false := by
  cases he : eachB n O
  · rfl
  · have hn : O.Nodup := (each_perm he).nodup_iff.2 (rangeI_nodup n)
    have h1 : O[k]'(by omega) = O[i] := by
      simpa [List.getD, hi, show k < O.length by omega] using h
    have := (List.getElem_inj (h₀ := by omega) (h₁ := hi) hn).1 h1
    omega
theorem each_good {n : Nat} {O : List Int} (hl : O.length = n) (h : ∀ i, i < n → (0 ≤ O.getD i 0 ∧ O.getD i 0 < (n : Int)) ∧ ∀ k, k < i → O.getD k 0 ≠ O.getD i 0) : eachB n O = true := by
  have hget : ∀ i (hi : i < O.length), O.getD i 0 = O[i] := fun i hi => by simp [List.getD, hi]
  have hn : O.Nodup := by
    rw [List.nodup_iff_pairwise_ne, List.pairwise_iff_getElem]
    intro k i hk hi hki e
    exact (h i (by omega)).2 k hki (by rw [hget k hk, hget i hi]; exact e)
  have hp := pig O (rangeI n) hn (fun x hx => ?_) (by rw [hl]; simp [rangeI])
  · unfold eachB
    rw [decide_eq_true hl, Bool.true_and]
    refine decide_eq_true (find_none_of _ _ fun j _ hj => ?_)
    unfold missB inB
    have : (j : Int) ∈ O := hp.mem_iff.1 (by simp only [rangeI, List.mem_map, List.mem_range]; exact ⟨j, by omega, rfl⟩)
    simp [this]
  · obtain ⟨i, hi, rfl⟩ := List.getElem_of_mem hx
    have h1 := (h i (by omega)).1
    rw [hget i hi] at h1
    simp only [rangeI, List.mem_map, List.mem_range]
    exact ⟨O[i].toNat, by omega, by omega⟩

set_option maxHeartbeats 4000000 in
theorem reach_any (A0 : Option Addr) (cap n : Nat) (AO : Option Addr) (cO : Nat) (O : List Int) (w : World) (hn : n ≤ 4) (hO : PlAt w AO cO O) : Calls Tryz.prog 9 #[.agg #[.slice A0 n cap], .slice AO O.length cO] w fun e w' => e = .returned (.bool (eachB n O)) ∧ Below w.heap.size w w' := by
  have hn' : (n : Int) ≤ 4 := by omega
  have hB0 := ownOut_below w A0 n cap 24
  have HB0 : Hid (Below w.heap.size w (ownOut w A0 n cap 24)) := hB0
  by_cases hl : O.length = n
  · have HL : Hid (O.length = n) := hl
    have hne : ((n : Int) != (n : Int)) = false := by simp
    obtain ⟨W, hW⟩ : ∃ W, w.alloc (.cells #[.slice A0 n cap] 24) = W := ⟨_, rfl⟩
    have hWo : ownOut w A0 n cap 24 = W := hW
    rw [hWo] at hB0 HB0
    have HO : Hid (PlAt W AO cO O) := hO.later hB0
    have cW : W.cell? ⟨w.heap.size, 0, none⟩ = some (.slice A0 n cap) := by rw [← hWo]; exact ownOut_at ..
    rw [hl]
    clear hO hl hB0 hWo
    go_enter Tryz.func9, Tryz.ntmps9
    go_wp2_with fail
    clear hW cW
    go_loopg [5] n (fun g s5 wr => ∃ (i : Nat), i ≤ n ∧ g = n - i ∧ s5 = .int .i64 i ∧ Hid (∀ j, j < i → (0 ≤ O.getD j 0 ∧ O.getD j 0 < (n : Int)) ∧ ∀ k, k < j → O.getD k 0 ≠ O.getD j 0) ∧ Below W.heap.size W wr)
    case atStart => exact ⟨0, Nat.zero_le _, rfl, rfl, (fun j hj => absurd hj (Nat.not_lt_zero j) : ∀ j, j < 0 → _), Below.refl _ _⟩
    case round =>
      obtain ⟨i, hi, rfl, rfl, HG, hBw⟩ := hrel
      have HBw : Hid (Below W.heap.size W wr) := hBw
      by_cases hlt : i < n
      · have hii : (i : Int) < (n : Int) := by omega
        have hiO : i < O.length := by rw [HL.out]; exact hlt
        obtain ⟨hcO, h0 | ⟨bo, oo, rfl, hbo, hcell⟩⟩ := HO.out.later hBw
        · rw [h0] at hiO; simp at hiO
        rw [HL.out] at hcO hcell
        have ci := hcell i hlt
        have HCell : Hid (bo < wr.heap.size ∧ ∀ j, j < n → wr.cell? ⟨bo, oo + j, none⟩ = some (.int .i64 (O.getD j 0))) := ⟨hbo, hcell⟩
        obtain ⟨x, hx⟩ : ∃ x, O.getD i 0 = x := ⟨_, rfl⟩
        have HX : Hid (O.getD i 0 = x) := hx
        rw [hx] at ci
        clear hcell hBw hx
        by_cases h1 : x < 0
        · have HR : Hid (eachB n O = false) := each_bad hiO (Or.inl (by rw [HX.out]; exact h1))
          have t1 : decide (x < 0) = true := decide_eq_true h1
          go_wp2_with fail
          first | (go_quiet (fail); go_wp2_with fail) | skip
          go_ret
          exact ⟨by rw [HR.out]; rfl, by first | exact onB HB0.out HBw.out | exact below_drewN (onB HB0.out HBw.out) _⟩
        by_cases h2 : (n : Int) ≤ x
        · have HR : Hid (eachB n O = false) := each_bad hiO (Or.inr (by rw [HX.out]; exact h2))
          have t1 : decide (x < 0) = false := decide_eq_false h1
          have t2 : decide ((n : Int) ≤ x) = true := decide_eq_true h2
          go_wp2_with fail
          first | (go_quiet (fail); go_wp2_with fail) | skip
          go_ret
          exact ⟨by rw [HR.out]; rfl, by first | exact onB HB0.out HBw.out | exact below_drewN (onB HB0.out HBw.out) _⟩
        have t1 : decide (x < 0) = false := decide_eq_false h1
        have t2 : decide ((n : Int) ≤ x) = false := decide_eq_false h2
        have HRg : Hid (0 ≤ x ∧ x < (n : Int)) := ⟨by omega, by omega⟩
        obtain ⟨wo, hwo⟩ : ∃ wo : World, wo = wr := ⟨_, rfl⟩
        have HWO : Hid (wo = wr) := hwo
        clear hwo h1 h2
        go_wp2_with fail
        go_loopg [6] i (fun gg s6 wq => ∃ (k : Nat), k ≤ i ∧ gg = i - k ∧ s6 = .int .i64 k ∧ Hid (∀ j, j < k → O.getD j 0 ≠ x) ∧ Below wo.heap.size wo wq)
        case atStart => exact ⟨0, Nat.zero_le _, rfl, rfl, (fun j hj => absurd hj (Nat.not_lt_zero j) : ∀ j, j < 0 → _), by rw [HWO.out]; exact Below.refl _ _⟩
        case round =>
          obtain ⟨wk, rfl⟩ : ∃ wk : World, wk = wr := ⟨_, rfl⟩
          obtain ⟨k, hk, rfl, rfl, HK, hBk⟩ := hrel
          have HBk : Hid (Below wo.heap.size wo wk) := hBk
          have HBo : Hid (Below W.heap.size W wo) := by rw [HWO.out]; exact HBw.out
          have HC2 : Hid (∀ j, j < n → wk.cell? ⟨bo, oo + j, none⟩ = some (.int .i64 (O.getD j 0))) := fun j hj => (hBk.cell (p := ⟨bo, oo + j, none⟩) (by rw [HWO.out]; exact HCell.out.1)).trans (by rw [HWO.out]; exact HCell.out.2 j hj)
          by_cases hkl : k < i
          · have hki : (k : Int) < (i : Int) := by omega
            have d1 := HC2.out k (by omega)
            have d2 := HC2.out i hlt
            rw [HX.out] at d2
            obtain ⟨y, hy⟩ : ∃ y, O.getD k 0 = y := ⟨_, rfl⟩
            have HY : Hid (O.getD k 0 = y) := hy
            rw [hy] at d1
            clear hBk hy ci
            by_cases he : y = x
            · have HR : Hid (eachB n O = false) := each_twice hiO hkl (by rw [HY.out, HX.out]; exact he)
              have t3 : (y == x) = true := by simpa using he
              clear he
              go_wp2_with fail
              first | (go_quiet (fail); go_wp2_with fail) | skip
              go_ret
              exact ⟨by rw [HR.out]; rfl, by first | exact onB HB0.out (onB HBo.out HBk.out) | exact below_drewN (onB HB0.out (onB HBo.out HBk.out)) _⟩
            · have t3 : (y == x) = false := by simpa using he
              have HK2 : Hid (∀ j, j < k + 1 → O.getD j 0 ≠ x) := fun j hj => by
                rcases Nat.lt_succ_iff_lt_or_eq.1 hj with h | rfl
                · exact HK.out j h
                · rw [HY.out]; exact he
              clear he
              go_wp2_with fail
              first | (go_quiet (fail); go_wp2_with fail) | skip
              go_roundg (i - (k + 1))
              case measure => omega
              case rel => first | exact ⟨k + 1, by omega, rfl, by go_num, HK2, HBk.out⟩ | exact ⟨k + 1, by omega, rfl, by go_num, HK2, below_drewN HBk.out _⟩
          · have hke : k = i := by omega
            subst hke
            have HG2 : Hid (∀ j, j < k + 1 → (0 ≤ O.getD j 0 ∧ O.getD j 0 < (n : Int)) ∧ ∀ m, m < j → O.getD m 0 ≠ O.getD j 0) := fun j hj => by
              rcases Nat.lt_succ_iff_lt_or_eq.1 hj with h | rfl
              · exact HG.out j h
              · exact ⟨by rw [HX.out]; exact HRg.out, fun m hm => by rw [HX.out]; exact HK.out m hm⟩
            clear hBk ci
            go_wp2_with fail
            go_roundg (n - (k + 1))
            case measure => omega
            case rel => exact ⟨k + 1, by omega, rfl, by go_num, HG2, onB HBo.out HBk.out⟩
      · have hie : i = n := by omega
        subst hie
        have HR : Hid (eachB i O = true) := each_good HL.out HG.out
        clear hBw
        go_wp2_with fail
        go_ret
        exact ⟨by rw [HR.out]; rfl, onB HB0.out HBw.out⟩
  · have HR : Hid (eachB n O = false) := by show _ = _; unfold eachB; rw [decide_eq_false hl, Bool.false_and]
    have hne : ((O.length : Int) != (n : Int)) = true := by simp; omega
    generalize O.length = N at hne
    clear hO hl hB0
    go_enter Tryz.func9, Tryz.ntmps9
    go_wp2_with fail
    go_ret
    exact ⟨by rw [HR.out]; rfl, HB0.out⟩
end Go.Proofs.YtmjcnlpjnbcfjadGreatDoor
