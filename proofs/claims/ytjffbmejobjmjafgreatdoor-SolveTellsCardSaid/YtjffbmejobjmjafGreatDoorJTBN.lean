/-
 The document's own sum, difference, product and quotient of cells that are right (tallyref1: Plus, Times, Over) come to the same as the program's.
 The document's own quotient of cells that are right (tallyref1.Over) comes to the same as the program's.
 The document's own answers on reckonings (tallyref2): where a name is (Named), what a formula that is right comes to (Reckon).
-/
import Derived.Test.YtjffbmejobjmjafGreatDoorJTAM
import Derived.WalkSmall
import Derived.Test.YtjffbmejobjmjafGreatDoorJTBM
namespace Go.Proofs.YtjffbmejobjmjafGreatDoor
open Go.ChangeShapes Go.WideShapes Go.ChangeAt Go.RowKit

def RefTo (f : Nat) (args : Array Value) (r : Int × Int) : Prop := ∀ (w : World), Calls Tryz.prog f args w fun e w' => e = .returned (.agg #[.int .i64 r.1, .int .i64 r.2]) ∧ Below w.heap.size w w'

theorem bool2 {k : Int} (h : ¬ k = 2) : (k == 2) = false := by simpa using h
theorem bool0 {k : Int} (h : ¬ k = 0) : (k == 0) = false := by simpa using h

theorem rplus_made (ka na kb nb sg r : Int) (w : World) (q1 : (ka == 2) = false) (q2 : (kb == 2) = false) (q3 : ((ka == 0) && (kb == 0)) = false) (hm : wrap64 (na + wrap64 (sg * nb)) = r) :
  Calls Tryz.prog 61 #[.agg #[.int .i64 ka, .int .i64 na], .agg #[.int .i64 kb, .int .i64 nb], .int .i64 sg] w fun e w' => e = .returned (.agg #[.int .i64 (ofP r).1, .int .i64 (ofP r).2]) ∧ Below w.heap.size w w' := by
 subst hm
 have HR := rof_any (wrap64 (na + wrap64 (sg * nb)))
 cases q4 : (ka == 0)
 all_goals
  rw [q4] at q3
  try simp only [Bool.true_and, Bool.false_and] at q3
  go_enter Tryz.func61, Tryz.ntmps61
  go_wp2_with fail
  refine (HR _).mono ?_
  rintro e w1 ⟨rfl, hb⟩
  have hB : Below w.heap.size w w1 := Below.trans (by go_grown) (hb.mono (by simp; omega))
  obtain ⟨hc, hf⟩ := bcell hb
  have hz := bsize hb
  simp at hz
  go_wp2_with fail
  refine bodyPost_ret (v := .agg #[.int .i64 (ofP (wrap64 (na + wrap64 (sg * nb)))).1, .int .i64 (ofP (wrap64 (na + wrap64 (sg * nb)))).2]) (by simp [results, Tryz.results61, go_sem, hc]) rfl ⟨rfl, ?_⟩
  go_grown

theorem rplus_fault (ka na kb nb sg : Int) (w : World) (h : ka = 2 ∨ kb = 2) : Calls Tryz.prog 61 #[.agg #[.int .i64 ka, .int .i64 na], .agg #[.int .i64 kb, .int .i64 nb], .int .i64 sg] w fun e w' => e = .returned (.agg #[.int .i64 2, .int .i64 0]) ∧ Below w.heap.size w w' := by
 by_cases h1 : ka = 2
 ·subst h1
  clear h
  go_enter Tryz.func61, Tryz.ntmps61
  go_wp2
  go_returns
  exact ⟨rfl, by go_grown⟩
 ·have q1 := bool2 h1
  have h2 : kb = 2 := by omega
  subst h2
  clear h h1
  go_enter Tryz.func61, Tryz.ntmps61
  go_wp2
  go_returns
  exact ⟨rfl, by go_grown⟩

theorem rplus_blank (na nb sg : Int) (w : World) : Calls Tryz.prog 61 #[.agg #[.int .i64 0, .int .i64 na], .agg #[.int .i64 0, .int .i64 nb], .int .i64 sg] w fun e w' => e = .returned (.agg #[.int .i64 0, .int .i64 0]) ∧ Below w.heap.size w w' := by
 go_enter Tryz.func61, Tryz.ntmps61
 go_wp2
 go_returns
 exact ⟨rfl, by go_grown⟩

theorem rplus_any (ka na kb nb sg r : Int) (hr : wrap64 (na + wrap64 (sg * nb)) = r) : RefTo 61 #[.agg #[.int .i64 ka, .int .i64 na], .agg #[.int .i64 kb, .int .i64 nb], .int .i64 sg] (joinP (!(ka != 0 || kb != 0)) ka kb (ofP r)) := by
 intro w
 unfold joinP
 by_cases h2 : ka = 2 ∨ kb = 2
 ·rw [if_pos h2]
  exact rplus_fault ka na kb nb sg w h2
 ·rw [if_neg h2]
  by_cases h0 : ka = 0 ∧ kb = 0
  ·obtain ⟨rfl, rfl⟩ := h0
   exact rplus_blank na nb sg w
  ·rw [if_neg (by simp; omega)]
   exact rplus_made ka na kb nb sg r w (bool2 (by omega)) (bool2 (by omega)) (by simp; omega) hr
theorem rplus_plus (ka na kb nb : Int) (ha : good ka na = true) (hb : good kb nb = true) : RefTo 61 #[.agg #[.int .i64 ka, .int .i64 na], .agg #[.int .i64 kb, .int .i64 nb], .int .i64 1] (plusP ka na kb nb) := by
 obtain ⟨a1, a2⟩ := good_bd ha
 obtain ⟨b1, b2⟩ := good_bd hb
 exact rplus_any ka na kb nb 1 (na + nb) (by unfold wrap64; omega)
theorem rplus_minus (ka na kb nb : Int) (ha : good ka na = true) (hb : good kb nb = true) : RefTo 61 #[.agg #[.int .i64 ka, .int .i64 na], .agg #[.int .i64 kb, .int .i64 nb], .int .i64 (-1)] (minusP ka na kb nb) := by
 obtain ⟨a1, a2⟩ := good_bd ha
 obtain ⟨b1, b2⟩ := good_bd hb
 exact rplus_any ka na kb nb (-1) (na - nb) (by unfold wrap64; omega)

theorem rtimes_fault (ka na kb nb : Int) (w : World) (h : ka = 2 ∨ kb = 2) : Calls Tryz.prog 98 #[.agg #[.int .i64 ka, .int .i64 na], .agg #[.int .i64 kb, .int .i64 nb]] w fun e w' => e = .returned (.agg #[.int .i64 2, .int .i64 0]) ∧ Below w.heap.size w w' := by
 by_cases h1 : ka = 2
 ·subst h1
  clear h
  go_enter Tryz.func98, Tryz.ntmps98
  go_wp2
  go_returns
  exact ⟨rfl, by go_grown⟩
 ·have q1 := bool2 h1
  have h2 : kb = 2 := by omega
  subst h2
  clear h h1
  go_enter Tryz.func98, Tryz.ntmps98
  go_wp2
  go_returns
  exact ⟨rfl, by go_grown⟩

theorem rover_fault (ka na kb nb : Int) (w : World) (h : ka = 2 ∨ kb = 2) : Calls Tryz.prog 99 #[.agg #[.int .i64 ka, .int .i64 na], .agg #[.int .i64 kb, .int .i64 nb]] w fun e w' => e = .returned (.agg #[.int .i64 2, .int .i64 0]) ∧ Below w.heap.size w w' := by
 by_cases h1 : ka = 2
 ·subst h1
  clear h
  go_enter Tryz.func99, Tryz.ntmps99
  go_wp2
  go_returns
  exact ⟨rfl, by go_grown⟩
 ·have q1 := bool2 h1
  have h2 : kb = 2 := by omega
  subst h2
  clear h h1
  go_enter Tryz.func99, Tryz.ntmps99
  go_wp2
  go_returns
  exact ⟨rfl, by go_grown⟩

theorem rtimes_blank (ka na kb nb : Int) (w : World) (q1 : (ka == 2) = false) (q2 : (kb == 2) = false) (h : ka = 0 ∨ kb = 0) : Calls Tryz.prog 98 #[.agg #[.int .i64 ka, .int .i64 na], .agg #[.int .i64 kb, .int .i64 nb]] w fun e w' => e = .returned (.agg #[.int .i64 0, .int .i64 0]) ∧ Below w.heap.size w w' := by
 by_cases h1 : ka = 0
 ·subst h1
  clear h q1
  go_enter Tryz.func98, Tryz.ntmps98
  go_wp2
  go_returns
  exact ⟨rfl, by go_grown⟩
 ·have q3 := bool0 h1
  have h2 : kb = 0 := by omega
  subst h2
  clear h h1 q2
  go_enter Tryz.func98, Tryz.ntmps98
  go_wp2
  go_returns
  exact ⟨rfl, by go_grown⟩

theorem rover_blank (ka na kb nb : Int) (w : World) (q1 : (ka == 2) = false) (q2 : (kb == 2) = false) (h : ka = 0 ∨ kb = 0) : Calls Tryz.prog 99 #[.agg #[.int .i64 ka, .int .i64 na], .agg #[.int .i64 kb, .int .i64 nb]] w fun e w' => e = .returned (.agg #[.int .i64 0, .int .i64 0]) ∧ Below w.heap.size w w' := by
 by_cases h1 : ka = 0
 ·subst h1
  clear h q1
  go_enter Tryz.func99, Tryz.ntmps99
  go_wp2
  go_returns
  exact ⟨rfl, by go_grown⟩
 ·have q3 := bool0 h1
  have h2 : kb = 0 := by omega
  subst h2
  clear h h1 q2
  go_enter Tryz.func99, Tryz.ntmps99
  go_wp2
  go_returns
  exact ⟨rfl, by go_grown⟩

set_option maxHeartbeats 1000000 in
theorem rtimes_made (ka na kb nb : Int) (w : World) (q1 : (ka == 2) = false) (q2 : (kb == 2) = false) (q3 : (ka == 0) = false) (q4 : (kb == 0) = false) (a1 : -1000000000000 ≤ na) (a2 : na ≤ 1000000000000) (b1 : -1000000000000 ≤ nb) (b2 : nb ≤ 1000000000000) :
  Calls Tryz.prog 98 #[.agg #[.int .i64 ka, .int .i64 na], .agg #[.int .i64 kb, .int .i64 nb]] w fun e w' => e = .returned (.agg #[.int .i64 (ofP (na * nb)).1, .int .i64 (ofP (na * nb)).2]) ∧ Below w.heap.size w w' := by
 obtain ⟨ax0, ax1⟩ := ab_in a1 a2
 obtain ⟨ay0, ay1⟩ := ab_in b1 b2
 have hsx := rsize_any na
 have hsy := rsize_any nb
 by_cases hz0 : na = 0
 ·subst hz0
  have hx0 : ab 0 = 0 := rfl
  rw [hx0] at hsx
  have ho := rof_any (0 * nb)
  rw [Int.zero_mul] at ho ⊢
  clear hx0 ax0 ax1
  go_enter Tryz.func98, Tryz.ntmps98
  go_wp2_with fail
  refine (hsx _ a1 a2).mono ?_
  rintro e w1 ⟨rfl, rfl⟩
  go_wp2_with fail
  refine (hsy _ b1 b2).mono ?_
  rintro e w1 ⟨rfl, rfl⟩
  go_wp2_with fail
  refine (ho _).mono ?_
  rintro e w1 ⟨rfl, hb⟩
  have hB : Below w.heap.size w w1 := Below.trans (by go_grown) (hb.mono (by simp; omega))
  obtain ⟨hc, hf⟩ := bcell hb
  have hz := bsize hb
  simp at hz
  go_wp2_with fail
  refine bodyPost_ret (v := .agg #[.int .i64 (ofP 0).1, .int .i64 (ofP 0).2]) (by simp [results, Tryz.results98, go_sem, hc]) rfl ⟨rfl, ?_⟩
  go_grown
 ·have ap := ab_pos hz0
  by_cases hg : 1000000000000 / ab na < ab nb
  ·have hout : ofP (na * nb) = (2, 0) := by
    refine ofP_out (ab_out (m := 1000000000000) ?_)
    rw [ab_mul, Int.mul_comm]
    exact (Int.ediv_lt_iff_lt_mul (by omega)).mp hg
   rw [hout]
   go_enter Tryz.func98, Tryz.ntmps98
   go_wp2_with fail
   refine (hsx _ a1 a2).mono ?_
   rintro e w1 ⟨rfl, rfl⟩
   go_wp2_with fail
   refine (hsy _ b1 b2).mono ?_
   rintro e w1 ⟨rfl, rfl⟩
   go_wp2
   go_returns
   exact ⟨rfl, by go_grown⟩
  ·have hin : ab (na * nb) ≤ 1000000000000 := by
    rw [ab_mul, Int.mul_comm]
    exact Int.not_lt.mp (fun h => hg ((Int.ediv_lt_iff_lt_mul (by omega)).mpr h))
   obtain ⟨hp1, hp2⟩ := ab_bd hin
   have ho := rof_any (na * nb)
   clear hin
   go_enter Tryz.func98, Tryz.ntmps98
   go_wp2_with fail
   refine (hsx _ a1 a2).mono ?_
   rintro e w1 ⟨rfl, rfl⟩
   go_wp2_with fail
   refine (hsy _ b1 b2).mono ?_
   rintro e w1 ⟨rfl, rfl⟩
   go_wp2_with fail
   refine (ho _).mono ?_
   rintro e w1 ⟨rfl, hb⟩
   have hB : Below w.heap.size w w1 := Below.trans (by go_grown) (hb.mono (by simp; omega))
   obtain ⟨hc, hf⟩ := bcell hb
   have hz := bsize hb
   simp at hz
   go_wp2_with fail
   refine bodyPost_ret (v := .agg #[.int .i64 (ofP (na * nb)).1, .int .i64 (ofP (na * nb)).2]) (by simp [results, Tryz.results98, go_sem, hc]) rfl ⟨rfl, ?_⟩
   go_grown

theorem rtimes_any (ka na kb nb : Int) (ha : good ka na = true) (hb : good kb nb = true) : RefTo 98 #[.agg #[.int .i64 ka, .int .i64 na], .agg #[.int .i64 kb, .int .i64 nb]] (timesP ka na kb nb) := by
 obtain ⟨a1, a2⟩ := good_bd ha
 obtain ⟨b1, b2⟩ := good_bd hb
 intro w
 unfold timesP joinP
 by_cases h2 : ka = 2 ∨ kb = 2
 ·rw [if_pos h2]
  exact rtimes_fault ka na kb nb w h2
 ·rw [if_neg h2]
  by_cases h0 : ka = 0 ∨ kb = 0
  ·rw [if_pos (by simp; omega)]
   exact rtimes_blank ka na kb nb w (bool2 (by omega)) (bool2 (by omega)) h0
  ·rw [if_neg (by simp; omega)]
   exact rtimes_made ka na kb nb w (bool2 (by omega)) (bool2 (by omega)) (bool0 (by omega)) (bool0 (by omega)) a1 a2 b1 b2
end Go.Proofs.YtjffbmejobjmjafGreatDoor

namespace Go.Proofs.YtjffbmejobjmjafGreatDoor
open Go.ChangeShapes Go.WideShapes Go.ChangeAt Go.RowKit

theorem tdiv_ab (x y : Int) : x.tdiv y = if (decide (x < 0) != decide (y < 0)) = true then -(ab x / ab y) else ab x / ab y := by
 unfold ab
 by_cases hx : x < 0 <;> by_cases h : y < 0
 ·rw [if_neg (by simp [hx, h]), if_pos hx, if_pos h]
  rw [← Int.tdiv_eq_ediv_of_nonneg (by omega), Int.neg_tdiv, Int.tdiv_neg, Int.neg_neg]
 ·rw [if_pos (by simp [hx, h]), if_pos hx, if_neg h]
  rw [← Int.tdiv_eq_ediv_of_nonneg (by omega), Int.neg_tdiv, Int.neg_neg]
 ·rw [if_pos (by simp [hx, h]), if_neg hx, if_pos h]
  rw [← Int.tdiv_eq_ediv_of_nonneg (by omega), Int.tdiv_neg, Int.neg_neg]
 ·rw [if_neg (by simp [hx, h]), if_neg hx, if_neg h]
  rw [← Int.tdiv_eq_ediv_of_nonneg (by omega)]

theorem rover_zero (ka na kb : Int) (w : World) (q1 : (ka == 2) = false) (q2 : (kb == 2) = false) (q3 : (ka == 0) = false) (q4 : (kb == 0) = false) :
  Calls Tryz.prog 99 #[.agg #[.int .i64 ka, .int .i64 na], .agg #[.int .i64 kb, .int .i64 0]] w fun e w' => e = .returned (.agg #[.int .i64 2, .int .i64 0]) ∧ Below w.heap.size w w' := by
 go_enter Tryz.func99, Tryz.ntmps99
 go_wp2
 go_returns
 exact ⟨rfl, by go_grown⟩

set_option maxHeartbeats 1000000 in
theorem rover_made (ka na kb nb : Int) (w : World) (q1 : (ka == 2) = false) (q2 : (kb == 2) = false) (q3 : (ka == 0) = false) (q4 : (kb == 0) = false) (a1 : -1000000000000 ≤ na) (a2 : na ≤ 1000000000000) (b1 : -1000000000000 ≤ nb) (b2 : nb ≤ 1000000000000) (h0 : (nb == 0) = false) (hy : ¬ nb = 0) :
  Calls Tryz.prog 99 #[.agg #[.int .i64 ka, .int .i64 na], .agg #[.int .i64 kb, .int .i64 nb]] w fun e w' => e = .returned (.agg #[.int .i64 (ofP (na.tdiv nb)).1, .int .i64 (ofP (na.tdiv nb)).2]) ∧ Below w.heap.size w w' := by
 obtain ⟨ax0, ax1⟩ := ab_in a1 a2
 obtain ⟨_, ay1⟩ := ab_in b1 b2
 have ay0 := ab_pos hy
 have hsx := rsize_any na
 have hsy := rsize_any nb
 have hq0 : 0 ≤ ab na / ab nb := Int.ediv_nonneg ax0 (by omega)
 have hq1 : ab na / ab nb ≤ 1000000000000 := Int.le_trans (Int.ediv_le_self _ ax0) ax1
 rw [tdiv_ab]
 by_cases hsg : (decide (na < 0) != decide (nb < 0)) = true
 ·rw [if_pos hsg]
  have hs1 : (decide (na < 0) == decide (nb < 0)) = false := by simpa using hsg
  clear hsg
  have ho := rof_any (-(ab na / ab nb))
  go_enter Tryz.func99, Tryz.ntmps99
  go_wp2_with fail
  go_quiet (first | (go_at_call_of 133 na; exact Calls.quiet_of_same (hsx _ a1 a2)) | (go_at_call_of 133 nb; exact Calls.quiet_of_same (hsy _ b1 b2)))
  go_wp2_with fail
  refine (ho _).mono ?_
  rintro e w1 ⟨rfl, hb⟩
  have hB : Below w.heap.size w w1 := Below.trans (below_drewN (by go_grown) _) (hb.mono (by show _ ≤ (World.alloc _ _).heap.size; simp; omega))
  obtain ⟨hc, hf⟩ := bcell hb
  have hz := bsize hb
  simp at hz
  go_wp2_with fail
  refine bodyPost_ret (v := .agg #[.int .i64 (ofP (-(ab na / ab nb))).1, .int .i64 (ofP (-(ab na / ab nb))).2]) (by simp [results, Tryz.results99, go_sem, hc]) rfl ⟨rfl, ?_⟩
  go_grown
 ·rw [if_neg hsg]
  have hs1 : (decide (na < 0) == decide (nb < 0)) = true := by simpa using hsg
  clear hsg
  have ho := rof_any (ab na / ab nb)
  go_enter Tryz.func99, Tryz.ntmps99
  go_wp2_with fail
  go_quiet (first | (go_at_call_of 133 na; exact Calls.quiet_of_same (hsx _ a1 a2)) | (go_at_call_of 133 nb; exact Calls.quiet_of_same (hsy _ b1 b2)))
  go_wp2_with fail
  refine (ho _).mono ?_
  rintro e w1 ⟨rfl, hb⟩
  have hB : Below w.heap.size w w1 := Below.trans (below_drewN (by go_grown) _) (hb.mono (by show _ ≤ (World.alloc _ _).heap.size; simp; omega))
  obtain ⟨hc, hf⟩ := bcell hb
  have hz := bsize hb
  simp at hz
  go_wp2_with fail
  refine bodyPost_ret (v := .agg #[.int .i64 (ofP (ab na / ab nb)).1, .int .i64 (ofP (ab na / ab nb)).2]) (by simp [results, Tryz.results99, go_sem, hc]) rfl ⟨rfl, ?_⟩
  go_grown

theorem rover_any (ka na kb nb : Int) (ha : good ka na = true) (hb : good kb nb = true) : RefTo 99 #[.agg #[.int .i64 ka, .int .i64 na], .agg #[.int .i64 kb, .int .i64 nb]] (overP ka na kb nb) := by
 obtain ⟨a1, a2⟩ := good_bd ha
 obtain ⟨b1, b2⟩ := good_bd hb
 intro w
 unfold overP joinP
 by_cases h2 : ka = 2 ∨ kb = 2
 ·rw [if_pos h2]
  exact rover_fault ka na kb nb w h2
 ·rw [if_neg h2]
  by_cases h0 : ka = 0 ∨ kb = 0
  ·rw [if_pos (by simp; omega)]
   exact rover_blank ka na kb nb w (bool2 (by omega)) (bool2 (by omega)) h0
  ·rw [if_neg (by simp; omega)]
   unfold quoP
   by_cases hy : nb = 0
   ·subst hy
    rw [if_pos rfl]
    exact rover_zero ka na kb w (bool2 (by omega)) (bool2 (by omega)) (bool0 (by omega)) (bool0 (by omega))
   ·rw [if_neg hy]
    exact rover_made ka na kb nb w (bool2 (by omega)) (bool2 (by omega)) (bool0 (by omega)) (bool0 (by omega)) a1 a2 b1 b2 (bool0 hy) hy
end Go.Proofs.YtjffbmejobjmjafGreatDoor

namespace Go.Proofs.YtjffbmejobjmjafGreatDoor
open Go.ChangeShapes Go.WideShapes Go.ChangeAt Go.RowKit
set_option maxRecDepth 20000

theorem toL_ne {x y : ByteArray} (h : ¬ y = x) : (y.toList == x.toList) = false := by
 rw [beq_eq_false_iff_ne]
 intro e
 apply h
 rw [Lib.toList_data, Lib.toList_data] at e
 obtain ⟨yd⟩ := y
 obtain ⟨xd⟩ := x
 exact congrArg ByteArray.mk (Array.toList_inj.1 e)

set_option maxHeartbeats 2000000 in
theorem rnamed_any (An : Option Addr) (cn : Nat) (N : List ByteArray) (x : ByteArray) (w : World) (hN : NmV w An cn N) :
  Calls Tryz.prog 97 #[.slice An N.length cn, .string x] w fun e w' => e = .returned (.int .i64 (whereS N x)) ∧ Below w.heap.size w w' := by
 have HN : Hid (NmV w An cn N) := hN
 unfold whereS
 obtain ⟨n, hn⟩ : ∃ n, N.length = n := ⟨_, rfl⟩
 have HL : Hid (N.length = n) := hn
 have hni : (n : Int) < 4611686018427387904 := by have := hN.2.1; omega
 rw [hn]
 clear hN hn
 go_enter Tryz.func97, Tryz.ntmps97
 go_wp2_with fail
 go_loopg [5] n (fun g s5 wr => ∃ (k : Nat), k ≤ n ∧ g = n - k ∧ s5 = .int .i64 k ∧ findFrom (isS N x) (n - k) k = findFrom (isS N x) n 0 ∧ Below w.heap.size w wr)
 case atStart => exact ⟨0, Nat.zero_le _, rfl, rfl, rfl, Below.refl _ _⟩
 case round =>
  obtain ⟨k, hk, rfl, rfl, hf, hBw⟩ := hrel
  have HF : Hid (findFrom (isS N x) (n - k) k = findFrom (isS N x) n 0) := hf
  have HW : Hid (Below w.heap.size w wr) := hBw
  clear hf hBw
  by_cases hlt : k < n
  ·have hki : (k : Int) < (n : Int) := by omega
   have HK : Hid (n - k = (n - (k + 1)) + 1) := by show _ = _; omega
   obtain ⟨-, -, -, h0 | ⟨b, o, rfl, hb, hc⟩⟩ := HN.out.later HW.out
   ·have := HL.out; rw [h0] at this; simp at this; omega
   have c0 := hc k (by rw [HL.out]; exact hlt)
   obtain ⟨y, hy⟩ : ∃ y, N.getD k noS = y := ⟨_, rfl⟩
   have HI : Hid (isS N x k = decide (y = x)) := by show _ = _; unfold isS; rw [hy]
   rw [hy] at c0
   clear hc hy
   by_cases hyx : y = x
   ·have HH : Hid (isS N x k = true) := by show _ = _; rw [HI.out, decide_eq_true hyx]
    subst hyx
    go_wp2_with fail
    go_ret
    exact ⟨by rw [← HF.out, HK.out, findFrom_hit _ HH.out]; rfl, HW.out⟩
   ·have HH : Hid (isS N x k = false) := by show _ = _; rw [HI.out, decide_eq_false hyx]
    have hne := toL_ne hyx
    clear hyx
    go_wp2_with fail
    go_roundg (n - (k + 1))
    case measure => omega
    case rel => exact ⟨k + 1, by omega, rfl, by go_num, by rw [← HF.out, HK.out, findFrom_miss _ HH.out], HW.out⟩
  ·have hke : k = n := by omega
   subst hke
   go_wp2_with fail
   go_ret
   exact ⟨by rw [← HF.out, Nat.sub_self]; rfl, HW.out⟩

theorem miss_bin {N : List ByteArray} {o : Int} {a b : Tre} (h : missT N (.bin o a b) = false) : missT N a = false ∧ missT N b = false := by
 unfold missT at *
 rw [refsT, List.any_append, Bool.or_eq_false_iff] at h
 exact h
theorem rop_yes {o : Int} {a b : Int × Int} (ha : okC a) (hb : okC b) : (o = 3 → RefTo 61 #[.agg #[.int .i64 a.1, .int .i64 a.2], .agg #[.int .i64 b.1, .int .i64 b.2], .int .i64 1] (opP o a b)) ∧ (o = 4 → RefTo 61 #[.agg #[.int .i64 a.1, .int .i64 a.2], .agg #[.int .i64 b.1, .int .i64 b.2], .int .i64 (-1)] (opP o a b)) ∧ (o = 5 → RefTo 98 #[.agg #[.int .i64 a.1, .int .i64 a.2], .agg #[.int .i64 b.1, .int .i64 b.2]] (opP o a b)) ∧ (o = 6 → RefTo 99 #[.agg #[.int .i64 a.1, .int .i64 a.2], .agg #[.int .i64 b.1, .int .i64 b.2]] (opP o a b)) := by
 refine ⟨?_, ?_, ?_, ?_⟩ <;> rintro rfl
 ·exact rplus_plus _ _ _ _ ha hb
 ·exact rplus_minus _ _ _ _ ha hb
 ·exact rtimes_any _ _ _ _ ha hb
 ·exact rover_any _ _ _ _ ha hb

theorem box2 {W w1 : World} {p T : Nat} {u v : Value} (hg : W.heap[p]? = some (.cells #[u, v] T (0, 0))) (hb : Below W.heap.size W w1) : p < w1.heap.size ∧ w1.cell? ⟨p, 0, none⟩ = some u ∧ w1.cell? ⟨p, 1, none⟩ = some v ∧ w1.frozen? ⟨p, 0, none⟩ = false ∧ w1.frozen? ⟨p, 1, none⟩ = false := by
 have h := (hb.block p (Array.getElem?_eq_some_iff.1 hg).1).trans hg
 exact ⟨(Array.getElem?_eq_some_iff.1 h).1, by simp [World.cell?, h], by simp [World.cell?, h], by simp [World.frozen?, h], by simp [World.frozen?, h]⟩

set_option maxHeartbeats 4000000 in
theorem rreckon_len (b o cap : Nat) (l : List Nd) (hl : RightL l) (h30 : l.length ≤ 30) (An : Option Addr) (cn : Nat) (N : List ByteArray) (Ac : Option Addr) (cc : Nat) (C : List (Int × Int)) (hlen : C.length = N.length) (hok : ∀ c ∈ C, okC c) : ∀ i, i < l.length → ∀ (w : World), NdsAt w b o l → NmV w An cn N → CelV w Ac cc C → missT N (treeOf l i) = false →
  Calls Tryz.prog 59 #[.slice (some ⟨b, o, none⟩) l.length cap, .int .i64 i, .slice An N.length cn, .slice Ac C.length cc] w fun e w' => e = .returned (.agg #[.int .i64 (valT N C (treeOf l i)).1, .int .i64 (valT N C (treeOf l i)).2]) ∧ Below w.heap.size w w' := by
 have HOk : Hid (∀ c ∈ C, okC c) := hok
 have HLen : Hid (C.length = N.length) := hlen
 clear hok hlen
 intro i
 induction i using Nat.strongRecOn with
 | _ i ih =>
  intro hi w hN hNm hCl hms
  have HI : Hid (∀ m, m < i → m < l.length → ∀ (w : World), NdsAt w b o l → NmV w An cn N → CelV w Ac cc C → missT N (treeOf l m) = false →
   Calls Tryz.prog 59 #[.slice (some ⟨b, o, none⟩) l.length cap, .int .i64 m, .slice An N.length cn, .slice Ac C.length cc] w fun e w' => e = .returned (.agg #[.int .i64 (valT N C (treeOf l m)).1, .int .i64 (valT N C (treeOf l m)).2]) ∧ Below w.heap.size w w') := ih
  clear ih
  have hg := hl i hi
  have ho := op_range hg
  obtain ⟨x0, x1, x2, x3, x4⟩ := hN.nd (k := i) hi
  obtain ⟨x, hx⟩ : ∃ x, l.getD i noN = x := ⟨_, rfl⟩
  rw [hx] at x0 x1 x2 x3 x4 hg ho
  have hii : (i : Int) < (l.length : Int) := by omega
  have hli : (l.length : Int) ≤ 30 := by omega
  have hbl : b < w.heap.size := hN.1
  obtain ⟨op, nn, name, left, right⟩ := x
  simp only at x0 x1 x2 x3 x4 ho
  have HNd : Hid (NdsAt w b o l) := hN
  have HNm : Hid (NmV w An cn N) := hNm
  have HCl : Hid (CelV w Ac cc C) := hCl
  obtain ⟨W, hW⟩ : ∃ W, (w.alloc (.cells #[.int .i64 0, .int .i64 0] 48)).alloc (.cells #[.int .i64 op, .int .i64 nn, .string name, .int .i64 left, .int .i64 right] 158) = W := ⟨_, rfl⟩
  have HR : Hid (W.heap[w.heap.size]? = some (.cells #[.int .i64 0, .int .i64 0] 48 (0, 0))) := by show _ = _; rw [← hW]; exact topF0 _ _ _
  have hX : W.heap[w.heap.size + 1]? = some (.cells #[.int .i64 op, .int .i64 nn, .string name, .int .i64 left, .int .i64 right] 158 (0, 0)) := by rw [← hW]; exact topF1 _ _ _
  have HX := hid_of hX
  have d0 : W.cell? ⟨w.heap.size + 1, 0, none⟩ = some (.int .i64 op) := by simp [World.cell?, hX]
  have d1 : W.cell? ⟨w.heap.size + 1, 1, none⟩ = some (.int .i64 nn) := by simp [World.cell?, hX]
  have d2 : W.cell? ⟨w.heap.size + 1, 2, none⟩ = some (.string name) := by simp [World.cell?, hX]
  have d3 : W.cell? ⟨w.heap.size + 1, 3, none⟩ = some (.int .i64 left) := by simp [World.cell?, hX]
  have HBW : Hid (Below w.heap.size w W) := by show Below w.heap.size w W; rw [← hW]; go_grown
  clear hX
  by_cases h1 : op = 1
  ·subst h1
   have hP : valT N C (treeOf l i) = ofP nn := by rw [tree_num (by rw [hx]), hx]; rfl
   rw [hP]
   have hof := rof_any nn
   clear hx hP hg ho hN hNm hCl hms
   go_enter Tryz.func59, Tryz.ntmps59
   go_wp2_with fail
   refine (hof _).mono ?_
   rintro e w1 ⟨rfl, hb1⟩
   obtain ⟨r1, r2, r3, rf0, rf1⟩ := box2 HR.out hb1
   have HB1 := hid_of (onB HBW.out hb1)
   clear hb1 hof hW d0 d1 d2 d3
   go_wp2_with fail
   refine bodyPost_ret (v := .agg #[.int .i64 (ofP nn).1, .int .i64 (ofP nn).2]) (by simp [results, Tryz.results59, go_sem, r2, r3]) rfl ⟨rfl, ?_⟩
   exact (HB1.out.setCell (Nat.le_refl _) _).setCell (Nat.le_refl _) _
  by_cases h2 : op = 2
  ·subst h2
   have hT : treeOf l i = .ref name := by rw [tree_ref (by rw [hx]), hx]
   rw [hT] at hms ⊢
   have hw : 0 ≤ whereS N name := by
    unfold missT refsT at hms
    simp at hms
    exact hms
   obtain ⟨j, hj, hjl, -⟩ : ∃ j : Nat, whereS N name = (j : Int) ∧ j < N.length ∧ N.getD j noS = name := by
    rcases where_cases N name with ⟨hw', -⟩ | h
    ·omega
    ·exact h
   have hnm := fun w' (hb : Below w.heap.size w w') => rnamed_any An cn N name w' (hNm.later hb)
   rw [hj] at hnm
   have hlen := HLen.out
   obtain ⟨-, -, hC3⟩ := hCl
   obtain ⟨b2, o2, rfl, hCA⟩ := hC3.resolve_left (fun e => by rw [e] at hlen; simp at hlen; omega)
   obtain ⟨c, hc⟩ : ∃ c, C.getD j noC = c := ⟨_, rfl⟩
   have hV : valT N C (.ref name) = c := by show refC N C name = c; unfold refC; rw [hj]; exact hc
   rw [hV]
   have HCA : Hid (CelAt w b2 o2 C) := hCA
   have HJ : Hid (j < C.length) := by show j < C.length; omega
   have HCc := hid_of hc
   have hjc : (j : Int) < (C.length : Int) := by omega
   have hsz := hNm.2.1
   have hcl : (C.length : Int) < 4611686018427387904 := by omega
   clear hx hT hg ho hN hNm hms hC3 hCA hV hc hj hw hlen
   go_enter Tryz.func59, Tryz.ntmps59
   go_wp2_with fail
   refine (hnm _ HBW.out).mono ?_
   rintro e w1 ⟨rfl, hb1⟩
   obtain ⟨r1, r2, r3, rf0, rf1⟩ := box2 HR.out hb1
   have HB1 := hid_of (onB HBW.out hb1)
   obtain ⟨c0, c1⟩ := (HCA.out.later HB1.out).2 j HJ.out
   rw [HCc.out] at c0 c1
   clear hb1 hnm hW d0 d1 d2 d3
   go_wp2_with fail
   refine bodyPost_ret (v := .agg #[.int .i64 c.1, .int .i64 c.2]) (by simp [results, Tryz.results59, go_sem, r2, r3]) rfl ⟨rfl, ?_⟩
   exact (HB1.out.setCell (Nat.le_refl _) _).setCell (Nat.le_refl _) _
  obtain ⟨a1, a2, a3, a4⟩ := nd_sides hg (show 2 < op by omega)
  simp only at a1 a2 a3 a4
  obtain ⟨a, ha⟩ : ∃ a : Nat, left = a := ⟨left.toNat, by omega⟩
  obtain ⟨c, hc⟩ : ∃ c : Nat, right = c := ⟨right.toNat, by omega⟩
  subst ha hc
  have hT : treeOf l i = .bin op (treeOf l a) (treeOf l c) := by
   have := tree_bin hl hi (by rw [hx]; show 2 < op; omega)
   rw [hx] at this
   simpa using this
  rw [hT] at hms ⊢
  obtain ⟨hma, hmc⟩ := miss_bin hms
  have hoa := val_ok N HOk.out (treeOf l a)
  have hoc := val_ok N HOk.out (treeOf l c)
  have HRa := hid_of (fun w' (hb : Below w.heap.size w w') => HI.out a (by omega) (by omega) w' (hN.later hb) (hNm.later hb) (hCl.later hb) hma)
  have HRc := hid_of (fun w' (hb : Below w.heap.size w w') => HI.out c (by omega) (by omega) w' (hN.later hb) (hNm.later hb) (hCl.later hb) hmc)
  have hV : valT N C (.bin op (treeOf l a) (treeOf l c)) = opP op (valT N C (treeOf l a)) (valT N C (treeOf l c)) := rfl
  rw [hV]
  obtain ⟨u, hu⟩ : ∃ u, valT N C (treeOf l a) = u := ⟨_, rfl⟩
  obtain ⟨v, hv⟩ : ∃ v, valT N C (treeOf l c) = v := ⟨_, rfl⟩
  rw [hu] at hoa HRa ⊢
  rw [hv] at hoc HRc ⊢
  obtain ⟨p3, p4, p5, p6⟩ := rop_yes (o := op) hoa hoc
  obtain ⟨t, ht⟩ : ∃ t, opP op u v = t := ⟨_, rfl⟩
  rw [ht] at p3 p4 p5 p6 ⊢
  unfold RefTo at p3 p4 p5 p6
  have hovc : op = 3 ∨ op = 4 ∨ op = 5 ∨ op = 6 := by omega
  clear hx hT hg ho h1 h2 hN hNm hCl hms hma hmc hoa hoc hV hu hv ht HI a1 a2 a3 a4
  rcases hovc with rfl | rfl | rfl | rfl
  ·have hp := p3 rfl
   clear p3 p4 p5 p6
   go_enter Tryz.func59, Tryz.ntmps59
   go_wp2_with fail
   refine (HRa.out _ HBW.out).mono ?_
   rintro e w1 ⟨rfl, hb1⟩
   have HB1 := hid_of hb1
   have HC1 := hid_of (onB HBW.out hb1)
   obtain ⟨V1, hV1⟩ : ∃ V1, w1.alloc (.cells #[.int .i64 u.1, .int .i64 u.2] 48) = V1 := ⟨_, rfl⟩
   have hbV : Below w1.heap.size w1 V1 := by rw [← hV1]; exact (Below.refl _ _).alloc (Nat.le_refl _) _
   have HV1 := hid_of (onB hb1 hbV)
   have HD1 := hid_of (onB HC1.out hbV)
   have hg1 : V1.heap[w1.heap.size]? = some (.cells #[.int .i64 u.1, .int .i64 u.2] 48 (0, 0)) := by rw [← hV1]; exact heap_alloc_new _ _
   have G1 := hid_of hg1
   have hXv := (HV1.out.block (w.heap.size + 1) (Array.getElem?_eq_some_iff.1 HX.out).1).trans HX.out
   have k0 : V1.cell? ⟨w.heap.size + 1, 0, none⟩ = some (.int .i64 3) := by simp [World.cell?, hXv]
   have k4 : V1.cell? ⟨w.heap.size + 1, 4, none⟩ = some (.int .i64 (c : Int)) := by simp [World.cell?, hXv]
   have kl := (Array.getElem?_eq_some_iff.1 hXv).1
   clear hb1 hbV hg1 hXv hW d0 d1 d2 d3
   go_wp2_with fail
   refine (HRc.out _ HD1.out).mono ?_
   rintro e w2 ⟨rfl, hb2⟩
   have HC2 := hid_of (onB HD1.out hb2)
   have HE2 := hid_of (onB HV1.out hb2)
   obtain ⟨V2, hV2⟩ : ∃ V2, w2.alloc (.cells #[.int .i64 v.1, .int .i64 v.2] 48) = V2 := ⟨_, rfl⟩
   have hbV : Below w2.heap.size w2 V2 := by rw [← hV2]; exact (Below.refl _ _).alloc (Nat.le_refl _) _
   have HD2 := hid_of (onB HC2.out hbV)
   have HF2 := hid_of (onB HE2.out hbV)
   obtain ⟨y1, y2, y3, -, -⟩ := box2 G1.out (onB hb2 hbV)
   have hg2 : V2.heap[w2.heap.size]? = some (.cells #[.int .i64 v.1, .int .i64 v.2] 48 (0, 0)) := by rw [← hV2]; exact heap_alloc_new _ _
   obtain ⟨q1, q2, q3, -, -⟩ := box2 hg2 (Below.refl _ _)
   have hXv := (HF2.out.block (w.heap.size + 1) (Array.getElem?_eq_some_iff.1 HX.out).1).trans HX.out
   have k0' : V2.cell? ⟨w.heap.size + 1, 0, none⟩ = some (.int .i64 3) := by simp [World.cell?, hXv]
   have kl' := (Array.getElem?_eq_some_iff.1 hXv).1
   clear hb2 hbV hg2 hXv hV1 k0 k4 kl HRa HRc
   go_wp2_with fail
   refine (hp _).mono ?_
   rintro e w3 ⟨rfl, hb3⟩
   obtain ⟨r1, r2, r3, rf0, rf1⟩ := box2 HR.out (onB HF2.out hb3)
   have HB3 := hid_of (onB HD2.out hb3)
   clear hb3 hp hV2 k0' kl' y1 y2 y3 q1 q2 q3
   go_wp2_with fail
   refine bodyPost_ret (v := .agg #[.int .i64 t.1, .int .i64 t.2]) (by simp [results, Tryz.results59, go_sem, r2, r3]) rfl ⟨rfl, ?_⟩
   exact (HB3.out.setCell (Nat.le_refl _) _).setCell (Nat.le_refl _) _
  ·have hp := p4 rfl
   clear p3 p4 p5 p6
   go_enter Tryz.func59, Tryz.ntmps59
   go_wp2_with fail
   refine (HRa.out _ HBW.out).mono ?_
   rintro e w1 ⟨rfl, hb1⟩
   have HB1 := hid_of hb1
   have HC1 := hid_of (onB HBW.out hb1)
   obtain ⟨V1, hV1⟩ : ∃ V1, w1.alloc (.cells #[.int .i64 u.1, .int .i64 u.2] 48) = V1 := ⟨_, rfl⟩
   have hbV : Below w1.heap.size w1 V1 := by rw [← hV1]; exact (Below.refl _ _).alloc (Nat.le_refl _) _
   have HV1 := hid_of (onB hb1 hbV)
   have HD1 := hid_of (onB HC1.out hbV)
   have hg1 : V1.heap[w1.heap.size]? = some (.cells #[.int .i64 u.1, .int .i64 u.2] 48 (0, 0)) := by rw [← hV1]; exact heap_alloc_new _ _
   have G1 := hid_of hg1
   have hXv := (HV1.out.block (w.heap.size + 1) (Array.getElem?_eq_some_iff.1 HX.out).1).trans HX.out
   have k0 : V1.cell? ⟨w.heap.size + 1, 0, none⟩ = some (.int .i64 4) := by simp [World.cell?, hXv]
   have k4 : V1.cell? ⟨w.heap.size + 1, 4, none⟩ = some (.int .i64 (c : Int)) := by simp [World.cell?, hXv]
   have kl := (Array.getElem?_eq_some_iff.1 hXv).1
   clear hb1 hbV hg1 hXv hW d0 d1 d2 d3
   go_wp2_with fail
   refine (HRc.out _ HD1.out).mono ?_
   rintro e w2 ⟨rfl, hb2⟩
   have HC2 := hid_of (onB HD1.out hb2)
   have HE2 := hid_of (onB HV1.out hb2)
   obtain ⟨V2, hV2⟩ : ∃ V2, w2.alloc (.cells #[.int .i64 v.1, .int .i64 v.2] 48) = V2 := ⟨_, rfl⟩
   have hbV : Below w2.heap.size w2 V2 := by rw [← hV2]; exact (Below.refl _ _).alloc (Nat.le_refl _) _
   have HD2 := hid_of (onB HC2.out hbV)
   have HF2 := hid_of (onB HE2.out hbV)
   obtain ⟨y1, y2, y3, -, -⟩ := box2 G1.out (onB hb2 hbV)
   have hg2 : V2.heap[w2.heap.size]? = some (.cells #[.int .i64 v.1, .int .i64 v.2] 48 (0, 0)) := by rw [← hV2]; exact heap_alloc_new _ _
   obtain ⟨q1, q2, q3, -, -⟩ := box2 hg2 (Below.refl _ _)
   have hXv := (HF2.out.block (w.heap.size + 1) (Array.getElem?_eq_some_iff.1 HX.out).1).trans HX.out
   have k0' : V2.cell? ⟨w.heap.size + 1, 0, none⟩ = some (.int .i64 4) := by simp [World.cell?, hXv]
   have kl' := (Array.getElem?_eq_some_iff.1 hXv).1
   clear hb2 hbV hg2 hXv hV1 k0 k4 kl HRa HRc
   go_wp2_with fail
   refine (hp _).mono ?_
   rintro e w3 ⟨rfl, hb3⟩
   obtain ⟨r1, r2, r3, rf0, rf1⟩ := box2 HR.out (onB HF2.out hb3)
   have HB3 := hid_of (onB HD2.out hb3)
   clear hb3 hp hV2 k0' kl' y1 y2 y3 q1 q2 q3
   go_wp2_with fail
   refine bodyPost_ret (v := .agg #[.int .i64 t.1, .int .i64 t.2]) (by simp [results, Tryz.results59, go_sem, r2, r3]) rfl ⟨rfl, ?_⟩
   exact (HB3.out.setCell (Nat.le_refl _) _).setCell (Nat.le_refl _) _
  ·have hp := p5 rfl
   clear p3 p4 p5 p6
   go_enter Tryz.func59, Tryz.ntmps59
   go_wp2_with fail
   refine (HRa.out _ HBW.out).mono ?_
   rintro e w1 ⟨rfl, hb1⟩
   have HB1 := hid_of hb1
   have HC1 := hid_of (onB HBW.out hb1)
   obtain ⟨V1, hV1⟩ : ∃ V1, w1.alloc (.cells #[.int .i64 u.1, .int .i64 u.2] 48) = V1 := ⟨_, rfl⟩
   have hbV : Below w1.heap.size w1 V1 := by rw [← hV1]; exact (Below.refl _ _).alloc (Nat.le_refl _) _
   have HV1 := hid_of (onB hb1 hbV)
   have HD1 := hid_of (onB HC1.out hbV)
   have hg1 : V1.heap[w1.heap.size]? = some (.cells #[.int .i64 u.1, .int .i64 u.2] 48 (0, 0)) := by rw [← hV1]; exact heap_alloc_new _ _
   have G1 := hid_of hg1
   have hXv := (HV1.out.block (w.heap.size + 1) (Array.getElem?_eq_some_iff.1 HX.out).1).trans HX.out
   have k0 : V1.cell? ⟨w.heap.size + 1, 0, none⟩ = some (.int .i64 5) := by simp [World.cell?, hXv]
   have k4 : V1.cell? ⟨w.heap.size + 1, 4, none⟩ = some (.int .i64 (c : Int)) := by simp [World.cell?, hXv]
   have kl := (Array.getElem?_eq_some_iff.1 hXv).1
   clear hb1 hbV hg1 hXv hW d0 d1 d2 d3
   go_wp2_with fail
   refine (HRc.out _ HD1.out).mono ?_
   rintro e w2 ⟨rfl, hb2⟩
   have HC2 := hid_of (onB HD1.out hb2)
   have HE2 := hid_of (onB HV1.out hb2)
   obtain ⟨V2, hV2⟩ : ∃ V2, w2.alloc (.cells #[.int .i64 v.1, .int .i64 v.2] 48) = V2 := ⟨_, rfl⟩
   have hbV : Below w2.heap.size w2 V2 := by rw [← hV2]; exact (Below.refl _ _).alloc (Nat.le_refl _) _
   have HD2 := hid_of (onB HC2.out hbV)
   have HF2 := hid_of (onB HE2.out hbV)
   obtain ⟨y1, y2, y3, -, -⟩ := box2 G1.out (onB hb2 hbV)
   have hg2 : V2.heap[w2.heap.size]? = some (.cells #[.int .i64 v.1, .int .i64 v.2] 48 (0, 0)) := by rw [← hV2]; exact heap_alloc_new _ _
   obtain ⟨q1, q2, q3, -, -⟩ := box2 hg2 (Below.refl _ _)
   have hXv := (HF2.out.block (w.heap.size + 1) (Array.getElem?_eq_some_iff.1 HX.out).1).trans HX.out
   have k0' : V2.cell? ⟨w.heap.size + 1, 0, none⟩ = some (.int .i64 5) := by simp [World.cell?, hXv]
   have kl' := (Array.getElem?_eq_some_iff.1 hXv).1
   clear hb2 hbV hg2 hXv hV1 k0 k4 kl HRa HRc
   go_wp2_with fail
   refine (hp _).mono ?_
   rintro e w3 ⟨rfl, hb3⟩
   obtain ⟨r1, r2, r3, rf0, rf1⟩ := box2 HR.out (onB HF2.out hb3)
   have HB3 := hid_of (onB HD2.out hb3)
   clear hb3 hp hV2 k0' kl' y1 y2 y3 q1 q2 q3
   go_wp2_with fail
   refine bodyPost_ret (v := .agg #[.int .i64 t.1, .int .i64 t.2]) (by simp [results, Tryz.results59, go_sem, r2, r3]) rfl ⟨rfl, ?_⟩
   exact (HB3.out.setCell (Nat.le_refl _) _).setCell (Nat.le_refl _) _
  ·have hp := p6 rfl
   clear p3 p4 p5 p6
   go_enter Tryz.func59, Tryz.ntmps59
   go_wp2_with fail
   refine (HRa.out _ HBW.out).mono ?_
   rintro e w1 ⟨rfl, hb1⟩
   have HB1 := hid_of hb1
   have HC1 := hid_of (onB HBW.out hb1)
   obtain ⟨V1, hV1⟩ : ∃ V1, w1.alloc (.cells #[.int .i64 u.1, .int .i64 u.2] 48) = V1 := ⟨_, rfl⟩
   have hbV : Below w1.heap.size w1 V1 := by rw [← hV1]; exact (Below.refl _ _).alloc (Nat.le_refl _) _
   have HV1 := hid_of (onB hb1 hbV)
   have HD1 := hid_of (onB HC1.out hbV)
   have hg1 : V1.heap[w1.heap.size]? = some (.cells #[.int .i64 u.1, .int .i64 u.2] 48 (0, 0)) := by rw [← hV1]; exact heap_alloc_new _ _
   have G1 := hid_of hg1
   have hXv := (HV1.out.block (w.heap.size + 1) (Array.getElem?_eq_some_iff.1 HX.out).1).trans HX.out
   have k0 : V1.cell? ⟨w.heap.size + 1, 0, none⟩ = some (.int .i64 6) := by simp [World.cell?, hXv]
   have k4 : V1.cell? ⟨w.heap.size + 1, 4, none⟩ = some (.int .i64 (c : Int)) := by simp [World.cell?, hXv]
   have kl := (Array.getElem?_eq_some_iff.1 hXv).1
   clear hb1 hbV hg1 hXv hW d0 d1 d2 d3
   go_wp2_with fail
   refine (HRc.out _ HD1.out).mono ?_
   rintro e w2 ⟨rfl, hb2⟩
   have HC2 := hid_of (onB HD1.out hb2)
   have HE2 := hid_of (onB HV1.out hb2)
   obtain ⟨V2, hV2⟩ : ∃ V2, w2.alloc (.cells #[.int .i64 v.1, .int .i64 v.2] 48) = V2 := ⟨_, rfl⟩
   have hbV : Below w2.heap.size w2 V2 := by rw [← hV2]; exact (Below.refl _ _).alloc (Nat.le_refl _) _
   have HD2 := hid_of (onB HC2.out hbV)
   have HF2 := hid_of (onB HE2.out hbV)
   obtain ⟨y1, y2, y3, -, -⟩ := box2 G1.out (onB hb2 hbV)
   have hg2 : V2.heap[w2.heap.size]? = some (.cells #[.int .i64 v.1, .int .i64 v.2] 48 (0, 0)) := by rw [← hV2]; exact heap_alloc_new _ _
   obtain ⟨q1, q2, q3, -, -⟩ := box2 hg2 (Below.refl _ _)
   have hXv := (HF2.out.block (w.heap.size + 1) (Array.getElem?_eq_some_iff.1 HX.out).1).trans HX.out
   have k0' : V2.cell? ⟨w.heap.size + 1, 0, none⟩ = some (.int .i64 6) := by simp [World.cell?, hXv]
   have kl' := (Array.getElem?_eq_some_iff.1 hXv).1
   clear hb2 hbV hg2 hXv hV1 k0 k4 kl HRa HRc
   go_wp2_with fail
   refine (hp _).mono ?_
   rintro e w3 ⟨rfl, hb3⟩
   obtain ⟨r1, r2, r3, rf0, rf1⟩ := box2 HR.out (onB HF2.out hb3)
   have HB3 := hid_of (onB HD2.out hb3)
   clear hb3 hp hV2 k0' kl' y1 y2 y3 q1 q2 q3
   go_wp2_with fail
   refine bodyPost_ret (v := .agg #[.int .i64 t.1, .int .i64 t.2]) (by simp [results, Tryz.results59, go_sem, r2, r3]) rfl ⟨rfl, ?_⟩
   exact (HB3.out.setCell (Nat.le_refl _) _).setCell (Nat.le_refl _) _
end Go.Proofs.YtjffbmejobjmjafGreatDoor

