/-
  Places compared, and an entry found among those that rise: what slices.Compare, order, slices.BinarySearchFunc and find answer, called in whatever memory.
-/
import Derived.Deep.CutBlock
import Derived.Test.YtfngmnhkhfgmjacDoorJIAS
namespace Go.Proofs.YtfngmnhkhfgmjacDoor
open Go.ChangeShapes Go.WideShapes Go.ChangeAt Go.RowKit
set_option maxRecDepth 20000
theorem isnan_any (x : Int) (w : World) : Calls Tryd.prog 85 #[.int .i64 x] w fun e w' => e = .returned (.bool false) ∧ w' = w := by
 go_enter Tryd.func85, Tryd.ntmps85
 go_wp2_with fail
 go_ret
 exact ⟨rfl, rfl⟩
def cmpI (x y : Int) : Int := if x < y then -1 else if y < x then 1 else 0
set_option maxHeartbeats 1000000 in
theorem compare_any (x y : Int) (w : World) : Calls Tryd.prog 72 #[.int .i64 x, .int .i64 y] w fun e w' => e = .returned (.int .i64 (cmpI x y)) ∧ w' = w := by
 have h1 := isnan_any x
 have h2 := isnan_any y
 by_cases hxy : x < y
 ·have HV : Hid (cmpI x y = -1) := by show _ = _; unfold cmpI; rw [if_pos hxy]
  go_enter Tryd.func72, Tryd.ntmps72
  go_wp2_with fail
  refine (h1 _).mono ?_
  rintro e w1 ⟨rfl, rfl⟩
  go_wp2_with fail
  refine (h2 _).mono ?_
  rintro e w2 ⟨rfl, rfl⟩
  go_wp2_with fail
  go_ret
  rw [HV.out]
  exact ⟨rfl, rfl⟩
 ·by_cases hyx : y < x
  ·have HV : Hid (cmpI x y = 1) := by show _ = _; unfold cmpI; rw [if_neg hxy, if_pos hyx]
   go_enter Tryd.func72, Tryd.ntmps72
   go_wp2_with fail
   refine (h1 _).mono ?_
   rintro e w1 ⟨rfl, rfl⟩
   go_wp2_with fail
   refine (h2 _).mono ?_
   rintro e w2 ⟨rfl, rfl⟩
   go_wp2_with fail
   go_ret
   rw [HV.out]
   exact ⟨rfl, rfl⟩
  ·have HV : Hid (cmpI x y = 0) := by show _ = _; unfold cmpI; rw [if_neg hxy, if_neg hyx]
   have e : x = y := by omega
   subst e
   go_enter Tryd.func72, Tryd.ntmps72
   go_wp2_with fail
   refine (h1 _).mono ?_
   rintro e w1 ⟨rfl, rfl⟩
   go_wp2_with fail
   refine (h2 _).mono ?_
   rintro e w2 ⟨rfl, rfl⟩
   go_wp2_with fail
   go_ret
   rw [HV.out]
   exact ⟨rfl, rfl⟩
set_option maxHeartbeats 2000000 in
theorem scompare_any (A B : Option Addr) (ca cb : Nat) (a b : List Int) (w : World) (ha : a.length ≤ 4) (hb : b.length ≤ 4) (hA : PlAt w A ca a) (hB : PlAt w B cb b) : Calls Tryd.prog 52 #[.slice A a.length ca, .slice B b.length cb] w fun e w' => e = .returned (.int .i64 (cmpL a b)) ∧ w' = w := by
 have HA : Hid (PlAt w A ca a) := hA
 have HB : Hid (PlAt w B cb b) := hB
 have HN : Hid (∀ k, k < a.length → k < b.length → cmpL (a.drop k) (b.drop k) = if a.getD k 0 < b.getD k 0 then -1 else if b.getD k 0 < a.getD k 0 then 1 else cmpL (a.drop (k + 1)) (b.drop (k + 1))) := fun k h1 h2 => cmpL_in h1 h2
 have HL : Hid (∀ k, k < a.length → b.length ≤ k → cmpL (a.drop k) (b.drop k) = 1) := fun k h1 h2 => cmpL_long h1 h2
 have HS : Hid (∀ k, a.length ≤ k → k < b.length → cmpL (a.drop k) (b.drop k) = -1) := fun k h1 h2 => cmpL_short h1 h2
 have HE : Hid (∀ k, a.length ≤ k → b.length ≤ k → cmpL (a.drop k) (b.drop k) = 0) := fun k h1 h2 => cmpL_end h1 h2
 obtain ⟨na, hna⟩ : ∃ na, a.length = na := ⟨_, rfl⟩
 obtain ⟨nb, hnb⟩ : ∃ nb, b.length = nb := ⟨_, rfl⟩
 have HNA : Hid (a.length = na) := hna
 have HNB : Hid (b.length = nb) := hnb
 rw [hna] at HN HL HS HE ha
 rw [hnb] at HN HL HS HE hb
 rw [hna, hnb]
 have ha' : (na : Int) ≤ 4 := by omega
 have hb' : (nb : Int) ≤ 4 := by omega
 clear hA hB hna hnb
 go_enter Tryd.func52, Tryd.ntmps52
 go_wp2_with fail
 go_loopg [11] na (fun g s11 wr => ∃ (k : Nat), k ≤ na ∧ k ≤ nb ∧ g = na - k ∧ s11 = .int .i64 k ∧ Hid (cmpL (a.drop k) (b.drop k) = cmpL a b) ∧ wr = w)
 case atStart => exact ⟨0, Nat.zero_le _, Nat.zero_le _, rfl, rfl, (rfl : cmpL (a.drop 0) (b.drop 0) = cmpL a b), rfl⟩
 case round =>
  obtain ⟨k, hk, hk2, rfl, rfl, HF, hw⟩ := hrel
  subst hw
  by_cases hlt : k < na
  ·obtain ⟨hc, h0 | ⟨g1, o1, rfl, hbw, hcell⟩⟩ := HA.out
   ·have := HNA.out; rw [h0] at this; simp at this; omega
   have x1 := hcell k (by rw [HNA.out]; exact hlt)
   have hki : (k : Int) < (na : Int) := by omega
   by_cases hlb : k < nb
   ·obtain ⟨hc', h0 | ⟨g2, o2, rfl, hbw2, hcell2⟩⟩ := HB.out
    ·have := HNB.out; rw [h0] at this; simp at this; omega
    have x2 := hcell2 k (by rw [HNB.out]; exact hlb)
    have hkb : (k : Int) < (nb : Int) := by omega
    have hst := HN.out k hlt hlb
    have hcmp := compare_any (a.getD k 0) (b.getD k 0) wr
    generalize a.getD k 0 = x at x1 hst hcmp
    generalize b.getD k 0 = y at x2 hst hcmp
    have HST : Hid (cmpL (a.drop k) (b.drop k) = if x < y then -1 else if y < x then 1 else cmpL (a.drop (k + 1)) (b.drop (k + 1))) := hst
    clear hcell hcell2 hst
    by_cases hxy : x < y
    ·have hv : cmpI x y = -1 := by unfold cmpI; rw [if_pos hxy]
     rw [hv] at hcmp
     have HR : Hid (cmpL a b = -1) := by show _ = _; rw [← HF.out, HST.out, if_pos hxy]
     clear hv hxy
     go_wp2_with fail
     refine hcmp.mono ?_
     rintro e w1 ⟨rfl, rfl⟩
     go_wp2_with fail
     go_ret
     rw [HR.out]
     exact ⟨rfl, rfl⟩
    ·by_cases hyx : y < x
     ·have hv : cmpI x y = 1 := by unfold cmpI; rw [if_neg hxy, if_pos hyx]
      rw [hv] at hcmp
      have HR : Hid (cmpL a b = 1) := by show _ = _; rw [← HF.out, HST.out, if_neg hxy, if_pos hyx]
      clear hv hxy hyx
      go_wp2_with fail
      refine hcmp.mono ?_
      rintro e w1 ⟨rfl, rfl⟩
      go_wp2_with fail
      go_ret
      rw [HR.out]
      exact ⟨rfl, rfl⟩
     ·have hv : cmpI x y = 0 := by unfold cmpI; rw [if_neg hxy, if_neg hyx]
      rw [hv] at hcmp
      have HR : Hid (cmpL (a.drop (k + 1)) (b.drop (k + 1)) = cmpL a b) := by show _ = _; rw [← HF.out, HST.out, if_neg hxy, if_neg hyx]
      clear hv hxy hyx
      go_wp2_with fail
      refine hcmp.mono ?_
      rintro e w1 ⟨rfl, rfl⟩
      go_wp2_with fail
      go_roundg (na - (k + 1))
      case measure => omega
      case rel => exact ⟨k + 1, by omega, by omega, rfl, by go_num, HR, rfl⟩
   ·have HR : Hid (cmpL a b = 1) := by show _ = _; rw [← HF.out, HL.out k hlt (by omega)]
    have hkb : (nb : Int) ≤ (k : Int) := by omega
    clear hcell
    generalize a.getD k 0 = x at x1
    go_wp2_with fail
    go_ret
    rw [HR.out]
    exact ⟨rfl, rfl⟩
  ·have hke : k = na := by omega
   subst hke
   by_cases hlb : k < nb
   ·have HR : Hid (cmpL a b = -1) := by show _ = _; rw [← HF.out, HS.out k (Nat.le_refl _) hlb]
    have hkb : (k : Int) < (nb : Int) := by omega
    go_wp2_with fail
    go_ret
    rw [HR.out]
    exact ⟨rfl, rfl⟩
   ·have HR : Hid (cmpL a b = 0) := by show _ = _; rw [← HF.out, HE.out k (Nat.le_refl _) (by omega)]
    have hkb : (nb : Int) ≤ (k : Int) := by omega
    go_wp2_with fail
    go_ret
    rw [HR.out]
    exact ⟨rfl, rfl⟩
theorem order_any (A B : Option Addr) (ca cb : Nat) (a b : List Int) (N : Int) (w : World) (ha : a.length ≤ 4) (hb : b.length ≤ 4) (hA : PlAt w A ca a) (hB : PlAt w B cb b) : Calls Tryd.prog 35 #[.agg #[.slice A a.length ca, .int .i64 N], .slice B b.length cb] w fun e w' => e = .returned (.int .i64 (cmpL a b)) ∧ Below w.heap.size w w' := by
 have h0 : ∀ w', Below w.heap.size w w' → Calls Tryd.prog 52 #[.slice A a.length ca, .slice B b.length cb] w' fun e w'' => e = .returned (.int .i64 (cmpL a b)) ∧ w'' = w' := fun w' hw' => scompare_any A B ca cb a b w' ha hb (hA.later hw') (hB.later hw')
 have H : Hid (∀ w', Below w.heap.size w w' → Calls Tryd.prog 52 #[.slice A a.length ca, .slice B b.length cb] w' fun e w'' => e = .returned (.int .i64 (cmpL a b)) ∧ w'' = w') := h0
 generalize cmpL a b = c at H
 generalize a.length = na at H
 generalize b.length = nb at H
 clear hA hB h0 ha hb
 go_enter Tryd.func35, Tryd.ntmps35
 go_wp2_with fail
 refine (H.out _ (by go_grown)).mono ?_
 rintro e w1 ⟨rfl, rfl⟩
 go_wp2_with fail
 go_ret
 exact ⟨rfl, by go_grown⟩
end Go.Proofs.YtfngmnhkhfgmjacDoor
