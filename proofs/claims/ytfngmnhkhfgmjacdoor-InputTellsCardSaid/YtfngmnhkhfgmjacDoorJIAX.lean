/-
  An entry found among those that rise: what slices.BinarySearchFunc and find answer, called in whatever memory.
-/
import Derived.Test.YtfngmnhkhfgmjacDoorJIAW
namespace Go.Proofs.YtfngmnhkhfgmjacDoor
open Go.ChangeShapes Go.WideShapes Go.ChangeAt Go.RowKit
set_option maxRecDepth 20000
theorem order_in : EntersO 35 := fun args w => by simp [callFunc, Tryd.func35]; rfl
def Short (xs : List EnL) (p : List Int) : Prop := (∀ k, k < xs.length → (xs.getD k noL).e.pl.length ≤ 4) ∧ p.length ≤ 4
set_option maxHeartbeats 4000000 in
theorem bsf_any (b o cap : Nat) (xs : List EnL) (Ap : Option Addr) (cp : Nat) (p : List Int) (w : World) (hn : xs.length ≤ 3000) (hE : EnsAt w b o xs) (hr : (lE xs).Pairwise fun a b => lessL a.pl b.pl = true) (hS : Short xs p) (hP : PlAt w Ap cp p) :
  Calls Tryd.prog 55 #[.slice (some ⟨b, o, none⟩) xs.length cap, .slice Ap p.length cp, .func (.func 35) #[] #[]] w fun e w' => e = .returned (.tuple #[.int .i64 (cntE (lE xs) p : Nat), .bool (hasE (lE xs) p)]) ∧ Below w.heap.size w w' := by
 have he := order_in
 unfold EntersO at he
 have HO : Hid (∀ k wr, k < xs.length → Below w.heap.size w wr → Calls Tryd.prog 35 #[.agg #[.slice (xs.getD k noL).A (xs.getD k noL).e.pl.length (xs.getD k noL).c, .int .i64 (xs.getD k noL).e.n], .slice Ap p.length cp] wr fun e w' => e = .returned (.int .i64 (cmpL (xs.getD k noL).e.pl p)) ∧ Below wr.heap.size wr w') := fun k wr hk hB => order_any _ _ _ _ _ _ _ wr (hS.1 k hk) hS.2 ((hE.pl hk).later hB) (hP.later hB)
 have HE : Hid (EnsAt w b o xs) := hE
 have HM : Hid (∀ j k, j ≤ k → k < xs.length → cmpL (xs.getD k noL).e.pl p < 0 → cmpL (xs.getD j noL).e.pl p < 0) := fun j k hjk hk h => by
  have h1 : lessL ((lE xs).getD k noEn).pl p = true := by rw [lE_at, ← cmpL_neg]; exact decide_eq_true h
  have h2 := less_mono hr hjk (by rw [lE_len]; exact hk) h1
  rw [lE_at, ← cmpL_neg] at h2
  exact of_decide_eq_true h2
 have HC : Hid (∀ i, i ≤ xs.length → (∀ t, t < i → cmpL (xs.getD t noL).e.pl p < 0) → (i < xs.length → ¬ cmpL (xs.getD i noL).e.pl p < 0) → cntE (lE xs) p = i) := fun i hi h1 h2 => cnt_at _ _ i (by rw [lE_len]; exact hi) (fun t ht => by rw [lE_at, ← cmpL_neg]; exact decide_eq_true (h1 t ht)) (fun h3 => by rw [lE_len] at h3; rw [lE_at, ← cmpL_neg]; exact decide_eq_false (h2 h3))
 have HH : Hid (∀ i, cntE (lE xs) p = i → i < xs.length → hasE (lE xs) p = decide (cmpL (xs.getD i noL).e.pl p = 0)) := fun i h1 h2 => by rw [← lE_at]; exact (has_cmp h1 (by rw [lE_len]; exact h2)).symm
 have HH2 : Hid (∀ i, cntE (lE xs) p = i → xs.length ≤ i → hasE (lE xs) p = false) := fun i h1 h2 => (has_out h1 (by rw [lE_len]; exact h2)).1
 obtain ⟨n, hnn⟩ : ∃ n, xs.length = n := ⟨_, rfl⟩
 obtain ⟨np, hnp⟩ : ∃ np, p.length = np := ⟨_, rfl⟩
 have HN : Hid (xs.length = n) := hnn
 rw [hnn] at hn HO HM HC HH HH2 ⊢
 rw [hnp] at HO ⊢
 generalize cntE (lE xs) p = cnt at HC HH HH2
 generalize hasE (lE xs) p = has at HH HH2
 have hn' : (n : Int) ≤ 3000 := by omega
 clear hE hr hS hP hnn hnp
 go_enter Tryd.func55, Tryd.ntmps55
 go_wp2_with fail
 go_loopg [9, 10] n (fun g s9 s10 wr => ∃ (lo hi : Nat), lo ≤ hi ∧ hi ≤ n ∧ g = hi - lo ∧ s9 = .int .i64 lo ∧ s10 = .int .i64 hi ∧ Hid (∀ t, t < lo → cmpL (xs.getD t noL).e.pl p < 0) ∧ Hid (∀ t, hi ≤ t → t < n → ¬ cmpL (xs.getD t noL).e.pl p < 0) ∧ Below w.heap.size w wr)
 case atStart => exact ⟨0, n, Nat.zero_le _, Nat.le_refl _, rfl, rfl, rfl, fun t ht => absurd ht (Nat.not_lt_zero _), fun t h1 h2 => absurd h2 (Nat.not_lt.2 h1), Below.refl _ _⟩
 case round =>
  obtain ⟨lo, hi, hlh, hhn, rfl, rfl, rfl, HL, HU, hBw⟩ := hrel
  have HBw : Hid (Below w.heap.size w wr) := hBw
  have hhn' : (hi : Int) ≤ (n : Int) := by omega
  by_cases hlt : lo < hi
  ·obtain ⟨c1, c2⟩ := (HE.out.later hBw).at (k := (lo + hi) / 2) (by rw [HN.out]; omega)
   have hc := HO.out ((lo + hi) / 2) wr (by omega) hBw
   have hlt' : (lo : Int) < (hi : Int) := by omega
   obtain ⟨c, hcc⟩ : ∃ c, cmpL (xs.getD ((lo + hi) / 2) noL).e.pl p = c := ⟨_, rfl⟩
   have HCC : Hid (cmpL (xs.getD ((lo + hi) / 2) noL).e.pl p = c) := hcc
   rw [hcc] at hc
   generalize (xs.getD ((lo + hi) / 2) noL).A = A1 at c1 hc
   generalize (xs.getD ((lo + hi) / 2) noL).c = k1 at c1 hc
   generalize (xs.getD ((lo + hi) / 2) noL).e.pl.length = m1 at c1 hc
   generalize (xs.getD ((lo + hi) / 2) noL).e.n = n1 at c2 hc
   clear hcc hBw
   by_cases hneg : c < 0
   ·go_wp2_with fail
    refine hc.mono ?_
    rintro e w1 ⟨rfl, hb1⟩
    go_wp2_with fail
    go_roundg (hi - ((lo + hi) / 2 + 1))
    case measure => omega
    case rel => exact ⟨(lo + hi) / 2 + 1, hi, by omega, hhn, rfl, by congr 1, rfl, fun t ht => HM.out t ((lo + hi) / 2) (by omega) (by omega) (by rw [HCC.out]; exact hneg), HU, onB HBw.out hb1⟩
   ·go_wp2_with fail
    refine hc.mono ?_
    rintro e w1 ⟨rfl, hb1⟩
    go_wp2_with fail
    go_roundg ((lo + hi) / 2 - lo)
    case measure => omega
    case rel => exact ⟨lo, (lo + hi) / 2, by omega, by omega, rfl, rfl, by congr 1, HL, fun t h1 h2 => Int.not_lt.1 fun h3 => by have h4 := HM.out ((lo + hi) / 2) t h1 h2 h3; rw [HCC.out] at h4; omega, onB HBw.out hb1⟩
  ·have hle : hi = lo := by omega
   subst hle
   have HCN : Hid (cnt = hi) := HC.out hi hhn (fun t ht => HL.out t ht) (fun h => by have h4 := HU.out hi (Nat.le_refl _) h; omega)
   by_cases hln : hi < n
   ·obtain ⟨c1, c2⟩ := (HE.out.later hBw).at (k := hi) (by rw [HN.out]; exact hln)
    have hc := HO.out hi wr hln hBw
    have HHI : Hid (has = decide (cmpL (xs.getD hi noL).e.pl p = 0)) := HH.out hi HCN.out hln
    generalize cmpL (xs.getD hi noL).e.pl p = c at hc HHI
    generalize (xs.getD hi noL).A = A1 at c1 hc
    generalize (xs.getD hi noL).c = k1 at c1 hc
    generalize (xs.getD hi noL).e.pl.length = m1 at c1 hc
    generalize (xs.getD hi noL).e.n = n1 at c2 hc
    have hln' : (hi : Int) < (n : Int) := by omega
    clear hBw
    go_wp2_with fail
    refine hc.mono ?_
    rintro e w1 ⟨rfl, hb1⟩
    go_wp2_with fail
    go_ret2
    rw [HCN.out, HHI.out]
    exact ⟨rfl, onB HBw.out hb1⟩
   ·have HHI : Hid (has = false) := HH2.out hi HCN.out (by omega)
    have hln' : (n : Int) ≤ (hi : Int) := by omega
    go_wp2_with fail
    go_ret2
    rw [HCN.out, HHI.out]
    exact ⟨rfl, hBw⟩
theorem bsf_none (A : Option Addr) (cap : Nat) (Ap : Option Addr) (cp np : Nat) (w : World) : Calls Tryd.prog 55 #[.slice A 0 cap, .slice Ap np cp, .func (.func 35) #[] #[]] w fun e w' => e = .returned (.tuple #[.int .i64 0, .bool false]) ∧ Below w.heap.size w w' := by
 go_enter Tryd.func55, Tryd.ntmps55
 go_wp2_with fail
 refine wp_loop_rounds 1 ?_
 rw [rounds_succ]
 go_wp2_with fail
 go_ret2
 exact ⟨rfl, Below.refl _ _⟩
theorem ifind_any (A : Option Addr) (cap : Nat) (xs : List EnL) (Ap : Option Addr) (cp : Nat) (p : List Int) (w : World) (hn : xs.length ≤ 3000) (hE : EnsV w A cap xs) (hr : (lE xs).Pairwise fun a b => lessL a.pl b.pl = true) (hS : Short xs p) (hP : PlAt w Ap cp p) :
  Calls Tryd.prog 38 #[.slice A xs.length cap, .slice Ap p.length cp] w fun e w' => e = .returned (.tuple #[.int .i64 (cntE (lE xs) p : Nat), .bool (hasE (lE xs) p)]) ∧ Below w.heap.size w w' := by
 have h : Calls Tryd.prog 55 #[.slice A xs.length cap, .slice Ap p.length cp, .func (.func 35) #[] #[]] w fun e w' => e = .returned (.tuple #[.int .i64 (cntE (lE xs) p : Nat), .bool (hasE (lE xs) p)]) ∧ Below w.heap.size w w' := by
  obtain ⟨-, -, rfl | ⟨b, o, rfl, hA⟩⟩ := hE
  ·exact bsf_none A cap Ap cp p.length w
  ·exact bsf_any b o cap xs Ap cp p w hn hA hr hS hP
 generalize cntE (lE xs) p = cnt at h
 generalize hasE (lE xs) p = has at h
 generalize xs.length = n at h
 generalize p.length = np at h
 clear hE hr hS hP hn
 go_enter Tryd.func38, Tryd.ntmps38
 go_wp2_with fail
 refine h.mono ?_
 rintro e w1 ⟨rfl, hb1⟩
 go_wp2_with fail
 go_ret2
 exact ⟨rfl, hb1⟩
end Go.Proofs.YtfngmnhkhfgmjacDoor
