/-
  What the document's Less, Find and Input answer, called in whatever memory.
-/
import Derived.Test.YtfngmnhkhfgmjacDoorJIBC
namespace Go.Proofs.YtfngmnhkhfgmjacDoor
open Go.ChangeShapes Go.WideShapes Go.ChangeAt Go.RowKit
set_option maxRecDepth 20000
set_option maxHeartbeats 2000000 in
theorem rless_any (A B : Option Addr) (ca cb : Nat) (a b : List Int) (w : World) (ha : a.length ≤ 4) (hb : b.length ≤ 4) (hA : PlAt w A ca a) (hB : PlAt w B cb b) : Calls Tryd.prog 33 #[.slice A a.length ca, .slice B b.length cb] w fun e w' => e = .returned (.bool (lessL a b)) ∧ Below w.heap.size w w' := by
 have HA : Hid (PlAt w A ca a) := hA
 have HB : Hid (PlAt w B cb b) := hB
 have HN : Hid (∀ k, k < a.length → k < b.length → lessL (a.drop k) (b.drop k) = if a.getD k 0 = b.getD k 0 then lessL (a.drop (k + 1)) (b.drop (k + 1)) else decide (a.getD k 0 < b.getD k 0)) := fun k h1 h2 => lessL_in h1 h2
 have HL : Hid (∀ k, b.length ≤ k → lessL (a.drop k) (b.drop k) = false) := fun k h2 => lessL_long h2
 have HS : Hid (∀ k, a.length ≤ k → k < b.length → lessL (a.drop k) (b.drop k) = true) := fun k h1 h2 => lessL_short h1 h2
 obtain ⟨na, hna⟩ : ∃ na, a.length = na := ⟨_, rfl⟩
 obtain ⟨nb, hnb⟩ : ∃ nb, b.length = nb := ⟨_, rfl⟩
 have HNA : Hid (a.length = na) := hna
 have HNB : Hid (b.length = nb) := hnb
 rw [hna] at HN HS ha
 rw [hnb] at HN HL HS hb
 rw [hna, hnb]
 have ha' : (na : Int) ≤ 4 := by omega
 have hb' : (nb : Int) ≤ 4 := by omega
 clear hA hB hna hnb
 go_enter Tryd.func33, Tryd.ntmps33
 go_wp2_with fail
 go_loopg [5] na (fun g s5 wr => ∃ (k : Nat), k ≤ na ∧ k ≤ nb ∧ g = na - k ∧ s5 = .int .i64 k ∧ Hid (lessL (a.drop k) (b.drop k) = lessL a b) ∧ Below w.heap.size w wr)
 case atStart => exact ⟨0, Nat.zero_le _, Nat.zero_le _, rfl, rfl, (rfl : lessL (a.drop 0) (b.drop 0) = lessL a b), Below.refl _ _⟩
 case round =>
  obtain ⟨k, hk, hk2, rfl, rfl, HF, hBw⟩ := hrel
  have HBw : Hid (Below w.heap.size w wr) := hBw
  by_cases hlt : k < na
  ·have hki : (k : Int) < (na : Int) := by omega
   by_cases hlb : k < nb
   ·obtain ⟨hc, h0 | ⟨g1, o1, rfl, hbw, hcell⟩⟩ := HA.out.later hBw
    ·have := HNA.out; rw [h0] at this; simp at this; omega
    obtain ⟨hc', h0 | ⟨g2, o2, rfl, hbw2, hcell2⟩⟩ := HB.out.later hBw
    ·have := HNB.out; rw [h0] at this; simp at this; omega
    have x1 := hcell k (by rw [HNA.out]; exact hlt)
    have x2 := hcell2 k (by rw [HNB.out]; exact hlb)
    have hkb : (k : Int) < (nb : Int) := by omega
    have hst := HN.out k hlt hlb
    generalize a.getD k 0 = x at x1 hst
    generalize b.getD k 0 = y at x2 hst
    clear hcell hcell2 hBw
    by_cases hxy : x = y
    ·have HR : Hid (lessL (a.drop (k + 1)) (b.drop (k + 1)) = lessL a b) := by show _ = _; rw [← HF.out, hst, if_pos hxy]
     subst hxy
     clear hst
     go_wp2_with fail
     go_quiet (fail)
     go_wp2_with fail
     go_roundg (na - (k + 1))
     case measure => omega
     case rel => exact ⟨k + 1, by omega, by omega, rfl, by go_num, HR, below_drewN HBw.out _⟩
    ·have HR : Hid (lessL a b = decide (x < y)) := by show _ = _; rw [← HF.out, hst, if_neg hxy]
     clear hst
     go_wp2_with fail
     go_quiet (fail)
     go_wp2_with fail
     go_quiet (fail)
     go_wp2_with fail
     go_ret
     rw [HR.out]
     exact ⟨rfl, below_drewN (below_drewN HBw.out _) _⟩
   ·have HR : Hid (lessL a b = false) := by show _ = _; rw [← HF.out, HL.out k (by omega)]
    have hkb : (nb : Int) ≤ (k : Int) := by omega
    have hnn : decide ((na : Int) < (nb : Int)) = false := decide_eq_false (by omega)
    have hnn' : decide (na < nb) = false := decide_eq_false (by omega)
    clear hBw
    go_wp2_with fail
    go_ret
    rw [HR.out]
    exact ⟨rfl, HBw.out⟩
  ·have hke : k = na := by omega
   subst hke
   by_cases hlb : k < nb
   ·have HR : Hid (lessL a b = true) := by show _ = _; rw [← HF.out, HS.out k (Nat.le_refl _) hlb]
    have hkb : (k : Int) < (nb : Int) := by omega
    clear hBw
    go_wp2_with fail
    go_ret
    rw [HR.out]
    exact ⟨rfl, HBw.out⟩
   ·have HR : Hid (lessL a b = false) := by show _ = _; rw [← HF.out, HL.out k (by omega)]
    have hkb : (nb : Int) ≤ (k : Int) := by omega
    clear hBw
    go_wp2_with fail
    go_ret
    rw [HR.out]
    exact ⟨rfl, HBw.out⟩
set_option maxHeartbeats 4000000 in
theorem rfind_any (A : Option Addr) (cap : Nat) (xs : List EnL) (Ap : Option Addr) (cp : Nat) (p : List Int) (w : World) (hn : xs.length ≤ 3000) (hE : EnsV w A cap xs) (hS : Short xs p) (hP : PlAt w Ap cp p) :
  Calls Tryd.prog 36 #[.slice A xs.length cap, .slice Ap p.length cp] w fun e w' => e = .returned (.tuple #[.int .i64 (cntE (lE xs) p : Nat), .bool (hasE (lE xs) p)]) ∧ Below w.heap.size w w' := by
 have HE : Hid (EnsV w A cap xs) := hE
 have HLs : Hid (∀ k w', k < xs.length → Below w.heap.size w w' → Calls Tryd.prog 33 #[.slice (xs.getD k noL).A (xs.getD k noL).e.pl.length (xs.getD k noL).c, .slice Ap p.length cp] w' fun e w'' => e = .returned (.bool (lessL (xs.getD k noL).e.pl p)) ∧ Below w'.heap.size w' w'') := fun k w' hk hw' => by
  obtain ⟨-, -, h0 | ⟨b, o, h0, hA⟩⟩ := hE.later hw'
  ·rw [h0] at hk; simp at hk
  ·exact rless_any _ _ _ _ _ _ w' (hS.1 k hk) hS.2 (hA.pl hk) (hP.later hw')
 have HLb : Hid (∀ k w', k < xs.length → Below w.heap.size w w' → Calls Tryd.prog 33 #[.slice Ap p.length cp, .slice (xs.getD k noL).A (xs.getD k noL).e.pl.length (xs.getD k noL).c] w' fun e w'' => e = .returned (.bool (lessL p (xs.getD k noL).e.pl)) ∧ Below w'.heap.size w' w'') := fun k w' hk hw' => by
  obtain ⟨-, -, h0 | ⟨b, o, h0, hA⟩⟩ := hE.later hw'
  ·rw [h0] at hk; simp at hk
  ·exact rless_any _ _ _ _ _ _ w' hS.2 (hS.1 k hk) (hP.later hw') (hA.pl hk)
 have HC : Hid (∀ i, i ≤ xs.length → (∀ t, t < i → lessL (xs.getD t noL).e.pl p = true) → (i < xs.length → lessL (xs.getD i noL).e.pl p = false) → cntE (lE xs) p = i) := fun i hi h1 h2 => cnt_at _ _ i (by rw [lE_len]; exact hi) (fun t ht => by rw [lE_at]; exact h1 t ht) (fun h3 => by rw [lE_len] at h3; rw [lE_at]; exact h2 h3)
 have HH : Hid (∀ i, cntE (lE xs) p = i → i < xs.length → hasE (lE xs) p = !lessL p (xs.getD i noL).e.pl) := fun i h1 h2 => by rw [← lE_at]; exact (has_in h1 (by rw [lE_len]; exact h2)).1
 have HH2 : Hid (∀ i, cntE (lE xs) p = i → xs.length ≤ i → hasE (lE xs) p = false) := fun i h1 h2 => (has_out h1 (by rw [lE_len]; exact h2)).1
 obtain ⟨n, hnn⟩ : ∃ n, xs.length = n := ⟨_, rfl⟩
 obtain ⟨np, hnp⟩ : ∃ np, p.length = np := ⟨_, rfl⟩
 have HN : Hid (xs.length = n) := hnn
 rw [hnn] at hn HLs HLb HC HH HH2 ⊢
 rw [hnp] at HLs HLb ⊢
 generalize cntE (lE xs) p = cnt at HC HH HH2
 generalize hasE (lE xs) p = has at HH HH2
 have hn' : (n : Int) ≤ 3000 := by omega
 clear hE hS hP hnn hnp
 go_enter Tryd.func36, Tryd.ntmps36
 go_wp2_with fail
 go_loopg [6] n (fun g s6 wr => ∃ (k : Nat), k ≤ n ∧ g = n - k ∧ s6 = .int .i64 k ∧ Hid (∀ t, t < k → lessL (xs.getD t noL).e.pl p = true) ∧ Below w.heap.size w wr)
 case atStart => exact ⟨0, Nat.zero_le _, rfl, rfl, fun t ht => absurd ht (Nat.not_lt_zero _), Below.refl _ _⟩
 case round =>
  obtain ⟨k, hk, rfl, rfl, HLt, hBw⟩ := hrel
  have HBw : Hid (Below w.heap.size w wr) := hBw
  by_cases hlt : k < n
  ·obtain ⟨-, -, h0 | ⟨b, o, rfl, hA⟩⟩ := HE.out.later hBw
   ·have := HN.out; rw [h0] at this; simp at this; omega
   obtain ⟨c1, -⟩ := hA.at (k := k) (by rw [HN.out]; exact hlt)
   have h1 := HLs.out k wr hlt hBw
   have HLk : Hid (∀ w', Below w.heap.size w w' → Calls Tryd.prog 33 #[.slice Ap np cp, .slice (xs.getD k noL).A (xs.getD k noL).e.pl.length (xs.getD k noL).c] w' fun e w'' => e = .returned (.bool (lessL p (xs.getD k noL).e.pl)) ∧ Below w'.heap.size w' w'') := fun w' hw' => HLb.out k w' hlt hw'
   have hki : (k : Int) < (n : Int) := by omega
   have hbb := hA.1
   cases hl : lessL (xs.getD k noL).e.pl p
   ·have HCN : Hid (cnt = k) := HC.out k hk HLt.out (fun _ => hl)
    have HHI : Hid (has = !lessL p (xs.getD k noL).e.pl) := HH.out k HCN.out hlt
    rw [hl] at h1
    generalize lessL p (xs.getD k noL).e.pl = bk at HLk HHI
    generalize (xs.getD k noL).A = A1 at c1 h1 HLk
    generalize (xs.getD k noL).c = k1 at c1 h1 HLk
    generalize (xs.getD k noL).e.pl.length = m1 at c1 h1 HLk
    have hne : ((k : Int) == (n : Int)) = false := by simp; omega
    clear hl hA hBw
    go_wp2_with fail
    refine h1.mono ?_
    rintro e w1 ⟨rfl, hb1⟩
    have hB1 : Below w.heap.size w w1 := onB HBw.out hb1
    have HB1 : Hid (Below w.heap.size w w1) := hB1
    have d1 : w1.cell? ⟨b, o + k * 2, none⟩ = some (.slice A1 m1 k1) := (hb1.cell (p := ⟨b, o + k * 2, none⟩) hbb).trans c1
    have h2 := HLk.out w1 hB1
    clear hb1 h1 c1 hB1
    go_wp2_with fail
    refine h2.mono ?_
    rintro e w2 ⟨rfl, hb2⟩
    have HB2 : Hid (Below w.heap.size w w2) := onB HB1.out hb2
    clear hb2 h2 d1
    go_wp2_with fail
    go_ret2
    rw [HCN.out, HHI.out]
    exact ⟨rfl, HB2.out⟩
   ·have HT : Hid (∀ t, t < k + 1 → lessL (xs.getD t noL).e.pl p = true) := fun t ht => by
     rcases Nat.lt_succ_iff_lt_or_eq.1 ht with h2 | rfl
     ·exact HLt.out t h2
     ·exact hl
    rw [hl] at h1
    generalize (xs.getD k noL).A = A1 at c1 h1
    generalize (xs.getD k noL).c = k1 at c1 h1
    generalize (xs.getD k noL).e.pl.length = m1 at c1 h1
    clear hl hA hBw HLk
    go_wp2_with fail
    refine h1.mono ?_
    rintro e w1 ⟨rfl, hb1⟩
    have HB1 : Hid (Below w.heap.size w w1) := onB HBw.out hb1
    clear hb1 h1 c1
    go_wp2_with fail
    go_roundg (n - (k + 1))
    case measure => omega
    case rel => exact ⟨k + 1, by omega, rfl, by go_num, HT, HB1.out⟩
  ·have hke : k = n := by omega
   subst hke
   have HCN : Hid (cnt = k) := HC.out k hk HLt.out (fun h => absurd h (Nat.lt_irrefl _))
   have HHI : Hid (has = false) := HH2.out k HCN.out (Nat.le_refl _)
   go_wp2_with fail
   go_ret2
   rw [HCN.out, HHI.out]
   exact ⟨rfl, hBw⟩
end Go.Proofs.YtfngmnhkhfgmjacDoor
