/-
  Two lists of entries compared: what tallysame.Entries answers of two that hold the same.
-/
import Derived.Test.YtfngmnhkhfgmjacDoorJIBI
import Derived.Test.YtfngmnhkhfgmjacDoorJIBJ
namespace Go.Proofs.YtfngmnhkhfgmjacDoor
open Go.ChangeShapes Go.WideShapes Go.ChangeAt Go.RowKit
set_option maxRecDepth 20000
theorem keepE {W w' : World} {b o b' o' : Nat} {u v : Value} (h : b < W.heap.size ∧ b' < W.heap.size ∧ W.cell? ⟨b, o, none⟩ = some u ∧ W.cell? ⟨b', o', none⟩ = some v) (hB : Below W.heap.size W w') : Below W.heap.size W w' ∧ w'.cell? ⟨b, o, none⟩ = some u ∧ w'.cell? ⟨b', o', none⟩ = some v :=
 ⟨hB, (hB.cell (p := ⟨b, o, none⟩) h.1).trans h.2.2.1, (hB.cell (p := ⟨b', o', none⟩) h.2.1).trans h.2.2.2⟩
set_option maxHeartbeats 8000000 in
theorem sameents_any (A B : Option Addr) (ca cb : Nat) (xs ys : List EnL) (w : World) (hl : lE xs = lE ys) (hn : xs.length ≤ 3000) (hS : ∀ k, k < xs.length → (xs.getD k noL).e.pl.length ≤ 4) (hA : EnsV w A ca xs) (hB : EnsV w B cb ys) :
  Calls Tryd.prog 21 #[.slice A xs.length ca, .slice B ys.length cb] w fun e w' => e = .returned (.bool true) ∧ Below w.heap.size w w' := by
 have hll : ys.length = xs.length := by rw [← lE_len, ← hl, lE_len]
 have HA : Hid (EnsV w A ca xs) := hA
 have HB : Hid (EnsV w B cb ys) := hB
 have HEq : Hid (∀ k, (ys.getD k noL).e = (xs.getD k noL).e) := fun k => by rw [← lE_at, ← lE_at, hl]
 have HS : Hid (∀ k, k < xs.length → (xs.getD k noL).e.pl.length ≤ 4) := hS
 obtain ⟨n, hnn⟩ : ∃ n, xs.length = n := ⟨_, rfl⟩
 have HN : Hid (xs.length = n) := hnn
 have HN2 : Hid (ys.length = n) := hll.trans hnn
 rw [hll]
 rw [hnn] at hn ⊢
 have hn' : (n : Int) ≤ 3000 := by omega
 clear hA hB hl hS hll hnn
 go_enter Tryd.func21, Tryd.ntmps21
 go_wp2_with fail
 go_loopg [5] n (fun g s5 wr => ∃ (k : Nat), k ≤ n ∧ g = n - k ∧ s5 = .int .i64 k ∧ Below w.heap.size w wr)
 case atStart => exact ⟨0, Nat.zero_le _, rfl, rfl, Below.refl _ _⟩
 case round =>
  obtain ⟨k, hk, rfl, rfl, hBw⟩ := hrel
  have HBw : Hid (Below w.heap.size w wr) := hBw
  by_cases hlt : k < n
  ·have hki : (k : Int) < (n : Int) := by omega
   obtain ⟨-, -, h0 | ⟨b, o, rfl, hXs⟩⟩ := HA.out.later hBw
   ·have := HN.out; rw [h0] at this; simp at this; omega
   obtain ⟨-, -, h0 | ⟨b', o', rfl, hYs⟩⟩ := HB.out.later hBw
   ·have := HN2.out; rw [h0] at this; simp at this; omega
   obtain ⟨c1, c2⟩ := hXs.at (k := k) (by rw [HN.out]; exact hlt)
   obtain ⟨d1, d2⟩ := hYs.at (k := k) (by rw [HN2.out]; exact hlt)
   have hp1 := hXs.pl (k := k) (by rw [HN.out]; exact hlt)
   have hp2 := hYs.pl (k := k) (by rw [HN2.out]; exact hlt)
   rw [HEq.out k] at d1 d2 hp2
   have HSm : Hid (∀ w', Below wr.heap.size wr w' → Calls Tryd.prog 42 #[.slice (xs.getD k noL).A (xs.getD k noL).e.pl.length (xs.getD k noL).c, .slice (ys.getD k noL).A (xs.getD k noL).e.pl.length (ys.getD k noL).c] w' fun e w'' => e = .returned (.bool true) ∧ Below w'.heap.size w' w'') := fun w' hw' => by
    have h := samepl_any _ _ _ _ _ _ w' (HS.out k (by rw [HN.out]; exact hlt)) (hp1.later hw') (hp2.later hw')
    rw [decide_eq_true rfl] at h
    exact h
   have hb1 := hXs.1
   have hb2 := hYs.1
   generalize (xs.getD k noL).A = A1 at c1 HSm
   generalize (xs.getD k noL).c = k1 at c1 HSm
   generalize (ys.getD k noL).A = A2 at d1 HSm
   generalize (ys.getD k noL).c = k2 at d1 HSm
   generalize (xs.getD k noL).e.n = n1 at c2 d2
   generalize (xs.getD k noL).e.pl.length = m1 at c1 d1 HSm
   have HC : Hid (b < wr.heap.size ∧ b' < wr.heap.size ∧ wr.cell? ⟨b, o + k * 2, none⟩ = some (.slice A1 m1 k1) ∧ wr.cell? ⟨b', o' + k * 2, none⟩ = some (.slice A2 m1 k2)) := ⟨hb1, hb2, c1, d1⟩
   have HC2 : Hid (wr.cell? ⟨b, o + k * 2 + 1, none⟩ = some (.int .i64 n1) ∧ wr.cell? ⟨b', o' + k * 2 + 1, none⟩ = some (.int .i64 n1)) := ⟨c2, d2⟩
   clear hXs hYs hp1 hp2 c1 c2 d1 d2 hBw
   go_wp2_with fail
   go_cut [6] (fun s6 wx => s6 = .bool true ∧ Below wr.heap.size wr wx)
   case first => as_aux_lemma =>
    go_region_held3 (fun w' => Below wr.heap.size wr w' ∧ w'.cell? ⟨b, o + k * 2, none⟩ = some (.slice A1 m1 k1) ∧ w'.cell? ⟨b', o' + k * 2, none⟩ = some (.slice A2 m1 k2))
     ((refine keepE HC.out ?_; go_grown; done))
     (first | (go_at_call 42; refine (HSm.out _ (by go_grown)).mono ?_; rintro e w3 ⟨rfl, hb3⟩; have hN3 := onB (W0 := wr) (by go_grown) hb3; have hy3 := hN3.size; clear hb3))
    all_goals go_wp2_with fail
    all_goals go_meet
    all_goals exact ⟨rfl, by go_grown⟩
   case rest => as_aux_lemma =>
   obtain ⟨rfl, hb⟩ := hcut
   obtain ⟨w2, rfl⟩ : ∃ w2 : World, w2 = wc := ⟨_, rfl⟩
   have HB2 : Hid (Below wr.heap.size wr w2) := hb
   have f1 : w2.cell? ⟨b, o + k * 2 + 1, none⟩ = some (.int .i64 n1) := (hb.cell (p := ⟨b, o + k * 2 + 1, none⟩) hb1).trans HC2.out.1
   have f2 : w2.cell? ⟨b', o' + k * 2 + 1, none⟩ = some (.int .i64 n1) := (hb.cell (p := ⟨b', o' + k * 2 + 1, none⟩) hb2).trans HC2.out.2
   clear hb HC HC2 HSm
   go_wp2_with fail
   go_quiet (fail)
   go_wp2_with fail
   go_roundg (n - (k + 1))
   case measure => omega
   case rel => exact ⟨k + 1, by omega, rfl, by go_num, below_drewN (onB HBw.out HB2.out) _⟩
  ·have hke : k = n := by omega
   subst hke
   go_wp2_with fail
   go_ret
   exact ⟨rfl, hBw⟩
end Go.Proofs.YtfngmnhkhfgmjacDoor
