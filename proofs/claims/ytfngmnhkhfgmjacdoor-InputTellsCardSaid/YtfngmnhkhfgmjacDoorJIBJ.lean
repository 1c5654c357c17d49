/-
  What tallysame.Place answers, called in whatever memory: whether two places are the same, one of them of no more than four numbers.
-/
import Derived.Deep.CutBlock
import Derived.Deep.QuietTactic
import Derived.BigQuiet
import Derived.WalkSmall
import Derived.Test.YtfngmnhkhfgmjacDoorJIAK
namespace Go.Proofs.YtfngmnhkhfgmjacDoor
open Go.ChangeShapes Go.WideShapes Go.ChangeAt Go.RowKit
set_option maxRecDepth 20000
theorem samepl_end {a b : List Int} (hl : a.length = b.length) {k : Nat} (hk : a.length ≤ k) (h : ∀ j, j < k → a.getD j 0 = b.getD j 0) : a = b := by
 apply List.ext_getElem hl
 intro i h1 h2
 have := h i (by omega)
 simpa [List.getD, h1, h2] using this
set_option maxHeartbeats 1000000 in
theorem samepl_any (A B : Option Addr) (ca cb : Nat) (a b : List Int) (w : World) (hn : a.length ≤ 4) (hA : PlAt w A ca a) (hB : PlAt w B cb b) : Calls Tryd.prog 42 #[.slice A a.length ca, .slice B b.length cb] w fun e w' => e = .returned (.bool (decide (a = b))) ∧ Below w.heap.size w w' := by
 by_cases hl : a.length = b.length
 ·obtain ⟨hc, h0 | ⟨g, o, rfl, hbw, hcell⟩⟩ := hA
  ·subst h0
   have h1 : b = [] := List.eq_nil_of_length_eq_zero hl.symm
   subst h1
   simp only [List.length_nil]
   go_enter Tryd.func42, Tryd.ntmps42
   go_wp2_with fail
   refine wp_loop_rounds 1 ?_
   rw [rounds_succ]
   go_wp2_with fail
   go_ret
   exact ⟨rfl, Below.refl _ _⟩
  ·obtain ⟨hc', h0 | ⟨g', o', rfl, hbw', hcell'⟩⟩ := hB
   ·subst h0
    have h1 : a = [] := List.eq_nil_of_length_eq_zero hl
    subst h1
    simp only [List.length_nil]
    go_enter Tryd.func42, Tryd.ntmps42
    go_wp2_with fail
    refine wp_loop_rounds 1 ?_
    rw [rounds_succ]
    go_wp2_with fail
    go_ret
    exact ⟨rfl, Below.refl _ _⟩
   ·have HC : Hid (∀ j, j < a.length → w.cell? ⟨g, o + j, none⟩ = some (.int .i64 (a.getD j 0))) := hcell
    have HC' : Hid (∀ j, j < a.length → w.cell? ⟨g', o' + j, none⟩ = some (.int .i64 (b.getD j 0))) := fun j hj => hcell' j (by omega)
    have HE : Hid (∀ k, a.length ≤ k → (∀ j, j < k → a.getD j 0 = b.getD j 0) → decide (a = b) = true) := fun k hk h => decide_eq_true (samepl_end hl hk h)
    have HN : Hid (∀ k, a.getD k 0 ≠ b.getD k 0 → decide (a = b) = false) := fun k h => decide_eq_false fun e => h (by rw [e])
    rw [← hl]
    rw [← hl] at hc'
    generalize hnn : a.length = n at hn hc hc' HC HC' HE
    generalize decide (a = b) = res at HE HN
    clear hcell hcell' hnn hl
    have hn' : (n : Int) ≤ 4 := by omega
    go_enter Tryd.func42, Tryd.ntmps42
    go_wp2_with fail
    go_loopg [5] n (fun gg s5 wr => ∃ (k : Nat), k ≤ n ∧ gg = n - k ∧ s5 = .int .i64 k ∧ (∀ j, j < k → a.getD j 0 = b.getD j 0) ∧ Below w.heap.size w wr)
    case atStart => exact ⟨0, Nat.zero_le _, rfl, rfl, fun j hj => absurd hj (Nat.not_lt_zero _), Below.refl _ _⟩
    case round =>
     obtain ⟨k, hk, rfl, rfl, hsame, hBw⟩ := hrel
     have HBw : Hid (Below w.heap.size w wr) := hBw
     have HS : Hid (∀ j, j < k → a.getD j 0 = b.getD j 0) := hsame
     clear hsame
     by_cases hlt : k < n
     ·have hki : (k : Int) < (n : Int) := by omega
      have x1 := (hBw.cell (p := ⟨g, o + k, none⟩) hbw).trans (HC.out k hlt)
      have x2 := (hBw.cell (p := ⟨g', o' + k, none⟩) hbw').trans (HC'.out k hlt)
      by_cases hxy : a.getD k 0 = b.getD k 0
      ·have HXY : Hid (a.getD k 0 = b.getD k 0) := hxy
       rw [← hxy] at x2
       generalize a.getD k 0 = x at x1 x2
       clear hBw hxy
       go_wp2_with fail
       go_quiet (fail)
       go_wp2_with fail
       go_roundg (n - (k + 1))
       case measure => omega
       case rel =>
        refine ⟨k + 1, by omega, rfl, by go_num, fun j hj => ?_, below_drewN HBw.out _⟩
        rcases Nat.lt_succ_iff_lt_or_eq.1 hj with h1 | rfl
        ·exact HS.out j h1
        ·exact HXY.out
      ·have HR : Hid (res = false) := HN.out k hxy
       generalize a.getD k 0 = x at x1 hxy
       generalize b.getD k 0 = y at x2 hxy
       clear hBw
       go_wp2_with fail
       go_quiet (fail)
       go_wp2_with fail
       go_ret
       rw [HR.out]
       exact ⟨rfl, below_drewN HBw.out _⟩
     ·have hke : k = n := by omega
      subst hke
      have HR : Hid (res = true) := HE.out k (Nat.le_refl _) HS.out
      go_wp2_with fail
      go_ret
      rw [HR.out]
      exact ⟨rfl, hBw⟩
 ·have hr : decide (a = b) = false := decide_eq_false fun e => hl (by rw [e])
  rw [hr]
  have hl' : ¬ ((a.length : Int) = (b.length : Int)) := by omega
  clear hA hB hr
  generalize a.length = n at hl hl' hn
  generalize b.length = m at hl hl'
  go_enter Tryd.func42, Tryd.ntmps42
  go_wp2_with fail
  go_ret
  exact ⟨rfl, Below.refl _ _⟩
end Go.Proofs.YtfngmnhkhfgmjacDoor
