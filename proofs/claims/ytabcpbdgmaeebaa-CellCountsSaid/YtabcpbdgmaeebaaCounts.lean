/-
  The walk of tallylaw4.CellCounts: n ones added and 2 multiplied n times, round by round; it returns true for each n.
-/
import Derived.Test.YtabcpbdgmaeebaaCells6
import Derived.Deep.RegionWith
namespace Go.Proofs.Ytabcpbdgmaeebaa
open Go.ChangeShapes Go.WideShapes Go.ChangeAt Go.RowKit

def Var (s : Nat) (k n : Int) (w : World) : Prop := At s k n w ∧ w.frozen? ⟨s, 0, none⟩ = false ∧ w.frozen? ⟨s, 1, none⟩ = false
theorem Var.later {s : Nat} {k n : Int} {w w' : World} (h : Var s k n w) (hb : Below w.heap.size w w') : Var s k n w' :=
  ⟨h.1.later hb, (hb.frozen (p := ⟨s, 0, none⟩) h.1.1).trans h.2.1, (hb.frozen (p := ⟨s, 1, none⟩) h.1.1).trans h.2.2⟩
theorem Var.new (k n : Int) (w : World) (T : Nat) : Var w.heap.size k n (w.alloc (.cells #[.int .i64 k, .int .i64 n] T)) := ⟨At.new k n w T, by simp [go_sem], by simp [go_sem]⟩
theorem Var.set {s : Nat} {k n k' n' : Int} {w : World} (h : Var s k n w) : Var s k' n' ((w.setCell ⟨s, 0, none⟩ (.int .i64 k')).setCell ⟨s, 1, none⟩ (.int .i64 n')) :=
  ⟨At.set h.1.1 h.1.2.1 h.1.2.2, by simp [go_sem, h.2.1], by simp [go_sem, h.2.2]⟩
theorem Var.other {s t : Nat} {k n k' n' : Int} {w : World} (h : Var s k n w) (hne : ¬ s = t) : Var s k n ((w.setCell ⟨t, 0, none⟩ (.int .i64 k')).setCell ⟨t, 1, none⟩ (.int .i64 n')) := by
  have h1 : ¬ t = s := fun e => hne e.symm
  refine ⟨⟨by simpa using h.1.1, ?_, ?_⟩, by simp [go_sem, h.2.1], by simp [go_sem, h.2.2]⟩
  · rw [World.cell?_setCell_far _ _ _ _ (by exact h1), World.cell?_setCell_far _ _ _ _ (by exact h1)]; exact h.1.2.1
  · rw [World.cell?_setCell_far _ _ _ _ (by exact h1), World.cell?_setCell_far _ _ _ _ (by exact h1)]; exact h.1.2.2

def Inv (k : Nat) (wt kb nb : Int) : Prop := 1 ≤ wt ∧ wt ≤ 2000000000000 ∧ (k = 0 → wt = 1) ∧ ((wt ≤ 1000000000000 ∧ kb = 1 ∧ nb = wt) ∨ (1000000000000 < wt ∧ kb = 2 ∧ nb = 0))
def ka (k : Nat) : Int := if k = 0 then 0 else 1

theorem plus_num (k : Nat) : plusP (ka k) k 1 1 = ofP (k + 1) := by
  unfold plusP joinP ka
  split
  · next h => subst h; rw [if_neg (by omega), if_neg (by decide)]
  · rw [if_neg (by omega), if_neg (by decide)]
theorem add_step (k : Nat) (hk : k ≤ 50) : OpTo 8 (ka k) k 1 1 1 (k + 1) .nilIface := by
  have h := add_yes (ka k) k 1 1 (by unfold ka good; split <;> simp <;> omega) (by decide)
  rw [plus_num, ofP_in (by omega) (by omega)] at h
  exact h
theorem mul_step {k : Nat} {wt kb nb : Int} (hI : Inv k wt kb nb) : ∃ kb' nb', OpTo 9 kb nb 1 2 kb' nb' .nilIface ∧ Inv (k + 1) (if wt ≤ 1000000000000 then 2 * wt else wt) kb' nb' := by
  obtain ⟨h1, h2, h3, ⟨h4, rfl, rfl⟩ | ⟨h4, rfl, rfl⟩⟩ := hI
  · have h := mul_yes 1 nb 1 2 (by simp [good]; omega) (by decide)
    have he : timesP 1 nb 1 2 = ofP (nb * 2) := by unfold timesP joinP; rw [if_neg (by omega), if_neg (by decide)]
    rw [he] at h
    by_cases hl : nb * 2 ≤ 1000000000000
    · rw [ofP_in (by omega) hl] at h
      exact ⟨_, _, h, by rw [if_pos h4]; exact ⟨by omega, by omega, by omega, Or.inl ⟨by omega, rfl, by simp; omega⟩⟩⟩
    · rw [ofP_out (by omega)] at h
      exact ⟨_, _, h, by rw [if_pos h4]; exact ⟨by omega, by omega, by omega, Or.inr ⟨by omega, rfl, rfl⟩⟩⟩
  · have h := mul_yes 2 0 1 2 (by decide) (by decide)
    have he : timesP 2 0 1 2 = (2, 0) := by unfold timesP joinP; rw [if_pos (by omega)]
    rw [he] at h
    exact ⟨_, _, h, by rw [if_neg (by omega)]; exact ⟨by omega, by omega, by omega, Or.inr ⟨by omega, rfl, rfl⟩⟩⟩

set_option maxHeartbeats 4000000 in
set_option maxRecDepth 20000 in
theorem counts_core (N : Nat) (hN : N ≤ 50) (w : World) : Calls Try.prog 4 #[.int .i64 N] w fun e w' => e = .returned (.bool true) ∧ Below w.heap.size w w' := by
  have h1 := of_in (n := 1) (by omega) (by omega)
  have h2 := of_in (n := 2) (by omega) (by omega)
  go_enter Try.func4, Try.ntmps4
  go_wp2_with fail
  refine (h1 _).mono ?_
  rintro e w1 ⟨rfl, hb⟩
  have hV3 := (Var.new 0 0 w 27).later hb
  have hB1 : Below w.heap.size w w1 := Below.trans (by go_grown) (hb.mono (by simp))
  have hz := bsize hb
  simp [Nat.add_one_le_iff] at hz
  clear hb
  go_wp2_with fail
  go_loopg [5, 6] N (fun g s5 s6 wr => ∃ (k : Nat) (wt kb nb : Int), k ≤ N ∧ g = N - k ∧ s6 = .int .i64 k ∧ s5 = .int .i64 wt ∧ Var w.heap.size (ka k) k wr ∧ Var w1.heap.size kb nb wr ∧ Inv k wt kb nb ∧ Below w.heap.size w wr)
  case atStart =>
    exact ⟨0, 1, 1, 1, Nat.zero_le _, rfl, rfl, rfl, hV3.later ((Below.refl _ _).alloc (Nat.le_refl _) _), Var.new _ _ _ _, ⟨by omega, by omega, fun _ => rfl, Or.inl ⟨by omega, rfl, rfl⟩⟩, hB1.alloc hB1.size _⟩
  case round =>
    obtain ⟨k, wt, kb, nb, hk, rfl, rfl, rfl, hV3, hV4, hI, hB⟩ := hrel
    by_cases hlt : k < N
    · have hkz : (k : Int) < (N : Int) := by omega
      obtain ⟨kb', nb', hmul, hI'⟩ := mul_step hI
      have HA : Hid (OpTo 8 (ka k) k 1 1 1 (k + 1) .nilIface) := add_step k (by omega)
      have HM : Hid (OpTo 9 kb nb 1 2 kb' nb' .nilIface) := hmul
      have HI : Hid (Inv (k + 1) (if wt ≤ 1000000000000 then 2 * wt else wt) kb' nb') := hI'
      have hw0 : 1 ≤ wt := hI.1
      have hw1 : wt ≤ 2000000000000 := hI.2.1
      clear hmul hI' hI
      generalize ka k = kk at hV3 HA
      go_wp2_with fail
      go_cut [7, 8] (fun sp se wx => ∃ bp, sp = .pointer (some ⟨bp, 0, none⟩) ∧ se = .nilIface ∧ wr.heap.size ≤ bp ∧ At bp 1 (k + 1) wx ∧ Below wr.heap.size wr wx)
      case first =>
        go_region_held3 (fun w' => Below wr.heap.size wr w' ∧ w'.cell? ⟨w.heap.size, 0, none⟩ = some (.int .i64 kk) ∧ w'.cell? ⟨w.heap.size, 1, none⟩ = some (.int .i64 k))
          ((refine held_of hV3.1 ?_; go_grown; done))
          (first | (go_at_call 7; refine (h1 _).mono ?_; rintro e w4 ⟨rfl, hb4⟩; have hN4 := Below.next (W0 := wr) (by go_grown) hb4; obtain ⟨hc4, hf4⟩ := bcell hb4; have hz4 := bsize hb4; (try simp [Nat.add_one_le_iff] at hz4); have hy4 := bsize hN4; clear hb4) | (go_at_call 8; refine (HA.out _).mono ?_; rintro e w5 ⟨rfl, hb5⟩; have hN5 := Below.next (W0 := wr) (by go_grown) hb5; obtain ⟨hc5, hf5⟩ := bcell hb5; have hz5 := bsize hb5; (try simp [Nat.add_one_le_iff] at hz5); have hy5 := bsize hN5; clear hb5))
        all_goals go_wp2_with fail
        all_goals go_meet
        all_goals
          clear hN4
          refine ⟨_, rfl, rfl, by omega, ?_, by go_grown⟩
          first | exact At.new _ _ _ _ | (refine At.set (u := .int .i64 0) (v := .int .i64 0) (by omega) ?_ ?_ <;> simp [go_sem, hc5, hc4, hz4])
      case rest =>
        obtain ⟨b7, rfl, rfl, hb7, hA7, hBr⟩ := hcut
        have hV3' := hV3.later hBr
        have hV4' := hV4.later hBr
        have hBw := Below.next hB hBr
        have hl3 := hV3.1.1
        have hl4 := hV4.1.1
        clear hV3 hV4 hB hBr
        obtain ⟨wd, rfl⟩ : ∃ wd : World, wd = wc := ⟨_, rfl⟩
        go_wp2_with fail
        go_cut [9, 10] (fun sp se wx => ∃ bp, sp = .pointer (some ⟨bp, 0, none⟩) ∧ se = .nilIface ∧ wd.heap.size ≤ bp ∧ At bp kb' nb' wx ∧ Below wd.heap.size wd wx)
        case first =>
          go_region_held3 (fun w' => Below wd.heap.size wd w' ∧ w'.cell? ⟨w1.heap.size, 0, none⟩ = some (.int .i64 kb) ∧ w'.cell? ⟨w1.heap.size, 1, none⟩ = some (.int .i64 nb))
            ((refine held_of hV4'.1 ?_; go_grown; done))
            (first | (go_at_call 7; refine (h2 _).mono ?_; rintro e w4 ⟨rfl, hb4⟩; have hN4 := Below.next (W0 := wd) (by go_grown) hb4; obtain ⟨hc4, hf4⟩ := bcell hb4; have hz4 := bsize hb4; (try simp [Nat.add_one_le_iff] at hz4); have hy4 := bsize hN4; clear hb4) | (go_at_call 9; refine (HM.out _).mono ?_; rintro e w5 ⟨rfl, hb5⟩; have hN5 := Below.next (W0 := wd) (by go_grown) hb5; obtain ⟨hc5, hf5⟩ := bcell hb5; have hz5 := bsize hb5; (try simp [Nat.add_one_le_iff] at hz5); have hy5 := bsize hN5; clear hb5))
          all_goals go_wp2_with fail
          all_goals go_meet
          all_goals
            clear hN4
            refine ⟨_, rfl, rfl, by omega, ?_, by go_grown⟩
            first | exact At.new _ _ _ _ | (refine At.set (u := .int .i64 0) (v := .int .i64 0) (by omega) ?_ ?_ <;> simp [go_sem, hc5, hc4, hz4])
        case rest =>
          obtain ⟨b9, rfl, rfl, hb9, hA9, hBr⟩ := hcut
          have hV3 := hV3'.later hBr
          have hV4 := hV4'.later hBr
          have hA7' := hA7.later hBr
          have hB := Below.next hBw hBr
          have hl7 := hA7.1
          clear hV3' hV4' hA7 hBw hBr
          have q1 : ¬ w.heap.size = b9 := by omega
          have q2 : ¬ b9 = w.heap.size := by omega
          have q3 : ¬ w1.heap.size = w.heap.size := by omega
          have q4 : ¬ w.heap.size = w1.heap.size := by omega
          have hfin : Var w.heap.size (ka (k + 1)) ((k + 1 : Nat) : Int) (((((wc.setCell ⟨w.heap.size, 0, none⟩ (.int .i64 1)).setCell ⟨w.heap.size, 1, none⟩ (.int .i64 (k + 1)))).setCell ⟨w1.heap.size, 0, none⟩ (.int .i64 kb')).setCell ⟨w1.heap.size, 1, none⟩ (.int .i64 nb')) := by
            have e : ka (k + 1) = 1 := by simp [ka]
            rw [e]
            exact (Var.set hV3).other q4
          have hfin4 : Var w1.heap.size kb' nb' (((((wc.setCell ⟨w.heap.size, 0, none⟩ (.int .i64 1)).setCell ⟨w.heap.size, 1, none⟩ (.int .i64 (k + 1)))).setCell ⟨w1.heap.size, 0, none⟩ (.int .i64 kb')).setCell ⟨w1.heap.size, 1, none⟩ (.int .i64 nb')) := (hV4.other q3).set
          have H3 : Hid _ := hfin
          have H4 : Hid _ := hfin4
          obtain ⟨⟨v30, v31, v32⟩, v33, v34⟩ := hV3
          obtain ⟨⟨v40, v41, v42⟩, v43, v44⟩ := hV4
          obtain ⟨v70, v71, v72⟩ := hA7'
          obtain ⟨v90, v91, v92⟩ := hA9
          clear hfin hfin4 HA HM hlt
          have hsz : w.heap.size ≤ w1.heap.size := by omega
          by_cases hw : wt ≤ 1000000000000
          · have HJ : Hid (Inv (k + 1) (2 * wt) kb' nb') := by have h := HI.out; rw [if_pos hw] at h; exact h
            clear HI
            go_wp2
            go_roundg (N - (k + 1))
            case measure => omega
            case rel => exact ⟨k + 1, 2 * wt, kb', nb', by omega, rfl, by go_num, rfl, H3.out, H4.out, HJ.out, by go_grown⟩
          · have HJ : Hid (Inv (k + 1) wt kb' nb') := by have h := HI.out; rw [if_neg hw] at h; exact h
            clear HI
            go_wp2
            go_roundg (N - (k + 1))
            case measure => omega
            case rel => exact ⟨k + 1, wt, kb', nb', by omega, rfl, by go_num, rfl, H3.out, H4.out, HJ.out, by go_grown⟩
    · have hkN : k = N := by omega
      subst hkN
      obtain ⟨i1, i2, i3, i4⟩ := hI
      by_cases hk0 : k = 0
      · subst hk0
        obtain rfl := i3 rfl
        obtain ⟨_, rfl, rfl⟩ | ⟨hx, _⟩ := i4
        · have hV3 : Var w.heap.size 0 0 wr := hV3
          go_wp2_with fail
          go_region_held3 (fun w' => Below wr.heap.size wr w' ∧ w'.cell? ⟨w.heap.size, 0, none⟩ = some (.int .i64 0) ∧ w'.cell? ⟨w.heap.size, 1, none⟩ = some (.int .i64 0) ∧ w'.cell? ⟨w1.heap.size, 0, none⟩ = some (.int .i64 1) ∧ w'.cell? ⟨w1.heap.size, 1, none⟩ = some (.int .i64 1))
            ((refine held_of2 hV3.1 hV4.1 ?_; go_grown; done))
            (first | (go_at_call 7; refine (h1 _).mono ?_; rintro e w4 ⟨rfl, hb4⟩; have hN4 := Below.next (W0 := wr) (by go_grown) hb4; have hy4 := bsize hN4; clear hb4))
          all_goals go_wp2
          all_goals
            go_ret
            exact ⟨by simp, Below.next hB hN4⟩
        · omega
      · have hV3 : Var w.heap.size 1 k wr := by
          have e : ka k = 1 := by unfold ka; rw [if_neg hk0]
          rw [e] at hV3
          exact hV3
        have hk1 : ((k : Int) == 0) = false := by simp; omega
        have hok := of_in (n := (k : Int)) (by omega) (by omega)
        obtain ⟨hw, rfl, rfl⟩ | ⟨hw, rfl, rfl⟩ := i4
        · go_wp2_with fail
          go_region_held3 (fun w' => Below wr.heap.size wr w' ∧ w'.cell? ⟨w.heap.size, 0, none⟩ = some (.int .i64 1) ∧ w'.cell? ⟨w.heap.size, 1, none⟩ = some (.int .i64 k) ∧ w'.cell? ⟨w1.heap.size, 0, none⟩ = some (.int .i64 1) ∧ w'.cell? ⟨w1.heap.size, 1, none⟩ = some (.int .i64 nb))
            ((refine held_of2 hV3.1 hV4.1 ?_; go_grown; done))
            (first | (go_at_call 7; refine (hok _).mono ?_; rintro e w4 ⟨rfl, hb4⟩; have hN4 := Below.next (W0 := wr) (by go_grown) hb4; have hy4 := bsize hN4; clear hb4))
          all_goals go_wp2
          all_goals
            go_ret
            exact ⟨by simp, Below.next hB hN4⟩
        · have hw2 : decide (wt ≤ 1000000000000) = false := by simp; omega
          have hw3 : ¬ wt ≤ 1000000000000 := by omega
          go_wp2_with fail
          have H3 : Hid (Var w.heap.size 1 k wr) := hV3
          have H4 : Hid (Var w1.heap.size 2 0 wr) := hV4
          obtain ⟨⟨v30, v31, v32⟩, v33, v34⟩ := hV3
          obtain ⟨⟨v40, v41, v42⟩, v43, v44⟩ := hV4
          first | (go_region_with (go_at_call 7; refine (hok _).mono ?_; rintro e w4 ⟨rfl, hb4⟩; have hN4 := Below.next (W0 := wr) (by go_grown) hb4; obtain ⟨⟨x30, x31, x32⟩, x33, x34⟩ := H3.out.later hN4; obtain ⟨⟨x40, x41, x42⟩, x43, x44⟩ := H4.out.later hN4; clear hb4)) | fail
          all_goals go_wp2
          all_goals
            go_ret
            exact ⟨by first | rfl | simp [Act.put], Below.next hB hN4⟩
end Go.Proofs.Ytabcpbdgmaeebaa
