/-
  What tallylaw4.CellDivides does of numbers whose quotient, product and rest are told by contracts: it returns true.
-/
import Derived.Test.YtabcpbdgmaeebaaCells6
namespace Go.Proofs.Ytabcpbdgmaeebaa
open Go.ChangeShapes Go.WideShapes Go.ChangeAt Go.RowKit

set_option maxHeartbeats 4000000 in
set_option maxRecDepth 20000 in
theorem div_core (a b q d r : Int) (w : World) (ha1 : -1000000 ≤ a) (ha2 : a ≤ 1000000) (hb1 : -1000000 ≤ b) (hb2 : b ≤ 1000000) (hb0 : (b == 0) = false)
    (hdiv : OpTo 10 1 a 1 b 1 q .nilIface) (hmul : OpTo 9 1 q 1 b 1 d .nilIface) (hsub : OpTo 11 1 a 1 d 1 r .nilIface)
    (hr : (b < 0 ∧ b < r ∧ r < -b) ∨ (0 < b ∧ -b < r ∧ r < b)) (hs : (0 < a ∧ 0 ≤ r) ∨ (a < 0 ∧ r ≤ 0) ∨ a = 0) :
    Calls Try.prog 5 #[.int .i64 a, .int .i64 b] w fun e w' => e = .returned (.bool true) ∧ Below w.heap.size w w' := by
  have hoa := of_in (n := a) (by omega) (by omega)
  have hob := of_in (n := b) (by omega) (by omega)
  have HD : Hid (OpTo 10 1 a 1 b 1 q .nilIface) := hdiv
  have HM : Hid (OpTo 9 1 q 1 b 1 d .nilIface) := hmul
  have HS : Hid (OpTo 11 1 a 1 d 1 r .nilIface) := hsub
  have HR : Hid ((b < 0 ∧ b < r ∧ r < -b) ∨ (0 < b ∧ -b < r ∧ r < b)) := hr
  have HSg : Hid ((0 < a ∧ 0 ≤ r) ∨ (a < 0 ∧ r ≤ 0) ∨ a = 0) := hs
  clear hdiv hmul hsub hr hs
  go_enter Try.func5, Try.ntmps5
  go_wp2_with fail
  refine (hoa _).mono ?_
  rintro e w1 ⟨rfl, hb⟩
  have hB1 : Below w.heap.size w w1 := hb
  clear hb
  go_wp2_with fail
  refine (hob _).mono ?_
  rintro e w2 ⟨rfl, hb⟩
  have hB2 : Below w.heap.size w w2 := hB1.trans (hb.mono hB1.size)
  clear hb hB1
  go_wp2_with fail
  refine (HD.out _).mono ?_
  rintro e w3 ⟨rfl, hb⟩
  have hB3 : Below w.heap.size w w3 := hB2.trans (hb.mono hB2.size)
  clear hb hB2
  go_wp2_with fail
  obtain ⟨W0, hW0⟩ : ∃ W0, w3.alloc (Obj.cells #[.int .i64 1, .int .i64 q] 27) = W0 := ⟨_, rfl⟩
  have hA5 : At w3.heap.size 1 q W0 := by subst hW0; exact ⟨by simp, by simp, by simp⟩
  have hB0 : Below w.heap.size w W0 := by subst hW0; exact hB3.alloc hB3.size _
  rw [hW0]
  obtain ⟨s5, hs5⟩ : ∃ s5, w3.heap.size = s5 := ⟨_, rfl⟩
  rw [hs5] at hA5 ⊢
  clear hW0 hs5 hB3
  go_cut [7, 8] (fun s7 s8 wx => ∃ b7, s7 = .pointer (some ⟨b7, 0, none⟩) ∧ s8 = .nilIface ∧ At b7 1 d wx ∧ Below w.heap.size w wx)
  case first =>
    go_region_held3 (fun w' => Below W0.heap.size W0 w' ∧ w'.cell? ⟨s5, 0, none⟩ = some (.int .i64 1) ∧ w'.cell? ⟨s5, 1, none⟩ = some (.int .i64 q))
      ((refine held_of hA5 ?_; go_grown; done))
      (first | (go_at_call 7; refine (hob _).mono ?_; rintro e w4 ⟨rfl, hb4⟩; have hN4 := Below.next (W0 := W0) (by go_grown) hb4; obtain ⟨hc4, hf4⟩ := bcell hb4; have hz4 := bsize hb4; (try simp [Nat.add_one_le_iff] at hz4); have hy4 := bsize hN4; clear hb4) | (go_at_call 9; refine (HM.out _).mono ?_; rintro e w5 ⟨rfl, hb5⟩; have hN5 := Below.next (W0 := W0) (by go_grown) hb5; obtain ⟨hc5, hf5⟩ := bcell hb5; have hz5 := bsize hb5; (try simp [Nat.add_one_le_iff] at hz5); have hy5 := bsize hN5; clear hb5))
    all_goals go_wp2_with fail
    all_goals go_meet
    all_goals
      have hX : Below w.heap.size w w5 := Below.next hB0 hN5
      have hs0 := hB0.size
      have hs1 := hX.size
      clear hB0 hN4 hN5
      refine ⟨_, rfl, rfl, ?_, by go_grown⟩
      first | exact At.new _ _ _ _ | (refine At.set (u := .int .i64 0) (v := .int .i64 0) (by omega) ?_ ?_ <;> simp [go_sem, hc5, hc4, hz4])
  case rest =>
    obtain ⟨b7, rfl, rfl, hA7, hBw⟩ := hcut
    clear hA5 hB0
    obtain ⟨V0, hV0⟩ : ∃ V0, wc = V0 := ⟨_, rfl⟩
    subst hV0
    go_wp2_with fail
    go_cut [9, 10] (fun s9 s10 wx => ∃ b9, s9 = .pointer (some ⟨b9, 0, none⟩) ∧ s10 = .nilIface ∧ At b9 1 r wx ∧ Below w.heap.size w wx)
    case first =>
      go_region_held3 (fun w' => Below wc.heap.size wc w' ∧ w'.cell? ⟨b7, 0, none⟩ = some (.int .i64 1) ∧ w'.cell? ⟨b7, 1, none⟩ = some (.int .i64 d))
        ((refine held_of hA7 ?_; go_grown; done))
        (first | (go_at_call 7; refine (hoa _).mono ?_; rintro e w4 ⟨rfl, hb4⟩; have hN4 := Below.next (W0 := wc) (by go_grown) hb4; obtain ⟨hc4, hf4⟩ := bcell hb4; have hz4 := bsize hb4; (try simp [Nat.add_one_le_iff] at hz4); have hy4 := bsize hN4; clear hb4) | (go_at_call 11; refine (HS.out _).mono ?_; rintro e w5 ⟨rfl, hb5⟩; have hN5 := Below.next (W0 := wc) (by go_grown) hb5; obtain ⟨hc5, hf5⟩ := bcell hb5; have hz5 := bsize hb5; (try simp [Nat.add_one_le_iff] at hz5); have hy5 := bsize hN5; clear hb5))
      all_goals go_wp2_with fail
      all_goals go_meet
      all_goals
        have hX : Below w.heap.size w w5 := Below.next hBw hN5
        have hs0 := hBw.size
        have hs1 := hX.size
        clear hBw hN4 hN5
        refine ⟨_, rfl, rfl, ?_, by go_grown⟩
        first | exact At.new _ _ _ _ | (refine At.set (u := .int .i64 0) (v := .int .i64 0) (by omega) ?_ ?_ <;> simp [go_sem, hc5, hc4, hz4])
    case rest =>
      obtain ⟨b9, rfl, rfl, ⟨hA9, hA90, hA91⟩, hBx⟩ := hcut
      clear hA7 hBw hoa hob HD HM HS
      have hr := HR.out
      have hs := HSg.out
      clear HR HSg
      rcases hr with ⟨hn, hr1, hr2⟩ | ⟨hn, hr1, hr2⟩
      all_goals
        rcases hs with ⟨hs1, hs2⟩ | ⟨hs1, hs2⟩ | hs1
        all_goals
          go_wp2
          all_goals
            go_ret
            first | exact ⟨rfl, hBx⟩ | exact ⟨by simp; omega, hBx⟩
end Go.Proofs.Ytabcpbdgmaeebaa
