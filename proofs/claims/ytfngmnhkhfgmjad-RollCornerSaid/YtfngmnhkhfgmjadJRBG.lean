/-
  What weight and Weight of package tree answer: how a leaf counts in a member, or what is wrong.
-/
import Derived.Test.YtfngmnhkhfgmjadJRAP
namespace Go.Proofs.Ytfngmnhkhfgmjad
open Go.ChangeShapes Go.WideShapes Go.ChangeAt Go.RowKit
set_option maxRecDepth 20000
theorem drop_at {L : List Int} {k : Nat} (h : k < L.length) : L.drop k = L.getD k 0 :: L.drop (k + 1) := by
 rw [List.drop_eq_getElem_cons h]; simp [List.getD, List.getElem?_eq_getElem h]
theorem getD_mem {L : List Int} {k : Nat} (h : k < L.length) : L.getD k 0 ∈ L := by
 simp [List.getD, List.getElem?_eq_getElem h]
set_option maxHeartbeats 2000000 in
theorem weight_any (b o n cap j : Nat) (i : Int) (M : Nat → Mem) (w : World) (hn : n ≤ 12) (hj : j < n) (ht : Tr M n) (hs : Sg M n) (hM : MemsAt w b o n M) : Calls Try.prog 72 #[.slice (some ⟨b, o, none⟩) n cap, .int .i64 i, .int .i64 j] w fun e w' => e = .returned (.int .i64 (weightOf M i j)) ∧ Below w.heap.size w w' := by
 have hpl := path_any b o n cap j M w hn hj ht hM
 have HM : Hid (MemsAt w b o n M) := hM
 have HS : Hid (Sg M n) := hs
 have hln : (pathOf M j).length ≤ 12 := by have := pathOf_len ht n j (by omega) (by omega); omega
 have HI : Hid (∀ x ∈ pathOf M j, 0 ≤ x ∧ x < n) := fun x hx => by have := pathOf_mem ht n j (by omega) (by omega) x hx; omega
 have HW : Hid (wgt M i (pathOf M j) 1 = weightOf M i j) := rfl
 generalize pathOf M j = L at hpl hln HI HW
 clear hM ht hs
 go_enter Try.func72, Try.ntmps72
 go_wp2_with fail
 refine hpl.mono ?_
 rintro e w1 ⟨⟨A, c, rfl, hI⟩, hb1⟩
 have HB1 : Hid (Below w.heap.size w w1) := hb1
 have hM1 := HM.out.later hb1
 have hbw := hM1.1
 have HMs : Hid (MemsAt w1 b o n M) := hM1
 have HL : Hid (IntsAt w1 A c L) := hI
 clear hb1 hpl hM1 hI
 go_wp2_with fail
 go_loopg [7, 14] L.length (fun g s7 s14 wr => ∃ (k : Nat) (a : Int), k ≤ L.length ∧ g = L.length - k ∧ s14 = .int .i64 k ∧ s7 = .int .i64 a ∧ (-1 ≤ a ∧ a ≤ 1) ∧ wgt M i (L.drop k) a = wgt M i L 1 ∧ wr = w1)
 case atStart => exact ⟨0, 1, Nat.zero_le _, rfl, rfl, rfl, by omega, rfl, rfl⟩
 case round =>
  obtain ⟨k, a, hk, rfl, rfl, rfl, ha, hf, rfl⟩ := hrel
  have HF : Hid (wgt M i (L.drop k) a = wgt M i L 1) := hf
  clear hf
  by_cases hlt : k < L.length
  ·obtain ⟨hc, h0 | ⟨g, rfl, hg, hcell⟩⟩ := HL.out
   ·rw [h0] at hlt; cases hlt
   have hx := HI.out _ (getD_mem hlt)
   have HD : Hid (L.drop k = L.getD k 0 :: L.drop (k + 1)) := drop_at hlt
   have hcx := hcell k hlt
   generalize L.getD k 0 = x at hx HD hcx
   obtain ⟨m, rfl⟩ : ∃ m : Nat, x = m := ⟨x.toNat, by omega⟩
   have hmn : m < n := by omega
   have hki : (k : Int) < (L.length : Int) := by omega
   have hln' : (L.length : Int) ≤ 12 := by omega
   have hn' : (n : Int) ≤ 12 := by omega
   have hmi : (m : Int) < (n : Int) := by omega
   clear hcell hx
   by_cases hq : (m : Int) = i
   ·subst hq
    have HR : Hid (a = weightOf M m j) := by show _ = _; rw [← HW.out, ← HF.out, HD.out, wgt_hit]
    go_wp2_with fail
    go_ret
    exact ⟨by rw [← HR.out]; rfl, HB1.out⟩
   ·have hq' : ((m : Int) == i) = false := by simpa using hq
    obtain ⟨-, -, h2, -⟩ := HMs.out.2 m hmn
    have hsm := HS.out m hmn
    have hmul := small_mul ha hsm
    have HR : Hid (wgt M i (L.drop (k + 1)) (a * (M m).sign) = wgt M i L 1) := by show _ = _; rw [← HF.out, HD.out, wgt_miss hq]; rfl
    have HMul : Hid (-1 ≤ a * (M m).sign ∧ a * (M m).sign ≤ 1) := hmul
    clear hq
    go_wp2_with fail
    go_roundg (L.length - (k + 1))
    case measure => omega
    case rel => exact ⟨k + 1, a * (M m).sign, by omega, rfl, by go_num, by go_num, HMul.out, HR.out, rfl⟩
  ·have hke : k = L.length := by omega
   have HR : Hid (0 = weightOf M i j) := by show _ = _; rw [← HW.out, ← HF.out, hke, List.drop_length]; rfl
   subst hke
   go_wp2_with fail
   go_ret
   exact ⟨by rw [← HR.out]; rfl, HB1.out⟩
end Go.Proofs.Ytfngmnhkhfgmjad
