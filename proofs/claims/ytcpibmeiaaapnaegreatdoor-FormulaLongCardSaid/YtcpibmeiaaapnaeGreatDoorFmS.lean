/-
  What tallylaw4.FormulaLong answers, called in whatever memory: true.
-/
import Derived.Test.YtcpibmeiaaapnaeGreatDoorFmR
import Derived.Test.YtcpibmeiaaapnaeGreatDoorToldT
namespace Go.Proofs.YtcpibmeiaaapnaeGreatDoor
open Go.ChangeShapes Go.WideShapes Go.ChangeAt Go.RowKit
set_option maxRecDepth 20000

theorem long_step {op k : Nat} : longS op (k + 1) = longS op k ++ (ByteArray.mk #[43, 45, 42, 47]).extract op (op + 1) ++ ⟨#[97, 98]⟩ := rfl

set_option maxHeartbeats 4000000 in
theorem long_core (n op : Nat) (w : World) (hn : n < 20) (ho : op < 4) (hE : TabE w) (hK : Kind0 w) : Calls Tryz.prog 3 #[.int .i64 ((n : Int) + 1), .int .i64 op] w fun e w' => e = .returned (.bool true) ∧ Below w.heap.size w w' := by
  have HE : Hid (TabE w) := hE
  have HK : Hid (Kind0 w) := hK
  have hni : (n : Int) < 20 := by omega
  have hoi : (op : Int) < 4 := by omega
  have hso := sgn_one op ho
  obtain ⟨m, hm⟩ : ∃ m, op + 1 = m := ⟨_, rfl⟩
  rw [hm] at hso
  have hsum : (op : Int) + 1 = (m : Int) := by omega
  have hm4 : (m : Int) ≤ 4 := by omega
  have hom : (op : Int) ≤ (m : Int) := by omega
  have hs4 : ({ data := #[43, 45, 42, 47] } : ByteArray).size = 4 := rfl
  have d1 : decide ((n : Int) + 1 < 1) = false := decide_eq_false (by omega)
  have d2 : decide (20 < (n : Int) + 1) = false := decide_eq_false (by omega)
  have d3 : decide ((op : Int) < 0) = false := decide_eq_false (by omega)
  have d4 : decide (3 < (op : Int)) = false := decide_eq_false (by omega)
  clear hE hK
  go_enter Tryz.func3, Tryz.ntmps3
  go_wp2_with fail
  go_loopg [5, 6] n (fun g s5 s6 wr => ∃ (k : Nat), k ≤ n ∧ g = n - k ∧ s5 = .string (longS op k) ∧ s6 = .int .i64 ((k : Int) + 1) ∧ wr = w)
  case atStart => exact ⟨0, Nat.zero_le _, rfl, rfl, rfl, rfl⟩
  case round =>
    obtain ⟨k, hk, rfl, rfl, rfl, rfl⟩ := hrel
    have hsz := long_size op ho k
    by_cases hlt : k < n
    · have hki : (k : Int) < (n : Int) := by omega
      have HS : Hid (longS op (k + 1) = longS op k ++ (ByteArray.mk #[43, 45, 42, 47]).extract op (op + 1) ++ ⟨#[97, 98]⟩) := long_step
      have hs2 : ({ data := #[97, 98] } : ByteArray).size = 2 := rfl
      rw [hm] at HS
      obtain ⟨T, hT⟩ : ∃ T, longS op k = T := ⟨_, rfl⟩
      rw [hT] at hsz HS ⊢
      clear hT
      go_wp2_with fail
      go_roundg (n - (k + 1))
      case measure => omega
      case rel => exact ⟨k + 1, by omega, rfl, by rw [HS.out], by go_num, rfl⟩
    · have hke : k = n := by omega
      subst hke
      have hpr := fparse_any (longS op k) wr (by omega)
      by_cases hbig : 15 ≤ k
      · rw [long_big op k ho hbig hn, errV_some (by decide)] at hpr
        have hb2 : 30 < 2 * ((k : Int) + 1) - 1 := by omega
        obtain ⟨T, hT⟩ : ∃ T, longS op k = T := ⟨_, rfl⟩
        rw [hT] at hpr hsz ⊢
        clear hT
        go_wp2_with fail
        refine hpr.mono ?_
        rintro e w1 ⟨⟨A, c, rfl, -⟩, hb1⟩
        have hsm := same_hit 4 4 w1 (HK.out.later hb1)
        have HB1 : Hid (Below wr.heap.size wr w1) := hb1
        clear hb1 hpr
        go_wp2_with fail
        refine hsm.mono ?_
        rintro e w2 ⟨rfl, hb2'⟩
        have HB2 : Hid (Below wr.heap.size wr w2) := onB HB1.out hb2'
        clear hb2' hsm
        go_wp2_with fail
        go_ret
        exact ⟨rfl, HB2.out⟩
      · obtain ⟨p1, p2, p3, p4, p5⟩ := long_small op k ho (by omega)
        rw [p1, p2, errV_zero] at hpr
        have hb2 : 2 * ((k : Int) + 1) - 1 ≤ 30 := by omega
        obtain ⟨L, hL⟩ : ∃ L, prsL (longS op k) = L := ⟨_, rfl⟩
        rw [hL] at hpr p2 p3 p4 p5
        obtain ⟨T, hT⟩ : ∃ T, longS op k = T := ⟨_, rfl⟩
        rw [hT] at hpr hsz p4 ⊢
        have P2 : Hid (L.length = 2 * k + 1) := p2
        have P3 : Hid (formErr L = 0) := p3
        have P4 : Hid (printT L = T) := p4
        have P5 : Hid (refsP L = [[97, 98]]) := p5
        clear hT hL p1 p2 p3 p4 p5
        go_wp2_with fail
        refine hpr.mono ?_
        rintro e w1 ⟨⟨A, c, rfl, hN1⟩, hb1⟩
        have HB1 : Hid (Below wr.heap.size wr w1) := hb1
        have HN1 : Hid (NdsV w1 A c L) := hN1
        have hpt := fprint_any A c L w1 (HE.out.later hb1) hN1
        rw [P2.out, P3.out, P4.out, errV_zero] at hpt
        clear hb1 hpr hN1
        go_wp2_with fail
        refine hpt.mono ?_
        rintro e w2 ⟨rfl, hb2'⟩
        have HB2 : Hid (Below wr.heap.size wr w2) := onB HB1.out hb2'
        have hrf := frefs_any A c L w2 (HN1.out.later hb2')
        rw [P2.out, P3.out, P5.out, errV_zero] at hrf
        clear hb2' hpt
        go_wp2_with fail
        refine hrf.mono ?_
        rintro e w3 ⟨⟨A', c', rfl, hS3⟩, hb3⟩
        have HB3 : Hid (Below wr.heap.size wr w3) := onB HB2.out hb3
        obtain ⟨q1, -, h0 | ⟨bb, oo, rfl, hbl, hcell⟩⟩ := hS3
        · cases h0
        have z0 := hcell 0 (by decide)
        rw [Nat.add_zero] at z0
        have z1 : (([[97, 98]] : List (List UInt8)).getD 0 []).toArray = #[97, 98] := rfl
        rw [z1] at z0
        have hl1 : ([[97, 98]] : List (List UInt8)).length = 1 := rfl
        have hlen : ((2 * k + 1 : Nat) : Int) = 2 * ((k : Int) + 1) - 1 := by omega
        clear hb3 hrf hcell
        go_wp2_with fail
        go_ret
        exact ⟨rfl, HB3.out⟩
end Go.Proofs.YtcpibmeiaaapnaeGreatDoor
