/-
  The document's own count of an outline's cells (tallyref1.Size).
-/
import Derived.Test.YtmjcnlpjnbcfjacGreatDoorRefO1
import Derived.Test.YtmjcnlpjnbcfjacGreatDoorOut9
namespace Go.Proofs.YtmjcnlpjnbcfjacGreatDoor
open Go.ChangeShapes Go.WideShapes Go.ChangeAt Go.RowKit
set_option maxRecDepth 20000

set_option maxHeartbeats 1000000 in
theorem osize_any (b o n cap : Nat) (D : Nat → Dm) (A : Nat → Option Addr) (C : Nat → Nat) (w : World) (hn : n ≤ 4) (hd : ∀ j, j < n → (D j).n ≤ 12) (hM : DimsAt w b o n D A C) : Calls Tryz.prog 23 #[.agg #[.slice (some ⟨b, o, none⟩) n cap]] w fun e w' => e = .returned (.int .i64 (prodN D n)) ∧ Below w.heap.size w w' := by
  have HB : Hid (DimsAt w b o n D A C) := hM
  have HD : Hid (∀ j, j < n → (D j).n ≤ 12) := hd
  clear hM hd
  have hS := ownOut_size w (some ⟨b, o, none⟩) n cap 24
  have hB0 := ownOut_below w (some ⟨b, o, none⟩) n cap 24
  have hA2 := ownOut_at w (some ⟨b, o, none⟩) n cap 24
  obtain ⟨W, hW⟩ : ∃ W, W = ownOut w (some ⟨b, o, none⟩) n cap 24 := ⟨_, rfl⟩
  rw [← hW] at hB0 hS hA2
  have HW : Hid (W = ownOut w (some ⟨b, o, none⟩) n cap 24) := hW
  have HA : Hid (W.cell? ⟨w.heap.size, 0, none⟩ = some (.slice (some ⟨b, o, none⟩) n cap)) := hA2
  have HB0 : Hid (Below w.heap.size w W) := hB0
  have hs8 : (n : Int) ≤ 4 := by omega
  clear hW hA2 hB0 hS
  go_enter Tryz.func23, Tryz.ntmps23
  go_wp2_with fail
  go_loopg [3, 4] n (fun g s3 s4 wr => ∃ (k : Nat), k ≤ n ∧ g = n - k ∧ s4 = .int .i64 k ∧ s3 = .int .i64 (prodN D k) ∧ wr = W)
  case atStart => exact ⟨0, Nat.zero_le _, rfl, rfl, rfl, by rw [HW.out]; rfl⟩
  case round =>
    obtain ⟨k, hk, rfl, rfl, rfl, rfl⟩ := hrel
    have c0 := HA.out
    by_cases hlt : k < n
    · obtain ⟨h0, h1, h2, -⟩ := (HB.out.later HB0.out).2 k hlt
      have hki : (k : Int) < (n : Int) := by omega
      have hp1 : prodN D (k + 1) ≤ 20736 := prod_small (fun j hj => HD.out j (by omega)) (by omega)
      have hp2 : (prodN D (k + 1) : Int) = (prodN D k : Int) * ((D k).n : Int) := by rw [prodN]; exact Int.natCast_mul _ _
      have hp3 : 0 ≤ (prodN D k : Int) * ((D k).n : Int) := by omega
      have hp4 : (prodN D k : Int) * ((D k).n : Int) ≤ 20736 := by omega
      have HP : Hid ((prodN D (k + 1) : Int) = (prodN D k : Int) * ((D k).n : Int)) := hp2
      clear hp1 hp2
      go_wp2_with fail
      go_roundg (n - (k + 1))
      case measure => omega
      case rel => exact ⟨k + 1, by omega, rfl, by go_num, by rw [HP.out], rfl⟩
    · have hke : k = n := by omega
      subst hke
      go_wp2_with fail
      go_ret
      exact ⟨rfl, HB0.out⟩
end Go.Proofs.YtmjcnlpjnbcfjacGreatDoor
