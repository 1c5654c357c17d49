/-
  The document's own count of an outline's cells (tallyref1.Size).
  The document's own reading of an outline (tallyref1.Outline): which dim is the first that is wrong, in which member, and how.
  What All of package rules, and the document's own Rules, answer, in whatever memory: which dim of an outline is wrong, in which member, and how.
  A block of yes and no; what the document's own Behind answers, in whatever memory, of members of whom nobody needs itself in the end.
-/
import Derived.Test.YtpnfmpbgjkhicaeGreatDoorRTG
import Derived.Test.YtpnfmpbgjkhicaeGreatDoorOut9
import Derived.Test.YtpnfmpbgjkhicaeGreatDoorRTI
import Derived.Deep.QuietTactic
import Derived.BigQuiet
import Derived.WalkSmall
import Derived.Test.YtpnfmpbgjkhicaeGreatDoorRTB
import Derived.Test.YtpnfmpbgjkhicaeGreatDoorRTJ
import Derived.Deep.OwnRows
namespace Go.Proofs.YtpnfmpbgjkhicaeGreatDoor
open Go.ChangeShapes Go.WideShapes Go.ChangeAt Go.RowKit
set_option maxRecDepth 20000

set_option maxHeartbeats 1000000 in
theorem osize_any (b o n cap : Nat) (D : Nat → Dm) (A : Nat → Option Addr) (C : Nat → Nat) (w : World) (hn : n ≤ 4) (hd : ∀ j, j < n → (D j).n ≤ 12) (hM : DimsAt w b o n D A C) : Calls Tryz.prog 72 #[.agg #[.slice (some ⟨b, o, none⟩) n cap]] w fun e w' => e = .returned (.int .i64 (prodN D n)) ∧ Below w.heap.size w w' := by
  have HB : Hid (DimsAt w b o n D A C) := hM
  have HD : Hid (∀ j, j < n → (D j).n ≤ 12) := hd
  clear hM hd
  have hS := ownOut_size w (some ⟨b, o, none⟩) n cap 48
  have hB0 := ownOut_below w (some ⟨b, o, none⟩) n cap 48
  have hA2 := ownOut_at w (some ⟨b, o, none⟩) n cap 48
  obtain ⟨W, hW⟩ : ∃ W, W = ownOut w (some ⟨b, o, none⟩) n cap 48 := ⟨_, rfl⟩
  rw [← hW] at hB0 hS hA2
  have HW : Hid (W = ownOut w (some ⟨b, o, none⟩) n cap 48) := hW
  have HA : Hid (W.cell? ⟨w.heap.size, 0, none⟩ = some (.slice (some ⟨b, o, none⟩) n cap)) := hA2
  have HB0 : Hid (Below w.heap.size w W) := hB0
  have hs8 : (n : Int) ≤ 4 := by omega
  clear hW hA2 hB0 hS
  go_enter Tryz.func72, Tryz.ntmps72
  go_wp2_with fail
  go_loopg [3, 4] n (fun g s3 s4 wr => ∃ (k : Nat), k ≤ n ∧ g = n - k ∧ s4 = .int .i64 k ∧ s3 = .int .i64 (prodN D k) ∧ wr = W)
  case atStart => exact ⟨0, Nat.zero_le _, rfl, rfl, rfl, by rw [HW.out]; rfl⟩
  case round =>
    obtain ⟨k, hk, rfl, rfl, rfl, rfl⟩ := hrel
    have c0 := HA.out
    by_cases hlt : k < n
    · obtain ⟨h0, h1, h2, -⟩ := (HB.out.later HB0.out).2 k hlt
      have hki : (k : Int) < (n : Int) := by omega
      have hp1 : prodN D (k + 1) ≤ 20736 := prod_small (fun j hj => HD.out j (by omega)) (by omega)
      have hp2 : (prodN D (k + 1) : Int) = (prodN D k : Int) * ((D k).n : Int) := by rw [prodN]; exact Int.natCast_mul _ _
      have hp3 : 0 ≤ (prodN D k : Int) * ((D k).n : Int) := by omega
      have hp4 : (prodN D k : Int) * ((D k).n : Int) ≤ 20736 := by omega
      have HP : Hid ((prodN D (k + 1) : Int) = (prodN D k : Int) * ((D k).n : Int)) := hp2
      clear hp1 hp2
      go_wp2_with fail
      go_roundg (n - (k + 1))
      case measure => omega
      case rel => exact ⟨k + 1, by omega, rfl, by go_num, by rw [HP.out], rfl⟩
    · have hke : k = n := by omega
      subst hke
      go_wp2_with fail
      go_ret
      exact ⟨rfl, HB0.out⟩
end Go.Proofs.YtpnfmpbgjkhicaeGreatDoor

namespace Go.Proofs.YtpnfmpbgjkhicaeGreatDoor
open Go.ChangeShapes Go.WideShapes Go.ChangeAt Go.RowKit
set_option maxRecDepth 20000

theorem clashD_hit {D : Nat → Dm} {k j : Nat} (hj : j < k) (h : same (D j).name (D k).name = true) : clashD D k = true := by
  unfold clashD
  exact decide_eq_true (findFrom_nonneg (q := fun j => same (D j).name (D k).name) hj h)
theorem clashD_none {D : Nat → Dm} {k : Nat} (h : findFrom (fun j => same (D j).name (D k).name) k 0 = -1) : clashD D k = false := by
  unfold clashD
  rw [h]
  rfl

set_option maxHeartbeats 8000000 in
theorem routline_any (A0 : Option Addr) (cap n : Nat) (D : Nat → Dm) (A : Nat → Option Addr) (C : Nat → Nat) (w : World) (hM : DimsV w A0 cap n D A C) : Calls Tryz.prog 43 #[.agg #[.slice A0 n cap]] w fun e w' => e = .returned (.tuple #[.int .i64 (allErr D n).1, .int .i64 (allErr D n).2.1, .int .i64 (allErr D n).2.2]) ∧ Below w.heap.size w w' := by
  by_cases hn4 : 4 < n
  · have hn' : 4 < (n : Int) := by omega
    have HR : Hid (allErr D n = (-1, -1, 4)) := al0 hn4
    clear hn4 hM
    go_enter Tryz.func43, Tryz.ntmps43
    go_wp2_with fail
    refine bodyPost_ret (v := .tuple #[.int .i64 (-1), .int .i64 (-1), .int .i64 4]) (by simp [results, Tryz.results43, go_sem]) rfl ⟨by rw [HR.out], ?_⟩
    go_grown
  have hn' : (n : Int) ≤ 4 := by omega
  by_cases hn0 : n = 0
  · have HR : Hid (allErr D n = (-1, -1, 5)) := al1 hn0
    have hz : ((n : Int) == 0) = true := by simp [hn0]
    clear hn0 hM hn4
    go_enter Tryz.func43, Tryz.ntmps43
    go_wp2_with fail
    refine bodyPost_ret (v := .tuple #[.int .i64 (-1), .int .i64 (-1), .int .i64 5]) (by simp [results, Tryz.results43, go_sem]) rfl ⟨by rw [HR.out], ?_⟩
    go_grown
  have hz : ((n : Int) == 0) = false := by simp; omega
  obtain ⟨hcap, h0 | ⟨b, o, rfl, hMs⟩⟩ := hM
  · omega
  have hcap' : (n : Int) ≤ (cap : Int) := by omega
  have hB0 := ownOut_below w (some ⟨b, o, none⟩) n cap 48
  have hS := ownOut_size w (some ⟨b, o, none⟩) n cap 48
  have hA := ownOut_at w (some ⟨b, o, none⟩) n cap 48
  obtain ⟨W, hW⟩ : ∃ W, W = ownOut w (some ⟨b, o, none⟩) n cap 48 := ⟨_, rfl⟩
  rw [← hW] at hB0 hS hA
  have HMs : Hid (DimsAt W b o n D A C) := hMs.later hB0
  have hsz : w.heap.size < W.heap.size := by omega
  clear hMs
  have HW : Hid (W = ownOut w (some ⟨b, o, none⟩) n cap 48) := hW
  have HA : Hid (W.cell? ⟨w.heap.size, 0, none⟩ = some (.slice (some ⟨b, o, none⟩) n cap)) := hA
  have HB0 : Hid (Below w.heap.size w W) := hB0
  clear hW hA hB0 hS
  go_enter Tryz.func43, Tryz.ntmps43
  go_wp2_with fail
  go_loopg [5] n (fun g s5 wr => ∃ (k : Nat), k ≤ n ∧ g = n - k ∧ s5 = .int .i64 k ∧ scanD D (n - k) k = scanD D n 0 ∧ Below W.heap.size W wr)
  case atStart => exact ⟨0, Nat.zero_le _, rfl, rfl, rfl, by rw [HW.out]; exact Below.refl _ _⟩
  case round =>
    obtain ⟨k, hk, rfl, rfl, hsc, hBw⟩ := hrel
    obtain ⟨wo, rfl⟩ : ∃ wo : World, wo = wr := ⟨_, rfl⟩
    have HBr : Hid (Below W.heap.size W wo) := hBw
    have HF : Hid (scanD D (n - k) k = scanD D n 0) := hsc
    have c0 : wo.cell? ⟨w.heap.size, 0, none⟩ = some (.slice (some ⟨b, o, none⟩) n cap) := (hBw.cell (p := ⟨w.heap.size, 0, none⟩) hsz).trans HA.out
    have hMr := HMs.out.later hBw
    have hszr : w.heap.size < wo.heap.size := Nat.lt_of_lt_of_le hsz hBw.size
    clear hsc hBw
    by_cases hlt : k < n
    · obtain ⟨h0, h1, h2, h3⟩ := hMr.2 k hlt
      have hki : (k : Int) < (n : Int) := by omega
      have hsk : n - k = (n - (k + 1)) + 1 := by omega
      have hck := rdim_any (D k) (A k) (C k) wo h3
      unfold dimV at hck
      have HMr : Hid (DimsAt wo b o n D A C) := hMr
      clear h3 hMr
      by_cases he : (dimErr (D k)).2 = 0
      · obtain ⟨e1, hd1, hd2, -⟩ := dimErr_right he
        rw [he, e1] at hck
        have HE : Hid ((dimErr (D k)).2 = 0) := he
        clear he e1
        go_wp2_with fail
        refine hck.mono ?_
        rintro e w1 ⟨rfl, hb1⟩
        have hz1 : w.heap.size < w1.heap.size := Nat.lt_of_lt_of_le hszr hb1.size
        have c1 : w1.cell? ⟨w.heap.size, 0, none⟩ = some (.slice (some ⟨b, o, none⟩) n cap) := (hb1.cell (p := ⟨w.heap.size, 0, none⟩) hszr).trans c0
        have HM1 : Hid (DimsAt w1 b o n D A C) := HMr.out.later hb1
        have HB1 : Hid (Below W.heap.size W w1) := onB HBr.out hb1
        clear hb1 hck c0 h0 h1 h2 HMr hd1 hd2
        go_wp2_with fail
        go_loopg [7, 8] k (fun g s7 s8 wr => ∃ (j : Nat), j ≤ k ∧ g = k - j ∧ s8 = .int .i64 j ∧ ((s7 = .int .i64 0 ∧ findFrom (fun j => same (D j).name (D k).name) (k - j) j = findFrom (fun j => same (D j).name (D k).name) k 0) ∨ (s7 = .int .i64 7 ∧ clashD D k = true)) ∧ Below w1.heap.size w1 wr)
        case atStart => exact ⟨0, Nat.zero_le _, rfl, rfl, Or.inl ⟨rfl, rfl⟩, Below.refl _ _⟩
        case round =>
          obtain ⟨j, hj, rfl, rfl, hs, hBi⟩ := hrel
          have HBi : Hid (Below w1.heap.size w1 wr) := hBi
          have c2 : wr.cell? ⟨w.heap.size, 0, none⟩ = some (.slice (some ⟨b, o, none⟩) n cap) := (hBi.cell (p := ⟨w.heap.size, 0, none⟩) hz1).trans c1
          have hMi := HM1.out.later hBi
          clear hBi
          rcases hs with ⟨rfl, hff⟩ | ⟨rfl, hcl⟩
          · have HFF : Hid (findFrom (fun j => same (D j).name (D k).name) (k - j) j = findFrom (fun j => same (D j).name (D k).name) k 0) := hff
            clear hff
            by_cases hjk : j < k
            · obtain ⟨a0, -, -, -⟩ := hMi.2 j (by omega)
              obtain ⟨b0, -, -, -⟩ := hMi.2 k hlt
              have hji : (j : Int) < (k : Int) := by omega
              have hjn : (j : Int) < (n : Int) := by omega
              have hsj : k - j = (k - (j + 1)) + 1 := by omega
              clear hMi
              cases hq : ((D j).name.toList == (D k).name.toList)
              · have HQ : Hid ((fun j => same (D j).name (D k).name) j = false) := hq
                go_wp2_with fail
                go_quiet (fail)
                go_wp2_with fail
                go_roundg (k - (j + 1))
                case measure => omega
                case rel => exact ⟨j + 1, by omega, rfl, by go_num, Or.inl ⟨rfl, by rw [← HFF.out, hsj, findFrom_miss _ HQ.out]⟩, onB HBi.out (below_drewN (Below.refl _ _) _)⟩
              · have HQ : Hid (clashD D k = true) := clashD_hit hjk hq
                go_wp2_with fail
                go_quiet (fail)
                go_wp2_with fail
                go_roundg (k - (j + 1))
                case measure => omega
                case rel => exact ⟨j + 1, by omega, rfl, by go_num, Or.inr ⟨rfl, HQ.out⟩, onB HBi.out (below_drewN (Below.refl _ _) _)⟩
            · have hje : j = k := by omega
              have hji : (k : Int) ≤ (j : Int) := by omega
              have hcl : clashD D k = false := clashD_none (by rw [← HFF.out, hje, Nat.sub_self]; rfl)
              have HK : Hid (oneD D k = (-1, 0)) := one2 HE.out hcl
              clear hMi hcl
              go_wp2_with fail
              go_roundg (n - (k + 1))
              case measure => omega
              case rel => exact ⟨k + 1, by omega, rfl, by go_num, by rw [← HF.out, hsk, scanD_ok _ (by rw [HK.out])], onB HB1.out HBi.out⟩
          · have HK : Hid (oneD D k = (-1, 7)) := one1 HE.out hcl
            clear hMi hcl
            have hsb : scanD D n 0 = ((k : Int), -1, 7) := by rw [← HF.out, hsk, scanD_bad _ (by rw [HK.out]; decide), HK.out]
            have HR : Hid (allErr D n = ((k : Int), -1, 7)) := by show _ = _; rw [al2 (by omega) (by omega) (by rw [hsb]; show (7 : Int) ≠ 0; decide), hsb]
            clear hsb
            by_cases hjk : (j : Int) < (k : Int)
            · go_wp2_with fail
              refine bodyPost_ret (v := .tuple #[.int .i64 k, .int .i64 (-1), .int .i64 7]) (by simp [results, Tryz.results43, go_sem]) rfl ⟨by rw [HR.out], ?_⟩
              exact onB HB0.out (onB HB1.out HBi.out)
            · go_wp2_with fail
              refine bodyPost_ret (v := .tuple #[.int .i64 k, .int .i64 (-1), .int .i64 7]) (by simp [results, Tryz.results43, go_sem]) rfl ⟨by rw [HR.out], ?_⟩
              exact onB HB0.out (onB HB1.out HBi.out)
      · have HK : Hid (oneD D k = dimErr (D k)) := one0 he
        have HE : Hid ((dimErr (D k)).2 ≠ 0) := he
        have hsb : scanD D n 0 = ((k : Int), (dimErr (D k)).1, (dimErr (D k)).2) := by rw [← HF.out, hsk, scanD_bad _ (by rw [HK.out]; exact he), HK.out]
        have HR : Hid (allErr D n = ((k : Int), (dimErr (D k)).1, (dimErr (D k)).2)) := by show _ = _; rw [al2 (by omega) (by omega) (by rw [hsb]; exact he), hsb]
        have he2 : ((dimErr (D k)).2 == 0) = false := by simpa using he
        clear he hsb HK HE
        generalize (dimErr (D k)).2 = ec at hck HR he2
        generalize (dimErr (D k)).1 = kc at hck HR
        go_wp2_with fail
        refine hck.mono ?_
        rintro e w1 ⟨rfl, hb1⟩
        have HB1 : Hid (Below W.heap.size W w1) := onB HBr.out hb1
        clear hb1 hck
        go_wp2_with fail
        by_cases hk0 : (0 : Int) < (k : Int)
        · refine wp_loop_rounds 1 ?_
          rw [rounds_succ]
          go_wp2_with fail
          refine bodyPost_ret (v := .tuple #[.int .i64 k, .int .i64 kc, .int .i64 ec]) (by simp [results, Tryz.results43, go_sem]) rfl ⟨by rw [HR.out], ?_⟩
          exact onB HB0.out HB1.out
        · have hk0' : (k : Int) ≤ 0 := by omega
          refine wp_loop_rounds 1 ?_
          rw [rounds_succ]
          go_wp2_with fail
          refine bodyPost_ret (v := .tuple #[.int .i64 k, .int .i64 kc, .int .i64 ec]) (by simp [results, Tryz.results43, go_sem]) rfl ⟨by rw [HR.out], ?_⟩
          exact onB HB0.out HB1.out
    · have hke : k = n := by omega
      subst hke
      have hs0 : (scanD D k 0).2.2 = 0 := by rw [← HF.out, Nat.sub_self]; rfl
      have hone := (scanD_right k 0 hs0).2
      have hcs := osize_any b o k cap D A C wo (by omega) (fun j hj => (dimErr_right (oneD_right (hone j (Nat.zero_le _) (by omega)))).2.2.1) hMr
      clear hone hMr
      by_cases hp : 3000 < prodN D k
      · have hp' : 3000 < (prodN D k : Int) := by omega
        have HR : Hid (allErr D k = (-1, -1, 4)) := al3 (by omega) (by omega) hs0 hp
        clear hs0 hp
        go_wp2_with fail
        refine hcs.mono ?_
        rintro e w2 ⟨rfl, hb2⟩
        go_wp2_with fail
        refine bodyPost_ret (v := .tuple #[.int .i64 (-1), .int .i64 (-1), .int .i64 4]) (by simp [results, Tryz.results43, go_sem]) rfl ⟨by rw [HR.out], ?_⟩
        exact onB HB0.out (onB HBr.out hb2)
      · have hp' : (prodN D k : Int) ≤ 3000 := by omega
        have HR : Hid (allErr D k = (-1, -1, 0)) := al4 (by omega) (by omega) hs0 hp
        clear hs0 hp
        go_wp2_with fail
        refine hcs.mono ?_
        rintro e w2 ⟨rfl, hb2⟩
        go_wp2_with fail
        refine bodyPost_ret (v := .tuple #[.int .i64 (-1), .int .i64 (-1), .int .i64 0]) (by simp [results, Tryz.results43, go_sem]) rfl ⟨by rw [HR.out], ?_⟩
        exact onB HB0.out (onB HBr.out hb2)
end Go.Proofs.YtpnfmpbgjkhicaeGreatDoor

namespace Go.Proofs.YtpnfmpbgjkhicaeGreatDoor
open Go.ChangeShapes Go.WideShapes Go.ChangeAt Go.RowKit
set_option maxRecDepth 20000

noncomputable def badD (D : Nat → Dm) (i : Nat) : Bool := decide ((rErr (D i)).2 ≠ 0)
noncomputable def ruErr (D : Nat → Dm) (n : Nat) : Int × Int × Int :=
  if (allErr D n).2.2 ≠ 0 then allErr D n
  else if 0 ≤ findFrom (badD D) n 0 then (findFrom (badD D) n 0, rErr (D (findFrom (badD D) n 0).toNat))
  else (-1, -1, 0)
theorem ru0 {D : Nat → Dm} {n : Nat} (h : (allErr D n).2.2 ≠ 0) : ruErr D n = allErr D n := by unfold ruErr; rw [if_pos h]
theorem ru1 {D : Nat → Dm} {n i : Nat} (h : (allErr D n).2.2 = 0) (hi : i < n) (hb : (rErr (D i)).2 ≠ 0) (hf : ∀ j, j < i → (rErr (D j)).2 = 0) : ruErr D n = ((i : Int), (rErr (D i)).1, (rErr (D i)).2) := by
  have e : findFrom (badD D) n 0 = (i : Int) := findFrom_at (Nat.zero_le _) (by omega) (decide_eq_true hb) fun j _ hj => decide_eq_false (by simpa using hf j hj)
  unfold ruErr
  rw [if_neg (by simpa using h), e, if_pos (by omega), Int.toNat_natCast]
theorem ru2 {D : Nat → Dm} {n : Nat} (h : (allErr D n).2.2 = 0) (hf : ∀ j, j < n → (rErr (D j)).2 = 0) : ruErr D n = (-1, -1, 0) := by
  unfold ruErr
  rw [if_neg (by simpa using h), findFrom_none (p := badD D) fun j _ hj => decide_eq_false (by simpa using hf j (by omega)), if_neg (by omega)]

set_option maxHeartbeats 4000000 in
theorem rulall_any (A0 : Option Addr) (cap n : Nat) (D : Nat → Dm) (A : Nat → Option Addr) (C : Nat → Nat) (w : World) (hM : DimsV w A0 cap n D A C) : Calls Tryz.prog 16 #[.agg #[.slice A0 n cap]] w fun e w' => e = .returned (.tuple #[.int .i64 (ruErr D n).1, .int .i64 (ruErr D n).2.1, errV (ruErr D n).2.2]) ∧ Below w.heap.size w w' := by
  have hB0 := ownOut_below w A0 n cap 48
  have hS := ownOut_size w A0 n cap 48
  have hA := ownOut_at w A0 n cap 48
  have hal := all_any A0 cap n D A C (ownOut w A0 n cap 48) (hM.later hB0)
  obtain ⟨W, hW⟩ : ∃ W, ownOut w A0 n cap 48 = W := ⟨_, rfl⟩
  rw [hW] at hB0 hS hA hal
  unfold ownOut at hW
  have HB0 : Hid (Below w.heap.size w W) := hB0
  have HM : Hid (DimsV w A0 cap n D A C) := hM
  have hsz : w.heap.size < W.heap.size := by omega
  clear hM hB0
  by_cases he : (allErr D n).2.2 = 0
  case neg =>
    rw [ru0 he]
    rw [errV_some he] at hal ⊢
    generalize (allErr D n).1 = x at hal ⊢
    generalize (allErr D n).2.1 = y at hal ⊢
    generalize (allErr D n).2.2 = c at hal ⊢
    clear he
    go_enter Tryz.func16, Tryz.ntmps16
    go_wp2_with fail
    refine hal.mono ?_
    rintro e w1 ⟨rfl, hb1⟩
    go_wp2_with fail
    go_returns
    exact ⟨rfl, onB HB0.out hb1⟩
  obtain ⟨hn1, hn4, -, -⟩ := allErr_some he
  have HE : Hid ((allErr D n).2.2 = 0) := he
  rw [he, errV_zero] at hal
  generalize (allErr D n).1 = x at hal
  generalize (allErr D n).2.1 = y at hal
  have hnI : (n : Int) ≤ 4 := by omega
  have HA : Hid (W.cell? ⟨w.heap.size, 0, none⟩ = some (.slice A0 n cap)) := hA
  clear he
  go_enter Tryz.func16, Tryz.ntmps16
  go_wp2_with fail
  refine hal.mono ?_
  rintro e w1 ⟨rfl, hb1⟩
  have HB1 : Hid (Below W.heap.size W w1) := hb1
  have c1 : w1.cell? ⟨w.heap.size, 0, none⟩ = some (.slice A0 n cap) := (hb1.cell (p := ⟨w.heap.size, 0, none⟩) hsz).trans hA
  have hsz1 : w.heap.size < w1.heap.size := Nat.lt_of_lt_of_le hsz hb1.size
  clear hb1 hal hA hW
  go_wp2_with fail
  go_loopg [26] n (fun g s26 wr => ∃ (k : Nat), k ≤ n ∧ g = n - k ∧ s26 = .int .i64 k ∧ Hid (∀ j, j < k → (rErr (D j)).2 = 0) ∧ Below W.heap.size W wr)
  case atStart => exact ⟨0, Nat.zero_le _, rfl, rfl, (fun j hj => absurd hj (Nat.not_lt_zero _) : ∀ j, j < 0 → _), HB1.out⟩
  case round =>
    obtain ⟨k, hk, rfl, rfl, HK, hBw⟩ := hrel
    have HBw : Hid (Below W.heap.size W wr) := hBw
    by_cases hlt : k < n
    · have hki : (k : Int) < (n : Int) := by omega
      obtain ⟨hcap, h0 | ⟨b, o, rfl, hMs⟩⟩ := HM.out.later (onB HB0.out hBw)
      · omega
      have hcapI : (n : Int) ≤ (cap : Int) := by omega
      obtain ⟨h0, h1, h2, h3⟩ := hMs.2 k hlt
      have hbl : b < wr.heap.size := hMs.1
      have hBo := ownDim_below wr (D k) (A k) (C k) 51
      have hck := rcheck_any (D k) (A k) (C k) (ownDim wr (D k) (A k) (C k) 51) (h3.later hBo)
      obtain ⟨d0, d1, d2, hqW⟩ := dim_cells (w := wr) (d := D k) (A := A k) (cap := C k) (Below.refl _ _)
      have HBo : Hid (Below wr.heap.size wr (ownDim wr (D k) (A k) (C k) 51)) := hBo
      unfold dimV at hck
      obtain ⟨W2, hW2⟩ : ∃ W2, ownDim wr (D k) (A k) (C k) 51 = W2 := ⟨_, rfl⟩
      rw [hW2] at d0 d1 d2 hqW HBo hck
      unfold ownDim at hW2
      clear h3 hMs hBo hBw
      by_cases he : (rErr (D k)).2 = 0
      · rw [he, errV_zero] at hck
        have HK2 : Hid (∀ j, j < k + 1 → (rErr (D j)).2 = 0) := fun j hj => by
          by_cases e : j = k
          · rw [e]; exact he
          · exact HK.out j (by omega)
        generalize (rErr (D k)).1 = z at hck
        clear he
        go_wp2_with fail
        refine hck.mono ?_
        rintro e w2 ⟨rfl, hb2⟩
        have HB2 : Hid (Below W.heap.size W w2) := onB HBw.out (onB HBo.out hb2)
        clear hb2 hck
        go_wp2_with fail
        go_roundg (n - (k + 1))
        case measure => omega
        case rel => exact ⟨k + 1, by omega, rfl, by go_num, HK2, HB2.out⟩
      · have HRu : Hid (ruErr D n = ((k : Int), (rErr (D k)).1, (rErr (D k)).2)) := ru1 HE.out hlt he HK.out
        have HEe : Hid ((rErr (D k)).2 ≠ 0) := he
        rw [errV_some he] at hck
        generalize (rErr (D k)).1 = z at hck HRu
        generalize (rErr (D k)).2 = c at hck HRu HEe
        clear he
        go_wp2_with fail
        refine hck.mono ?_
        rintro e w2 ⟨rfl, hb2⟩
        have HB2 : Hid (Below W.heap.size W w2) := onB HBw.out (onB HBo.out hb2)
        clear hb2 hck
        go_wp2_with fail
        go_returns
        rw [HRu.out]
        exact ⟨by rw [errV_some HEe.out]; rfl, onB HB0.out HB2.out⟩
    · have hke : k = n := by omega
      subst hke
      have HRu : Hid (ruErr D k = (-1, -1, 0)) := ru2 HE.out HK.out
      clear hBw
      go_wp2_with fail
      go_returns
      rw [HRu.out]
      exact ⟨rfl, onB HB0.out HBw.out⟩

set_option maxHeartbeats 4000000 in
theorem srules_any (A0 : Option Addr) (cap n : Nat) (D : Nat → Dm) (A : Nat → Option Addr) (C : Nat → Nat) (w : World) (hM : DimsV w A0 cap n D A C) : Calls Tryz.prog 15 #[.agg #[.slice A0 n cap]] w fun e w' => e = .returned (.tuple #[.int .i64 (ruErr D n).1, .int .i64 (ruErr D n).2.1, .int .i64 (ruErr D n).2.2]) ∧ Below w.heap.size w w' := by
  have hB0 := ownOut_below w A0 n cap 48
  have hS := ownOut_size w A0 n cap 48
  have hA := ownOut_at w A0 n cap 48
  have hal := routline_any A0 cap n D A C (ownOut w A0 n cap 48) (hM.later hB0)
  obtain ⟨W, hW⟩ : ∃ W, ownOut w A0 n cap 48 = W := ⟨_, rfl⟩
  rw [hW] at hB0 hS hA hal
  unfold ownOut at hW
  have HB0 : Hid (Below w.heap.size w W) := hB0
  have HM : Hid (DimsV w A0 cap n D A C) := hM
  have hsz : w.heap.size < W.heap.size := by omega
  clear hM hB0
  by_cases he : (allErr D n).2.2 = 0
  case neg =>
    rw [ru0 he]
    have hne : ((allErr D n).2.2 != 0) = true := by simpa using he
    generalize (allErr D n).1 = x at hal ⊢
    generalize (allErr D n).2.1 = y at hal ⊢
    generalize (allErr D n).2.2 = c at hal hne ⊢
    clear he
    go_enter Tryz.func15, Tryz.ntmps15
    go_wp2_with fail
    refine hal.mono ?_
    rintro e w1 ⟨rfl, hb1⟩
    go_wp2_with fail
    go_returns
    exact ⟨rfl, onB HB0.out hb1⟩
  obtain ⟨hn1, hn4, -, -⟩ := allErr_some he
  have HE : Hid ((allErr D n).2.2 = 0) := he
  rw [he] at hal
  generalize (allErr D n).1 = x at hal
  generalize (allErr D n).2.1 = y at hal
  have hnI : (n : Int) ≤ 4 := by omega
  have HA : Hid (W.cell? ⟨w.heap.size, 0, none⟩ = some (.slice A0 n cap)) := hA
  clear he
  go_enter Tryz.func15, Tryz.ntmps15
  go_wp2_with fail
  refine hal.mono ?_
  rintro e w1 ⟨rfl, hb1⟩
  have HB1 : Hid (Below W.heap.size W w1) := hb1
  clear hb1 hal hA hW
  go_wp2_with fail
  go_loopg [8] n (fun g s8 wr => ∃ (k : Nat), k ≤ n ∧ g = n - k ∧ s8 = .int .i64 k ∧ Hid (∀ j, j < k → (rErr (D j)).2 = 0) ∧ Below W.heap.size W wr)
  case atStart => exact ⟨0, Nat.zero_le _, rfl, rfl, (fun j hj => absurd hj (Nat.not_lt_zero _) : ∀ j, j < 0 → _), HB1.out⟩
  case round =>
    obtain ⟨k, hk, rfl, rfl, HK, hBw⟩ := hrel
    have HBw : Hid (Below W.heap.size W wr) := hBw
    have cw : wr.cell? ⟨w.heap.size, 0, none⟩ = some (.slice A0 n cap) := (hBw.cell (p := ⟨w.heap.size, 0, none⟩) hsz).trans HA.out
    have hszr : w.heap.size < wr.heap.size := Nat.lt_of_lt_of_le hsz hBw.size
    by_cases hlt : k < n
    · have hki : (k : Int) < (n : Int) := by omega
      obtain ⟨hcap, h0 | ⟨b, o, rfl, hMs⟩⟩ := HM.out.later (onB HB0.out hBw)
      · omega
      have hcapI : (n : Int) ≤ (cap : Int) := by omega
      obtain ⟨h0, h1, h2, h3⟩ := hMs.2 k hlt
      have hbl : b < wr.heap.size := hMs.1
      have hck := sneeds_any (D k) (A k) (C k) wr h3
      unfold dimV at hck
      clear h3 hMs hBw
      by_cases he : (rErr (D k)).2 = 0
      · have HK2 : Hid (∀ j, j < k + 1 → (rErr (D j)).2 = 0) := fun j hj => by
          by_cases e : j = k
          · rw [e]; exact he
          · exact HK.out j (by omega)
        rw [he] at hck
        generalize (rErr (D k)).1 = z at hck
        clear he
        go_wp2_with fail
        refine hck.mono ?_
        rintro e w2 ⟨⟨A2, c2, xs, rfl, -⟩, hb2⟩
        have HB2 : Hid (Below W.heap.size W w2) := onB HBw.out hb2
        clear hb2 hck
        go_wp2_with fail
        go_roundg (n - (k + 1))
        case measure => omega
        case rel => exact ⟨k + 1, by omega, rfl, by go_num, HK2, HB2.out⟩
      · have HRu : Hid (ruErr D n = ((k : Int), (rErr (D k)).1, (rErr (D k)).2)) := ru1 HE.out hlt he HK.out
        have hne : ((rErr (D k)).2 != 0) = true := by simpa using he
        generalize (rErr (D k)).1 = z at hck HRu
        generalize (rErr (D k)).2 = c at hck HRu hne
        clear he
        go_wp2_with fail
        refine hck.mono ?_
        rintro e w2 ⟨⟨A2, c2, xs, rfl, -⟩, hb2⟩
        have HB2 : Hid (Below W.heap.size W w2) := onB HBw.out hb2
        clear hb2 hck
        go_wp2_with fail
        go_returns
        rw [HRu.out]
        exact ⟨rfl, onB HB0.out HB2.out⟩
    · have hke : k = n := by omega
      subst hke
      have HRu : Hid (ruErr D k = (-1, -1, 0)) := ru2 HE.out HK.out
      clear hBw
      go_wp2_with fail
      go_returns
      rw [HRu.out]
      exact ⟨rfl, onB HB0.out HBw.out⟩
end Go.Proofs.YtpnfmpbgjkhicaeGreatDoor

namespace Go.Proofs.YtpnfmpbgjkhicaeGreatDoor
open Go.ChangeShapes Go.WideShapes Go.ChangeAt Go.RowKit
set_option maxRecDepth 20000

/-- a block of yes and no -/
def BolB (w : World) (g n : Nat) (f : Nat → Bool) : Prop := w.heap[g]? = some (.cells ((List.range n).map fun j => Value.bool (f j)).toArray 4 (0, 0))
theorem BolB.lt {w : World} {g n : Nat} {f : Nat → Bool} (h : BolB w g n f) : g < w.heap.size := (Array.getElem?_eq_some_iff.1 h).1
theorem BolB.cell {w : World} {g n : Nat} {f : Nat → Bool} (h : BolB w g n f) {j : Nat} (hj : j < n) : w.cell? ⟨g, j, none⟩ = some (.bool (f j)) := by
  rw [Lib.cell_of_heap h]
  simp [hj]
theorem BolB.frozen {w : World} {g n : Nat} {f : Nat → Bool} (h : BolB w g n f) (j : Nat) : w.frozen? ⟨g, j, none⟩ = false := Lib.frozen_of_heap h j
theorem BolB.later {w w' : World} {g n : Nat} {f : Nat → Bool} (h : BolB w g n f) (hB : Below w.heap.size w w') : BolB w' g n f := (hB.block g h.lt).trans h
theorem BolB.set {w : World} {g n : Nat} {f f' : Nat → Bool} (h : BolB w g n f) {m : Nat} (hf : ∀ j, j < n → f' j = if j = m then true else f j) : BolB (w.setCell ⟨g, m, none⟩ (.bool true)) g n f' := by
  unfold BolB at *
  simp only [World.setCell, Array.getElem?_modify, if_true, h, Option.map_some, Option.some.injEq, Obj.cells.injEq, and_true, Option.isSome_none, Bool.false_eq_true, if_false]
  apply Array.ext_getElem?
  intro j
  rw [Array.getElem?_setIfInBounds]
  by_cases hj : j < n
  · by_cases e : m = j
    · rw [if_pos e, if_pos (by simp; omega)]
      simp [hj, hf j hj, e]
    · have e' : j ≠ m := fun x => e x.symm
      rw [if_neg e]
      simp only [List.getElem?_toArray, List.getElem?_map, List.getElem?_range hj, Option.map_some, hf j hj, if_neg e']
  · by_cases e : m = j
    · rw [if_pos e, if_neg (by simp; omega), Array.getElem?_eq_none (by simp; omega)]
    · rw [if_neg e, Array.getElem?_eq_none (by simp; omega), Array.getElem?_eq_none (by simp; omega)]
theorem BolB.made (w : World) (n : Nat) : BolB (w.alloc (.cells (madeCells #[.bool false] n) 4)) w.heap.size n fun _ => false := by
  unfold BolB
  have e : madeCells #[.bool false] n = ((List.range n).map fun _ => Value.bool false).toArray := by
    apply Array.ext
    · simp [madeCells]
    · intro i h1 h2
      simp [madeCells, Nat.mod_one]
  rw [e]
  exact heap_alloc_new w _
theorem below_set {B : Nat} {w0 w : World} {g j : Nat} {v : Value} (h : Below B w0 w) (hg : B ≤ g) : Below B w0 (w.setCell ⟨g, j, none⟩ v) := by
  refine ⟨h.os, h.tape, h.output, by simpa [World.setCell] using h.size, fun k hk => ?_⟩
  rw [← h.block k hk]
  simp only [World.setCell, Array.getElem?_modify]
  rw [if_neg (by omega)]
theorem Tryz.infoBol : (Tryz.prog.info? 4).map (fun i => (i.zero, i.size, i.bytes)) = some (some (.bool false), 1, 1) := by kernel_rfl

theorem own_set {w : World} {base e size n g j : Nat} {v x : Value} {xs : List Value} (h : w.ownsRow base e size v n xs) (hg : g < base) : (w.setCell ⟨g, j, none⟩ x).ownsRow base e size v n xs := by
  refine ⟨h.1, ?_⟩
  rcases h.2 with h0 | ⟨g', cap, cur, h1, hb, hg', h2⟩
  · exact Or.inl h0
  · refine Or.inr ⟨g', cap, cur, h1, hb, ?_, h2⟩
    simp only [World.setCell, Array.getElem?_modify]
    rw [if_neg (by omega)]
    exact hg'
/-- those of a list that are there -/
def inF (L : List Int) (j : Nat) : Bool := L.contains (j : Int)
theorem inF_next {L : List Int} {m : Nat} (j : Nat) : inF (L ++ [(m : Int)]) j = if j = m then true else inF L j := by
  unfold inF
  by_cases e : j = m
  · subst e
    rw [if_pos rfl, List.contains_iff_mem]
    simp
  · rw [if_neg e, Bool.eq_iff_iff, List.contains_iff_mem, List.contains_iff_mem, List.mem_append, List.mem_singleton]
    exact ⟨fun h => h.resolve_right (by omega), Or.inl⟩
/-- whether a member can be next, looked at need by need -/
def okTo (L R : List Int) (j u : Nat) : Bool := !(L.contains (j : Int)) && (R.take u).all fun x => L.contains x
theorem okTo_next {L R : List Int} {j u : Nat} (h : okTo L R j u = true) (hu : u < R.length) : okTo L R j (u + 1) = L.contains (R.getD u 0) := by
  unfold okTo at *
  rw [Bool.and_eq_true] at h
  rw [h.1, Bool.true_and, List.take_succ_eq_append_getElem hu, List.all_append, h.2, Bool.true_and, List.getD_eq_getElem?_getD, List.getElem?_eq_getElem hu]
  simp
theorem okTo_end {N : List (List Int)} {L R : List Int} {j u : Nat} (hR : N.getD j [] = R) (hu : u = R.length ∨ okTo L R j u = false) : okTo L R j u = okN N L j := by
  unfold okN
  rw [hR]
  rcases hu with hu | hu
  · unfold okTo
    rw [List.take_of_length_le (by omega)]
  · rw [hu]
    symm
    unfold okTo at hu
    rw [Bool.and_eq_false_iff] at hu ⊢
    rcases hu with hu | hu
    · exact Or.inl hu
    · right
      rw [List.all_eq_false] at hu ⊢
      obtain ⟨x, hx, h⟩ := hu
      exact ⟨x, List.mem_of_mem_take hx, h⟩

set_option maxHeartbeats 8000000 in
theorem behind_any (A : Option Addr) (cap : Nat) (xs : List RL) (w : World) (hn : xs.length ≤ 12) (hN : Inn (lR xs)) (hl : ∀ x ∈ xs, x.p.length ≤ 12) (hc : ∀ i : Nat, i < (lR xs).length → cycB (lR xs) i = false) (hR : RowsV w A cap xs) :
    Calls Tryz.prog 19 #[.slice A xs.length cap] w fun e w' => (∃ A' c', e = .returned (.slice A' (ordTo (lR xs) xs.length).length c') ∧ IntsAt w' A' c' (ordTo (lR xs) xs.length)) ∧ Below w.heap.size w w' := by
  obtain ⟨i0, hi0, hz0, hz1, hz2⟩ := info_parts Tryz.infoInt
  have HR : Hid (RowsV w A cap xs) := hR
  have HLen : Hid ((lR xs).length = xs.length) := lR_len xs
  obtain ⟨n, hnn⟩ : ∃ n, xs.length = n := ⟨_, rfl⟩
  have HX : Hid (xs.length = n) := hnn
  have HSn : Hid (∀ k, k < n → ∃ m : Nat, m < n ∧ okN (lR xs) (ordTo (lR xs) k) m = true ∧ (∀ j, j < m → okN (lR xs) (ordTo (lR xs) k) j = false) ∧ ordTo (lR xs) (k + 1) = ordTo (lR xs) k ++ [(m : Int)]) := fun k hk => by
    obtain ⟨m, -, h2, h3, h4, h5⟩ := ord_snoc hN hc (k := k) (by rw [lR_len]; omega)
    exact ⟨m, by rw [lR_len] at h2; omega, h3, h4, h5⟩
  have HOl : Hid (∀ k, k ≤ n → (ordTo (lR xs) k).length = k) := fun k hk => ord_len hN hc k (by rw [lR_len]; omega)
  have HLe : Hid (∀ j, j < n → (xs.getD j noR).p.length ≤ 12 ∧ ∀ x ∈ (xs.getD j noR).p, 0 ≤ x ∧ x < (n : Int)) := fun j hj => by
    refine ⟨hl _ (rl_mem (by rw [hnn]; exact hj)), fun x hx => ?_⟩
    have h := hN j (by rw [lR_len, hnn]; exact hj) x (by rw [lR_at]; exact hx)
    rw [lR_len, hnn] at h
    exact h
  rw [hnn] at hn ⊢
  have hnI : (n : Int) ≤ 12 := by omega
  have hmk := run_make_row' (P := Tryz.prog) 101 4 (.bool false) 1 Tryz.underlying101 Tryz.infoBol rfl .i64 .i64 n (by omega) (by omega)
  obtain ⟨W, hW⟩ : ∃ W, w.alloc (.cells (madeCells #[.bool false] n) 4) = W := ⟨_, rfl⟩
  have HB0 : Hid (Below w.heap.size w W) := by rw [← hW]; exact (Below.refl _ _).alloc (Nat.le_refl _) _
  have HG0 : Hid (BolB W w.heap.size n (inF (ordTo (lR xs) 0))) := by rw [← hW]; exact BolB.made w n
  clear hN hl hc hR hnn
  go_enter Tryz.func19, Tryz.ntmps19
  go_wp2_with fail
  clear hW hmk
  go_loopg [4] n (fun g s4 wr => ∃ (k : Nat) (AO : Option Addr) (cO : Nat), k ≤ n ∧ g = n - k ∧ s4 = .slice AO k cO ∧ wr.ownsRow (w.heap.size + 1) 3 1 (.slice AO k cO) k (mapI (ordTo (lR xs) k)) ∧ BolB wr w.heap.size n (inF (ordTo (lR xs) k)) ∧ Below w.heap.size w wr)
  case atStart => exact ⟨0, none, 0, Nat.zero_le _, rfl, rfl, World.ownsRow_nil _ _ _ _, HG0.out, HB0.out⟩
  case round =>
    obtain ⟨k, AO, cO, hk, rfl, rfl, hO, hG, hBw⟩ := hrel
    have HO : Hid (wr.ownsRow (w.heap.size + 1) 3 1 (.slice AO k cO) k (mapI (ordTo (lR xs) k))) := hO
    have HG : Hid (BolB wr w.heap.size n (inF (ordTo (lR xs) k))) := hG
    have HBw : Hid (Below w.heap.size w wr) := hBw
    by_cases hlt : k < n
    · have hki : (k : Int) < (n : Int) := by omega
      obtain ⟨m, hmn, hok, hno, hsn⟩ := HSn.out k hlt
      have HNo : Hid (∀ j, j < m → okN (lR xs) (ordTo (lR xs) k) j = false) := hno
      have HOk : Hid (okN (lR xs) (ordTo (lR xs) k) m = true) := hok
      have HSk : Hid (ordTo (lR xs) (k + 1) = ordTo (lR xs) k ++ [(m : Int)]) := hsn
      obtain ⟨L, hL⟩ : ∃ L, ordTo (lR xs) k = L := ⟨_, rfl⟩
      rw [hL] at HNo HOk HSk HG HO
      clear hO hG hBw hok hno hsn hL
      go_wp2_with fail
      go_loopg [4, 5] n (fun gg s4 s5 wi => ∃ (j : Nat), j ≤ m ∧ gg = n - j ∧ s4 = .slice AO k cO ∧ s5 = .int .i64 j ∧ wi = wr)
      case atStart => exact ⟨0, Nat.zero_le _, rfl, rfl, rfl, rfl⟩
      case round =>
        obtain ⟨j, hj, rfl, rfl, rfl, hwi⟩ := hrel
        subst hwi
        have hjn : j < n := by omega
        have hji : (j : Int) < (n : Int) := by omega
        obtain ⟨hcap, h0 | ⟨b, rfl, hbw, hcl⟩, hrw⟩ := HR.out.later HBw.out
        · have := HX.out; rw [h0] at this; simp at this; omega
        have cj := hcl j (by rw [HX.out]; exact hjn)
        have hrj := hrw _ (rl_mem (k := j) (by rw [HX.out]; exact hjn))
        obtain ⟨hlj, hij⟩ := HLe.out j hjn
        rw [HX.out] at hcap
        have hcapI : (n : Int) ≤ (cap : Int) := by omega
        have HNj : Hid ((lR xs).getD j [] = (xs.getD j noR).p) := lR_at xs j
        obtain ⟨R, hRe⟩ : ∃ R, (xs.getD j noR).p = R := ⟨_, rfl⟩
        rw [hRe] at cj hrj hlj hij HNj
        have HIj : Hid (∀ x ∈ R, 0 ≤ x ∧ x < (n : Int)) := hij
        generalize (xs.getD j noR).A = Aj at cj hrj
        generalize (xs.getD j noR).c = cjj at cj hrj
        have HTj : Hid (IntT wr Aj cjj R) := hrj
        obtain ⟨r, hr⟩ : ∃ r, R.length = r := ⟨_, rfl⟩
        have HRr : Hid (R.length = r) := hr
        rw [hr] at cj hlj
        have hrI : (r : Int) ≤ 12 := by omega
        have cg := HG.out.cell hjn
        have hgl := HG.out.lt
        have HOk0 : Hid (okTo L R j 0 = !inF L j) := by show _ = _; unfold okTo inF; simp
        generalize inF L j = ij at cg HOk0
        clear hcl hrw hrj hRe hij hr
        go_wp2_with fail
        go_loopg [6, 7] r (fun gg s6 s7 wi => ∃ (u : Nat) (ok : Bool), u ≤ r ∧ gg = r - u ∧ s6 = .bool ok ∧ s7 = .int .i64 u ∧ Hid (okTo L R j u = ok) ∧ wi = wr)
        case atStart => exact ⟨0, _, Nat.zero_le _, rfl, rfl, rfl, HOk0, rfl⟩
        case round =>
          obtain ⟨u, ok, hu, rfl, rfl, rfl, HU, hwi⟩ := hrel
          subst hwi
          by_cases hul : u < r
          · have hui : (u : Int) < (r : Int) := by omega
            cases ok
            · have hjm : j < m := by
                have h1 : okN (lR xs) L j = false := by rw [← okTo_end HNj.out (Or.inr HU.out)]; exact HU.out
                rcases Nat.lt_or_ge j m with h | h
                · exact h
                · have e : j = m := by omega
                  have h2 := HOk.out
                  rw [← e, h1] at h2
                  cases h2
              go_wp2_with fail
              go_roundg (n - (j + 1))
              case measure => omega
              case rel => exact ⟨j + 1, by omega, rfl, rfl, by go_num, rfl⟩
            · obtain ⟨hcR, -, hR0 | ⟨br, cs, fr, rfl, hbr, hcr⟩⟩ := HTj.out
              · have := HRr.out; rw [hR0] at this; simp at this; omega
              have cu := hcr u (by rw [HRr.out]; exact hul)
              rw [HRr.out] at hcR
              have hcRi : (r : Int) ≤ (cjj : Int) := by omega
              have hbrl : br < wr.heap.size := (Array.getElem?_eq_some_iff.1 hbr).1
              obtain ⟨hz0', hz1'⟩ := HIj.out (R.getD u 0) (mem_at (by rw [HRr.out]; exact hul))
              have HNx : Hid (okTo L R j (u + 1) = L.contains (R.getD u 0)) := okTo_next HU.out (by rw [HRr.out]; exact hul)
              obtain ⟨z, hz⟩ : ∃ z : Nat, R.getD u 0 = (z : Int) := ⟨(R.getD u 0).toNat, by omega⟩
              rw [hz] at cu hz1' HNx
              have hzn : z < n := by omega
              have cz := HG.out.cell hzn
              change wr.cell? ⟨w.heap.size, z, none⟩ = some (.bool (L.contains (z : Int))) at cz
              generalize L.contains (z : Int) = zb at cz HNx
              clear hcr hbr hz hz0'
              go_wp2_with fail
              go_roundg (r - (u + 1))
              case measure => omega
              case rel => exact ⟨u + 1, zb, by omega, rfl, rfl, by go_num, HNx, rfl⟩
          · have hue : u = r := by omega
            subst hue
            cases ok
            · have hjm : j < m := by
                have h1 : okN (lR xs) L j = false := by rw [← okTo_end HNj.out (Or.inr HU.out)]; exact HU.out
                rcases Nat.lt_or_ge j m with h | h
                · exact h
                · have e : j = m := by omega
                  have h2 := HOk.out
                  rw [← e, h1] at h2
                  cases h2
              go_wp2_with fail
              go_roundg (n - (j + 1))
              case measure => omega
              case rel => exact ⟨j + 1, by omega, rfl, rfl, by go_num, rfl⟩
            · have h1 : okN (lR xs) L j = true := by rw [← okTo_end HNj.out (Or.inl HRr.out.symm)]; exact HU.out
              have hjm : j = m := by
                rcases Nat.lt_or_ge j m with h | h
                · rw [HNo.out j h] at h1; cases h1
                · omega
              subst hjm
              have hfz := HG.out.frozen j
              have HG5 : Hid (BolB (wr.setCell ⟨w.heap.size, j, none⟩ (.bool true)) w.heap.size n (inF (ordTo (lR xs) (k + 1)))) := by rw [HSk.out]; exact HG.out.set fun i _ => inF_next i
              have HO5 : Hid ((wr.setCell ⟨w.heap.size, j, none⟩ (.bool true)).ownsRow (w.heap.size + 1) 3 1 (.slice AO k cO) k (mapI L)) := own_set HO.out (by omega)
              have HB5 : Hid (Below w.heap.size w (wr.setCell ⟨w.heap.size, j, none⟩ (.bool true))) := below_set HBw.out (Nat.le_refl _)
              obtain ⟨w5, hw5⟩ : ∃ w5, wr.setCell ⟨w.heap.size, j, none⟩ (.bool true) = w5 := ⟨_, rfl⟩
              rw [hw5] at HG5 HO5 HB5
              have hsz : w.heap.size + 1 ≤ w5.heap.size := by have := HG5.out.lt; omega
              clear h1
              go_wp2_with (at_builtin; refine wpList_append_own _ rfl _ _ 61 rfl (w.heap.size + 1) 3 i0 (.int .i64 0) 1 8 Tryz.underlying61 hi0 hz0 hz1 hz2 rfl (by decide) _ _ _ rfl (HO5.out.alloc _) ⟨w5.heap.size, 0, none⟩ 1 1 [.int .i64 j] rfl rfl one_cell one_one (by unfold maxLen; omega) (by omega) (by simp; omega) ?_)
              intro v' w6 hown' hgrow _
              obtain ⟨A6, c6, hv⟩ := own_form hown'
              subst hv
              have HO6 : Hid (w6.ownsRow (w.heap.size + 1) 3 1 (.slice A6 (k + 1) c6) (k + 1) (mapI (ordTo (lR xs) (k + 1)))) := by
                show World.ownsRow ..
                rw [HSk.out, mapI_snoc]
                exact hown'
              have hne : some w.heap.size ≠ (Value.slice AO k cO).ownBlock := fun e => by have := (HO5.out.lt _ e.symm).1; omega
              have HG6 : Hid (BolB w6 w.heap.size n (inF (ordTo (lR xs) (k + 1)))) := by
                show BolB ..
                unfold BolB
                rw [hgrow.block w.heap.size (by simp; omega) hne, Below.heap_alloc _ _ _ (by omega)]
                exact HG5.out
              have HB6 : Hid (Below w.heap.size w w6) := (HB5.out.alloc (by omega) _).grown hgrow (by simp; omega) (fun i hi => by have := (HO5.out.lt i hi).1; omega)
              clear hown' hgrow hne
              go_wp2_with fail
              go_roundg (n - (k + 1))
              case measure => omega
              case rel => exact ⟨k + 1, A6, c6, by omega, rfl, rfl, HO6.out, HG6.out, HB6.out⟩
    · have hke : k = n := by omega
      subst hke
      have HLn : Hid ((ordTo (lR xs) k).length = k) := HOl.out k (Nat.le_refl _)
      have HI : Hid (IntsAt wr AO cO (ordTo (lR xs) k)) := by
        have h := hO
        have e := HLn.out
        have h' : wr.ownsRow (w.heap.size + 1) 3 1 (.slice AO (ordTo (lR xs) k).length cO) (ordTo (lR xs) k).length (mapI (ordTo (lR xs) k)) := by rw [e]; exact h
        obtain ⟨A', c', e', hI⟩ := intT_own h'
        cases e'
        exact hI.at
      clear hO hG hBw
      go_wp2_with fail
      go_ret
      exact ⟨⟨AO, cO, by rw [HLn.out]; rfl, HI.out⟩, HBw.out⟩
end Go.Proofs.YtpnfmpbgjkhicaeGreatDoor
