/-
  The walk of tallylaw1.OutlineFinds: of an outline of which nothing is wrong each dim is right, and each member is found where it stands: it returns true for every outline.
-/
import Derived.Test.YtacbbohhejaimabOut9
import Derived.Deep.RegionHeld3
import Derived.Deep.DeepCutAuto
namespace Go.Proofs.Ytacbbohhejaimab
open Go.ChangeShapes Go.WideShapes Go.ChangeAt Go.RowKit

def exM (i : Nat) : Mem := if i = 0 then ⟨⟨#[98]⟩, -1, 0, ⟨#[]⟩⟩ else ⟨⟨#[99]⟩, 0, 0, ⟨#[]⟩⟩
def exD : Dm := ⟨⟨#[97]⟩, 0, 2, exM⟩
theorem ex_found : findErr exD ⟨#[99]⟩ = (1, 0) := by decide +kernel

def exW (w : World) (A0 : Option Addr) (n cap T T' T'' : Nat) : World := ((ownOut w A0 n cap T).alloc (.cells #[.string ⟨#[98]⟩, .int .i64 (-1), .int .i64 0, .string ⟨#[]⟩, .string ⟨#[99]⟩, .int .i64 0, .int .i64 0, .string ⟨#[]⟩] T')).alloc (.cells #[.string ⟨#[97]⟩, .int .i64 0, .slice (some ⟨w.heap.size + 1, 0, none⟩) 2 2] T'')
theorem exW_size (w : World) (A0 : Option Addr) (n cap T T' T'' : Nat) : (exW w A0 n cap T T' T'').heap.size = w.heap.size + 3 := by unfold exW; simp [ownOut_size]
theorem exW_below (w : World) (A0 : Option Addr) (n cap T T' T'' : Nat) : Below w.heap.size w (exW w A0 n cap T T' T'') := by unfold exW ownOut; go_grown
theorem exW_at (w : World) (A0 : Option Addr) (n cap T T' T'' : Nat) : (exW w A0 n cap T T' T'').cell? ⟨w.heap.size, 0, none⟩ = some (.slice A0 n cap) := by
  unfold exW
  rw [World.cell?_alloc_lt _ _ ⟨w.heap.size, 0, none⟩ (by simp [ownOut_size]; omega), World.cell?_alloc_lt _ _ ⟨w.heap.size, 0, none⟩ (by simp [ownOut_size])]
  exact ownOut_at ..
theorem exW_mem (w : World) (A0 : Option Addr) (n cap T T' T'' j : Nat) (v : Value) (h : (#[.string ⟨#[98]⟩, .int .i64 (-1), .int .i64 0, .string ⟨#[]⟩, .string ⟨#[99]⟩, .int .i64 0, .int .i64 0, .string ⟨#[]⟩] : Array Value)[j]? = some v) : (exW w A0 n cap T T' T'').cell? ⟨w.heap.size + 1, j, none⟩ = some v := by
  unfold exW
  rw [World.cell?_alloc_lt _ _ ⟨w.heap.size + 1, j, none⟩ (by simp [ownOut_size])]
  rw [← ownOut_size w A0 n cap T, World.cell?_alloc_mark]
  exact h
theorem exW_mems (w : World) (A0 : Option Addr) (n cap T T' T'' : Nat) : MemsV (exW w A0 n cap T T' T'') (some ⟨w.heap.size + 1, 0, none⟩) 2 exD.n exD.mem := by
  refine ⟨Nat.le_refl _, Or.inr ⟨_, _, rfl, by rw [exW_size]; omega, fun i hi => ?_⟩⟩
  have hi' : i < 2 := hi
  match i, hi' with
  | 0, _ => exact ⟨exW_mem _ _ _ _ _ _ _ 0 _ rfl, exW_mem _ _ _ _ _ _ _ 1 _ rfl, exW_mem _ _ _ _ _ _ _ 2 _ rfl, exW_mem _ _ _ _ _ _ _ 3 _ rfl⟩
  | 1, _ => exact ⟨exW_mem _ _ _ _ _ _ _ 4 _ rfl, exW_mem _ _ _ _ _ _ _ 5 _ rfl, exW_mem _ _ _ _ _ _ _ 6 _ rfl, exW_mem _ _ _ _ _ _ _ 7 _ rfl⟩

theorem held5 {W w' : World} {p0 p1 p2 p3 p4 : Addr} {v0 v1 v2 v3 v4 : Value} (a0 : p0.block < W.heap.size ∧ W.cell? p0 = some v0) (a1 : p1.block < W.heap.size ∧ W.cell? p1 = some v1) (a2 : p2.block < W.heap.size ∧ W.cell? p2 = some v2) (a3 : p3.block < W.heap.size ∧ W.cell? p3 = some v3) (a4 : p4.block < W.heap.size ∧ W.cell? p4 = some v4) (hB : Below W.heap.size W w') :
    Below W.heap.size W w' ∧ w'.cell? p0 = some v0 ∧ w'.cell? p1 = some v1 ∧ w'.cell? p2 = some v2 ∧ w'.cell? p3 = some v3 ∧ w'.cell? p4 = some v4 :=
  ⟨hB, (hB.cell a0.1).trans a0.2, (hB.cell a1.1).trans a1.2, (hB.cell a2.1).trans a2.2, (hB.cell a3.1).trans a3.2, (hB.cell a4.1).trans a4.2⟩

theorem dim_right_of {D : Nat → Dm} {n k : Nat} (h : (allErr D n).2.2 = 0) (hk : k < n) : dimErr (D k) = (-1, 0) := by
  have h1 := (allErr_right h).2 k hk
  exact Prod.ext (dimErr_right h1).1 h1

set_option maxHeartbeats 4000000 in
set_option maxRecDepth 20000 in
theorem finds_any (A0 : Option Addr) (cap n : Nat) (D : Nat → Dm) (A : Nat → Option Addr) (C : Nat → Nat) (w : World) (hM : DimsV w A0 cap n D A C) : Calls Try.prog 3 #[.agg #[.slice A0 n cap]] w fun e w' => e = .returned (.bool true) ∧ Below w.heap.size w w' := by
  have HM : Hid (DimsV w A0 cap n D A C) := hM
  have hfx := find_any exD (some ⟨w.heap.size + 1, 0, none⟩) 2 ⟨#[99]⟩ (exW w A0 n cap 24 26 29) (exW_mems ..)
  rw [ex_found] at hfx
  clear hM
  go_enter Try.func3, Try.ntmps3
  go_wp2_with fail
  refine hfx.mono ?_
  rintro e w1 ⟨rfl, hb1⟩
  rw [errV_zero]
  have hB1 : Below w.heap.size w w1 := onB (exW_below ..) hb1
  have hz1 : w.heap.size < w1.heap.size := by
    have := hb1.size
    rw [exW_size] at this
    omega
  have c1 : w1.cell? ⟨w.heap.size, 0, none⟩ = some (.slice A0 n cap) := (hb1.cell (p := ⟨w.heap.size, 0, none⟩) (by show w.heap.size < _; rw [exW_size]; omega)).trans (exW_at ..)
  have hM1 := HM.out.later hB1
  have hal := all_any A0 cap n D A C w1 hM1
  have HM1 : Hid (DimsV w1 A0 cap n D A C) := hM1
  clear hb1 hM1 hfx HM
  by_cases he : (allErr D n).2.2 = 0
  · rw [he, errV_zero] at hal
    have HE : Hid ((allErr D n).2.2 = 0) := he
    have hn4 := (allErr_right he).1
    have hn0 : ¬ n = 0 := fun h0 => by rw [al1 h0] at he; cases he
    clear he
    go_wp2_with fail
    refine hal.mono ?_
    rintro e w2 ⟨rfl, hb2⟩
    have hB2 : Below w.heap.size w w2 := onB hB1 hb2
    have hz2 : w.heap.size < w2.heap.size := Nat.lt_of_lt_of_le hz1 hb2.size
    have c2 : w2.cell? ⟨w.heap.size, 0, none⟩ = some (.slice A0 n cap) := (hb2.cell (p := ⟨w.heap.size, 0, none⟩) hz1).trans c1
    obtain ⟨hcap, h0 | ⟨b, o, rfl, hMs⟩⟩ := HM1.out.later hb2
    · omega
    have HMs : Hid (DimsAt w2 b o n D A C) := hMs
    have hn4' : (n : Int) ≤ 4 := by omega
    clear hMs HM1 c1 hb2 hal hz1 hB1
    go_wp2_with fail
    go_loopg [9] n (fun g s9 wr => ∃ (k : Nat), k ≤ n ∧ g = n - k ∧ s9 = .int .i64 k ∧ Below w2.heap.size w2 wr)
    case atStart => exact ⟨0, Nat.zero_le _, rfl, rfl, Below.refl _ _⟩
    case round =>
      obtain ⟨k, hk, rfl, rfl, hBw⟩ := hrel
      obtain ⟨wo, rfl⟩ : ∃ wo : World, wo = wr := ⟨_, rfl⟩
      have c3 : wo.cell? ⟨w.heap.size, 0, none⟩ = some (.slice (some ⟨b, o, none⟩) n cap) := (hBw.cell (p := ⟨w.heap.size, 0, none⟩) hz2).trans c2
      have hzo : w.heap.size < wo.heap.size := Nat.lt_of_lt_of_le hz2 hBw.size
      have hMo := HMs.out.later hBw
      have HBo : Hid (Below w.heap.size w wo) := onB hB2 hBw
      have HBw : Hid (Below w2.heap.size w2 wo) := hBw
      clear hBw
      by_cases hlt : k < n
      · obtain ⟨h0, h1, h2, h3⟩ := hMo.2 k hlt
        have hki : (k : Int) < (n : Int) := by omega
        have hck := check_any (D k) (A k) (C k) wo h3
        have hdr := dim_right_of HE.out hlt
        rw [hdr] at hck
        unfold dimV errV at hck
        simp only [if_true] at hck
        have HMo : Hid (DimsAt wo b o n D A C) := hMo
        have hbo : b < wo.heap.size := hMo.1
        clear h3 hMo
        go_wp2_with fail
        refine hck.mono ?_
        rintro e w3 ⟨rfl, hb3⟩
        have hM3 := HMo.out.later hb3
        have c4 : w3.cell? ⟨w.heap.size, 0, none⟩ = some (.slice (some ⟨b, o, none⟩) n cap) := (hb3.cell (p := ⟨w.heap.size, 0, none⟩) hzo).trans c3
        have hz3 : w.heap.size < w3.heap.size := Nat.lt_of_lt_of_le hzo hb3.size
        have HB3 : Hid (Below w2.heap.size w2 w3) := onB HBw.out hb3
        have HM3 : Hid (DimsAt w3 b o n D A C) := hM3
        have hnk := (dimErr_right (d := D k) (by rw [hdr])).2
        have hd1 := hnk.1
        have hd2 := hnk.2.1
        have HR : Hid ((dimErr (D k)).2 = 0) := by show _ = _; rw [hdr]
        clear hM3 hb3 hck c3 h0 h1 h2 hnk hdr HMo hbo
        go_wp2_with fail
        go_loopg [12] (D k).n (fun g s12 wr => ∃ (m : Nat), m ≤ (D k).n ∧ g = (D k).n - m ∧ s12 = .int .i64 m ∧ Below w3.heap.size w3 wr)
        case atStart => exact ⟨0, Nat.zero_le _, rfl, rfl, Below.refl _ _⟩
        case round =>
          obtain ⟨m, hm, rfl, rfl, hBi⟩ := hrel
          have c5 : wr.cell? ⟨w.heap.size, 0, none⟩ = some (.slice (some ⟨b, o, none⟩) n cap) := (hBi.cell (p := ⟨w.heap.size, 0, none⟩) hz3).trans c4
          have hMi := HM3.out.later hBi
          obtain ⟨h0, h1, h2, h3⟩ := hMi.2 k hlt
          have HBi : Hid (Below w3.heap.size w3 wr) := hBi
          clear hBi
          by_cases hltm : m < (D k).n
          · obtain ⟨hcm, h00 | ⟨b', o', hA, hMm⟩⟩ := h3
            · omega
            obtain ⟨n0, -, -, -⟩ := hMm.2 m hltm
            have hfo := find_own HR.out hltm
            have hbb : b < wr.heap.size := hMi.1
            have hbb' : b' < wr.heap.size := hMm.1
            have hzi : w.heap.size < wr.heap.size := Nat.lt_of_lt_of_le hz3 HBi.out.size
            have HFi : Hid (∀ w', Below wr.heap.size wr w' → Calls Try.prog 4 #[.agg #[.string (D k).name, .int .i64 (D k).solve, .slice (some ⟨b', o', none⟩) (D k).n (C k)], .string ((D k).mem m).name] w' fun e w'' => e = .returned (.tuple #[.int .i64 m, .nilIface]) ∧ Below w'.heap.size w' w'') := fun w' hw' => by
              have h := find_any (D k) (A k) (C k) ((D k).mem m).name w' (MemsV.later ⟨hcm, Or.inr ⟨b', o', hA, hMm⟩⟩ hw')
              rw [hfo, hA] at h
              exact h
            rw [hA] at h2
            have hmi : (m : Int) < ((D k).n : Int) := by omega
            have hd2' : ((D k).n : Int) ≤ 12 := by omega
            have HH : Hid (∀ w', Below wr.heap.size wr w' → Below wr.heap.size wr w' ∧ w'.cell? ⟨w.heap.size, 0, none⟩ = some (.slice (some ⟨b, o, none⟩) n cap) ∧ w'.cell? ⟨b, o + k * 3, none⟩ = some (.string (D k).name) ∧ w'.cell? ⟨b, o + k * 3 + 1, none⟩ = some (.int .i64 (D k).solve) ∧ w'.cell? ⟨b, o + k * 3 + 2, none⟩ = some (.slice (some ⟨b', o', none⟩) (D k).n (C k)) ∧ w'.cell? ⟨b', o' + m * 4, none⟩ = some (.string ((D k).mem m).name)) :=
              fun w' hw' => held5 ⟨hzi, c5⟩ ⟨hbb, h0⟩ ⟨hbb, h1⟩ ⟨hbb, h2⟩ ⟨hbb', n0⟩ hw'
            clear hMm hMi hfo c4 hA
            go_wp2_with fail
            go_cut [13, 14] (fun s13 s14 wx => s13 = .int .i64 m ∧ s14 = .nilIface ∧ Below wr.heap.size wr wx)
            case first =>
              go_region_held3 (fun w' => Below wr.heap.size wr w' ∧ w'.cell? ⟨w.heap.size, 0, none⟩ = some (.slice (some ⟨b, o, none⟩) n cap) ∧ w'.cell? ⟨b, o + k * 3, none⟩ = some (.string (D k).name) ∧ w'.cell? ⟨b, o + k * 3 + 1, none⟩ = some (.int .i64 (D k).solve) ∧ w'.cell? ⟨b, o + k * 3 + 2, none⟩ = some (.slice (some ⟨b', o', none⟩) (D k).n (C k)) ∧ w'.cell? ⟨b', o' + m * 4, none⟩ = some (.string ((D k).mem m).name))
                ((refine HH.out _ ?_; go_grown; done))
                ((go_at_call 4; refine (HFi.out _ (by go_grown)).mono ?_; rintro e w4 ⟨rfl, hb4⟩; have hN4 := onB (W0 := wr) (by go_grown) hb4; clear hb4))
              all_goals go_wp2_with fail
              all_goals go_meet
              all_goals exact ⟨rfl, rfl, by assumption⟩
            case rest =>
              obtain ⟨rfl, rfl, hBr⟩ := hcut
              go_wp2_with fail
              go_roundg ((D k).n - (m + 1))
              case measure => omega
              case rel => exact ⟨m + 1, by omega, rfl, by go_num, onB HBi.out hBr⟩
          · have hme : m = (D k).n := by omega
            have hmi : ((D k).n : Int) ≤ (m : Int) := by omega
            go_wp2_with fail
            go_roundg (n - (k + 1))
            case measure => omega
            case rel => exact ⟨k + 1, by omega, rfl, by go_num, onB HB3.out HBi.out⟩
      · have hke : k = n := by omega
        subst hke
        go_wp2_with fail
        go_ret
        exact ⟨rfl, HBo.out⟩
  · rw [errV_some he] at hal
    clear he
    generalize (allErr D n).2.2 = c at hal
    go_wp2_with fail
    refine hal.mono ?_
    rintro e w2 ⟨rfl, hb2⟩
    go_wp2_with fail
    go_ret
    exact ⟨rfl, onB hB1 hb2⟩
end Go.Proofs.Ytacbbohhejaimab
