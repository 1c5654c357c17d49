/-
  What checkOutline, Cells and Of of package place answer, called in whatever memory: how many places an outline has; the place of a number, in new memory.
-/
import Derived.Test.YtfngmnhkhfgmjacDoorPl1
import Derived.Deep.OwnRows
import Derived.Lib.Builder
namespace Go.Proofs.YtfngmnhkhfgmjacDoor
open Go.ChangeShapes Go.WideShapes Go.ChangeAt Go.RowKit
set_option maxRecDepth 20000

/-- a slice of ints, wherever it lies, that holds a list -/
def PlAt (w : World) (A : Option Addr) (cap : Nat) (L : List Int) : Prop := L.length ≤ cap ∧ (L = [] ∨ ∃ b o, A = some ⟨b, o, none⟩ ∧ b < w.heap.size ∧ ∀ j, j < L.length → w.cell? ⟨b, o + j, none⟩ = some (.int .i64 (L.getD j 0)))
theorem PlAt.later {w w' : World} {A : Option Addr} {cap : Nat} {L : List Int} (h : PlAt w A cap L) (hB : Below w.heap.size w w') : PlAt w' A cap L := by
  obtain ⟨h1, h2 | ⟨b, o, h2, h3, h4⟩⟩ := h
  · exact ⟨h1, Or.inl h2⟩
  · exact ⟨h1, Or.inr ⟨b, o, h2, Nat.lt_of_lt_of_le h3 hB.size, fun j hj => (hB.cell (p := ⟨b, o + j, none⟩) h3).trans (h4 j hj)⟩⟩
theorem PlAt.nil (w : World) (A : Option Addr) (cap : Nat) : PlAt w A cap [] := ⟨Nat.zero_le _, Or.inl rfl⟩
/-- where a slice lies, if anywhere: in a block that is not below a number -/
def NewA (N : Nat) (A : Option Addr) : Prop := ∀ b o, A = some ⟨b, o, none⟩ → N ≤ b
theorem NewA.none (N : Nat) : NewA N none := fun _ _ h => by cases h
theorem NewA.zero (A : Option Addr) : NewA 0 A := fun _ _ _ => Nat.zero_le _
theorem NewA.le {N M : Nat} {A : Option Addr} (h : NewA N A) (hm : M ≤ N) : NewA M A := fun b o e => Nat.le_trans hm (h b o e)

/-- a block of the call's own that holds ints -/
def IntB (w : World) (g : Nat) (L : List Int) : Prop := w.heap[g]? = some (.cells (L.map (Value.int .i64)).toArray 3 (0, 0))
theorem IntB.lt {w : World} {g : Nat} {L : List Int} (h : IntB w g L) : g < w.heap.size := (Array.getElem?_eq_some_iff.1 h).1
theorem IntB.cell {w : World} {g : Nat} {L : List Int} (h : IntB w g L) {j : Nat} (hj : j < L.length) : w.cell? ⟨g, j, none⟩ = some (.int .i64 (L.getD j 0)) := by
  rw [Lib.cell_of_heap h]
  simp [List.getD, hj]
theorem IntB.frozen {w : World} {g : Nat} {L : List Int} (h : IntB w g L) (j : Nat) : w.frozen? ⟨g, j, none⟩ = false := Lib.frozen_of_heap h j
theorem IntB.later {w w' : World} {g : Nat} {L : List Int} (h : IntB w g L) (hB : Below w.heap.size w w') : IntB w' g L := (hB.block g h.lt).trans h
theorem IntB.set {w : World} {g : Nat} {L : List Int} (h : IntB w g L) (j : Nat) (x : Int) : IntB (w.setCell ⟨g, j, none⟩ (.int .i64 x)) g (L.set j x) := by
  unfold IntB at *
  have e : (L.set j x).map (Value.int .i64) = (L.map (Value.int .i64)).set j (.int .i64 x) := by rw [List.map_set]
  simp [World.setCell, Array.getElem?_modify, h, e]
theorem IntB.pl {w : World} {g : Nat} {L : List Int} (h : IntB w g L) : PlAt w (some ⟨g, 0, none⟩) L.length L :=
  ⟨Nat.le_refl _, Or.inr ⟨g, 0, rfl, h.lt, fun j hj => by rw [Nat.zero_add]; exact h.cell hj⟩⟩
theorem made_ints (n : Nat) : madeCells #[.int .i64 0] n = ((List.replicate n (0 : Int)).map (Value.int .i64)).toArray := by
  apply Array.ext
  · simp [madeCells]
  · intro i h1 h2
    simp [madeCells, Nat.mod_one]
theorem IntB.made (w : World) (n : Nat) : IntB (w.alloc (.cells (madeCells #[.int .i64 0] n) 3)) w.heap.size (List.replicate n 0) := by
  unfold IntB
  rw [made_ints]
  exact heap_alloc_new w _
theorem Tryd.infoIntP : (Tryd.prog.info? 3).map (fun i => (i.zero, i.size, i.bytes)) = some (some (.int .i64 0), 1, 8) := by kernel_rfl

theorem checko_any (A0 : Option Addr) (cap n : Nat) (D : Nat → Dm) (A : Nat → Option Addr) (C : Nat → Nat) (w : World) (hM : DimsV w A0 cap n D A C) : Calls Tryd.prog 30 #[.agg #[.slice A0 n cap]] w fun e w' => e = .returned (errV (allErr D n).2.2) ∧ Below w.heap.size w w' := by
  have hB0 := ownOut_below w A0 n cap 24
  have h := all_any A0 cap n D A C (ownOut w A0 n cap 24) (hM.later hB0)
  have HB0 : Hid (Below w.heap.size w (ownOut w A0 n cap 24)) := hB0
  clear hM hB0
  generalize errV (allErr D n).2.2 = v at h
  generalize (allErr D n).1 = x at h
  generalize (allErr D n).2.1 = y at h
  go_enter Tryd.func30, Tryd.ntmps30
  go_wp2_with fail
  refine h.mono ?_
  rintro e w1 ⟨rfl, hb1⟩
  go_wp2_with fail
  go_ret
  exact ⟨rfl, onB HB0.out hb1⟩

def cellsV (D : Nat → Dm) (n : Nat) : Int := if (allErr D n).2.2 = 0 then (prodN D n : Int) else 0

set_option maxHeartbeats 2000000 in
theorem pcells_any (A0 : Option Addr) (cap n : Nat) (D : Nat → Dm) (A : Nat → Option Addr) (C : Nat → Nat) (w : World) (hM : DimsV w A0 cap n D A C) : Calls Tryd.prog 11 #[.agg #[.slice A0 n cap]] w fun e w' => e = .returned (.tuple #[.int .i64 (cellsV D n), errV (allErr D n).2.2]) ∧ Below w.heap.size w w' := by
  have hB0 := ownOut_below w A0 n cap 24
  have h := checko_any A0 cap n D A C (ownOut w A0 n cap 24) (hM.later hB0)
  have HB0 : Hid (Below w.heap.size w (ownOut w A0 n cap 24)) := hB0
  have HM : Hid (DimsV w A0 cap n D A C) := hM
  clear hM hB0
  by_cases he : (allErr D n).2.2 = 0
  · obtain ⟨hn1, hn4, -, hd⟩ := allErr_some he
    have HV : Hid (cellsV D n = (prodN D n : Int)) := by show _ = _; unfold cellsV; rw [if_pos he]
    have HE : Hid (errV (allErr D n).2.2 = .nilIface) := by show _ = _; rw [he]; rfl
    rw [he, errV_zero] at h
    have HD : Hid (∀ i, i < n → 1 ≤ (D i).n ∧ (D i).n ≤ 12) := hd
    have hn' : (n : Int) ≤ 4 := by omega
    clear he hd
    go_enter Tryd.func11, Tryd.ntmps11
    go_wp2_with fail
    refine h.mono ?_
    rintro e w1 ⟨rfl, hb1⟩
    have hB : Below w.heap.size w w1 := onB HB0.out hb1
    have h2 : w1.cell? ⟨w.heap.size, 0, none⟩ = some (.slice A0 n cap) := (hb1.cell (p := ⟨w.heap.size, 0, none⟩) (by show w.heap.size < _; rw [ownOut_size]; omega)).trans (ownOut_at ..)
    obtain ⟨hcap, h0 | ⟨b, o, rfl, hMs⟩⟩ := HM.out.later hB
    · omega
    have HMs : Hid (DimsAt w1 b o n D A C) := hMs
    have HB : Hid (Below w.heap.size w w1) := hB
    clear hb1 h hMs hB
    go_wp2_with fail
    go_loopg [5, 16] n (fun g s5 s16 wr => ∃ (k : Nat), k ≤ n ∧ g = n - k ∧ s16 = .int .i64 k ∧ s5 = .int .i64 (prodN D k) ∧ Below w1.heap.size w1 wr)
    case atStart => exact ⟨0, Nat.zero_le _, rfl, rfl, rfl, Below.refl _ _⟩
    case round =>
      obtain ⟨k, hk, rfl, rfl, rfl, hBw⟩ := hrel
      by_cases hlt : k < n
      · obtain ⟨h0, h1, h3, -⟩ := (HMs.out.later hBw).2 k hlt
        have hki : (k : Int) < (n : Int) := by omega
        have hp1 : prodN D (k + 1) ≤ 20736 := prod_small (fun j hj => (HD.out j (by omega)).2) (by omega)
        have hp2 : (prodN D (k + 1) : Int) = (prodN D k : Int) * ((D k).n : Int) := by rw [prodN]; exact Int.natCast_mul _ _
        have hp3 : 0 ≤ (prodN D k : Int) * ((D k).n : Int) := by omega
        have hp4 : (prodN D k : Int) * ((D k).n : Int) ≤ 20736 := by omega
        have HW : Hid (Below w1.heap.size w1 wr) := hBw
        have HP : Hid ((prodN D (k + 1) : Int) = (prodN D k : Int) * ((D k).n : Int)) := hp2
        clear hBw hp1 hp2
        go_wp2_with fail
        go_roundg (n - (k + 1))
        case measure => omega
        case rel => exact ⟨k + 1, by omega, rfl, by go_num, by rw [HP.out], onB HW.out (by go_grown)⟩
      · have hke : k = n := by omega
        subst hke
        go_wp2_with fail
        go_ret2
        rw [HV.out, HE.out]
        exact ⟨rfl, onB HB.out hBw⟩
  · have HV : Hid (cellsV D n = 0) := by show _ = _; unfold cellsV; rw [if_neg he]
    have HE : Hid (errV (allErr D n).2.2 = .iface 69 (.int .i64 (allErr D n).2.2)) := errV_some he
    rw [errV_some he] at h
    clear he
    generalize (allErr D n).2.2 = c at h HE
    go_enter Tryd.func11, Tryd.ntmps11
    go_wp2_with fail
    refine h.mono ?_
    rintro e w1 ⟨rfl, hb1⟩
    go_wp2_with fail
    go_ret2
    rw [HV.out, HE.out]
    exact ⟨rfl, onB HB0.out hb1⟩

theorem wrap_small {q : Nat} (h : q ≤ 3000) : wrap64 (q : Int) = q := by unfold wrap64; omega
theorem restAt_le (D : Nat → Dm) (m n r : Nat) : restAt D m n r ≤ n := by
  induction r with
  | zero => exact Nat.le_refl _
  | succ r ih => rw [restAt]; exact Nat.le_trans (Nat.div_le_self _ _) ih

set_option maxHeartbeats 4000000 in
theorem pof_any (A0 : Option Addr) (cap n : Nat) (D : Nat → Dm) (A : Nat → Option Addr) (C : Nat → Nat) (x : Int) (w : World) (hM : DimsV w A0 cap n D A C) : Calls Tryd.prog 13 #[.agg #[.slice A0 n cap], .int .i64 x] w fun e w' => (∃ A' c', e = .returned (.tuple #[.slice A' (ofL D n x).length c', errV (ofErr D n x)]) ∧ PlAt w' A' c' (ofL D n x)) ∧ Below w.heap.size w w' := by
  have hB0 := ownOut_below w A0 n cap 24
  have h := pcells_any A0 cap n D A C (ownOut w A0 n cap 24) (hM.later hB0)
  have HB0 : Hid (Below w.heap.size w (ownOut w A0 n cap 24)) := hB0
  have HM : Hid (DimsV w A0 cap n D A C) := hM
  clear hM hB0
  by_cases he : (allErr D n).2.2 = 0
  · obtain ⟨hn1, hn4, hp3, hd⟩ := allErr_some he
    have hcv : cellsV D n = (prodN D n : Int) := by unfold cellsV; rw [if_pos he]
    rw [he, errV_zero, hcv] at h
    have HA : Hid ((allErr D n).2.2 = 0) := he
    clear he hcv
    by_cases hx : x < 0 ∨ (prodN D n : Int) ≤ x
    · have HE : Hid (ofErr D n x = 1) := of1 HA.out hx
      have HL : Hid (ofL D n x = []) := by show _ = _; unfold ofL; rw [HE.out]; rfl
      generalize hpn : prodN D n = pn at h hx hp3
      by_cases hx0 : x < 0
      · go_enter Tryd.func13, Tryd.ntmps13
        go_wp2_with fail
        refine h.mono ?_
        rintro e w1 ⟨rfl, hb1⟩
        go_wp2_with fail
        go_ret2
        rw [HL.out, HE.out]
        exact ⟨⟨none, 0, rfl, PlAt.nil _ _ _⟩, onB HB0.out hb1⟩
      · have hx1 : (pn : Int) ≤ x := by omega
        go_enter Tryd.func13, Tryd.ntmps13
        go_wp2_with fail
        refine h.mono ?_
        rintro e w1 ⟨rfl, hb1⟩
        go_wp2_with fail
        go_ret2
        rw [HL.out, HE.out]
        exact ⟨⟨none, 0, rfl, PlAt.nil _ _ _⟩, onB HB0.out hb1⟩
    · have HE : Hid (ofErr D n x = 0) := of2 HA.out hx
      obtain ⟨X, rfl⟩ : ∃ X : Nat, x = X := ⟨x.toNat, by omega⟩
      have HL : Hid (ofL D n (X : Int) = placeL D n X) := by show _ = _; unfold ofL; rw [if_pos HE.out]; rfl
      have hX : X ≤ 3000 := by omega
      have HD : Hid (∀ i, i < n → 1 ≤ (D i).n ∧ (D i).n ≤ 12) := hd
      have hn' : (n : Int) ≤ 4 := by omega
      have hn1' : (1 : Int) ≤ (n : Int) := by omega
      have hxp : (X : Int) < (prodN D n : Int) := by omega
      have hmk := run_make_row' (P := Tryd.prog) 40 3 (.int .i64 0) 8 Tryd.underlying40 Tryd.infoIntP rfl .i64 .i64 n (by omega) (by omega)
      have hbx : decide ((X : Int) < 0) = false := decide_eq_false (by omega)
      have hbp : decide ((prodN D n : Int) ≤ (X : Int)) = false := decide_eq_false (by omega)
      have hbp' : decide (prodN D n ≤ X) = false := decide_eq_false (by omega)
      generalize hpn : prodN D n = pn at h hx hp3 hxp hbp hbp'
      clear hd hpn hx
      go_enter Tryd.func13, Tryd.ntmps13
      go_wp2_with fail
      refine h.mono ?_
      rintro e w1 ⟨rfl, hb1⟩
      have hB : Below w.heap.size w w1 := onB HB0.out hb1
      have hz : w.heap.size < w1.heap.size := by have := hb1.size; rw [ownOut_size] at this; omega
      have h2 : w1.cell? ⟨w.heap.size, 0, none⟩ = some (.slice A0 n cap) := (hb1.cell (p := ⟨w.heap.size, 0, none⟩) (by show w.heap.size < _; rw [ownOut_size]; omega)).trans (ownOut_at ..)
      obtain ⟨hcap, h0 | ⟨b, o, rfl, hMs⟩⟩ := HM.out.later hB
      · omega
      have HMs : Hid (DimsAt w1 b o n D A C) := hMs
      have HB : Hid (Below w.heap.size w w1) := hB
      clear hb1 h hMs hB
      go_wp2_with fail
      clear hmk
      go_loopg [1, 9, 10] n (fun g s1 s9 s10 wr => ∃ (r : Nat), r ≤ n ∧ g = n - r ∧ s9 = .int .i64 ((n : Int) - 1 - r) ∧ s1 = .int .i64 (restAt D n X r) ∧ IntB wr w1.heap.size (digL D n X r) ∧ Below w1.heap.size w1 wr)
      case atStart => exact ⟨0, Nat.zero_le _, rfl, by simp, rfl, by rw [digL_zero]; exact IntB.made w1 n, by go_grown⟩
      case round =>
        obtain ⟨r, hr, rfl, rfl, rfl, hI, hBw⟩ := hrel
        have HI : Hid (IntB wr w1.heap.size (digL D n X r)) := hI
        have HBw : Hid (Below w1.heap.size w1 wr) := hBw
        by_cases hlt : r < n
        · obtain ⟨k, hk⟩ : ∃ k : Nat, k = n - 1 - r := ⟨_, rfl⟩
          have hki : (n : Int) - 1 - (r : Int) = (k : Int) := by omega
          rw [hki]
          have HK : Hid (k = n - 1 - r) := hk
          have hkn : k < n := by omega
          obtain ⟨-, -, h3, -⟩ := (HMs.out.later hBw).2 k hkn
          have c2 : wr.cell? ⟨w.heap.size, 0, none⟩ = some (.slice (some ⟨b, o, none⟩) n cap) := (hBw.cell (p := ⟨w.heap.size, 0, none⟩) hz).trans h2
          have hkn' : (k : Int) < (n : Int) := by omega
          have c4 := hI.cell (j := k) (by rw [digL_len]; exact hkn)
          have c5 := hI.frozen k
          obtain ⟨hd1, hd2⟩ := HD.out k hkn
          have hre := restAt_le D n X r
          have HR1 : Hid (restAt D n X (r + 1) = restAt D n X r / (D k).n) := by show _ = _; rw [restAt, hk]
          have HR2 : Hid (digitAt D n X k = restAt D n X r % (D k).n) := by show _ = _; rw [digitAt, show n - 1 - k = r by omega]
          have HS : Hid ((digL D n X r).set k (digitAt D n X k : Int) = digL D n X (r + 1)) := by show _ = _; rw [hk]; exact digL_set D n X r hlt
          generalize (digL D n X r).getD k 0 = old at c4
          generalize restAt D n X r = R at HR1 HR2 hre
          generalize hm : (D k).n = m at h3 hd1 hd2 HR1 HR2
          have hm1 : (1 : Int) ≤ (m : Int) := by omega
          have hm2 : (m : Int) ≤ 12 := by omega
          have hR : (R : Int) ≤ 3000 := by omega
          have hR0 : (0 : Int) ≤ (R : Int) := by omega
          have hm0 : ((m : Int) == 0) = false := by simp; omega
          clear hI hBw hk hki hm
          go_wp2_with fail
          go_roundg (n - (r + 1))
          case measure => omega
          case rel =>
            have hdm := Nat.div_le_self R m
            have hw : wrap64 ((R : Int) / (m : Int)) = ((R / m : Nat) : Int) := by
              rw [← Int.natCast_ediv]
              exact wrap_small (Nat.le_trans hdm (by omega))
            refine ⟨r + 1, by omega, rfl, ?_, ?_, ?_, HBw.out.setCell (by show w1.heap.size ≤ w1.heap.size; omega) _⟩
            · have := HK.out
              congr 1
              omega
            · rw [hw, HR1.out]
            · have hs := HI.out.set k (digitAt D n X k : Int)
              rw [HS.out, HR2.out, Int.natCast_emod] at hs
              exact hs
        · have hre : r = n := by omega
          subst hre
          have hk0 : (r : Int) - 1 - (r : Int) = -1 := by omega
          rw [hk0]
          clear hI hBw
          go_wp2_with fail
          go_ret2
          rw [HL.out, HE.out]
          have hp := HI.out.pl
          rw [digL_all] at hp
          rw [placeL_len] at hp ⊢
          exact ⟨⟨_, _, rfl, hp⟩, onB HB.out HBw.out⟩
  · have HE : Hid (ofErr D n x = (allErr D n).2.2) := of0 he
    have HL : Hid (ofL D n x = []) := by show _ = _; unfold ofL; rw [HE.out, if_neg he]
    have HV : Hid (errV (allErr D n).2.2 = .iface 69 (.int .i64 (allErr D n).2.2)) := errV_some he
    rw [errV_some he] at h
    clear he
    generalize (allErr D n).2.2 = c at h HE HV
    generalize cellsV D n = cv at h
    go_enter Tryd.func13, Tryd.ntmps13
    go_wp2_with fail
    refine h.mono ?_
    rintro e w1 ⟨rfl, hb1⟩
    go_wp2_with fail
    go_ret2
    rw [HL.out, HE.out, HV.out]
    exact ⟨⟨none, 0, rfl, PlAt.nil _ _ _⟩, onB HB0.out hb1⟩
end Go.Proofs.YtfngmnhkhfgmjacDoor
