/-
  The document's own reading of a dim (tallyref1.Dim): which member is the first that is wrong, and how.
  What weight and Weight of package tree answer: how a leaf counts in a member, or what is wrong.
  What Weight and Leafs of package tree answer: how a leaf counts in a member; the leafs of a member; or what is wrong.
  What Leafs of package tree answers: the leafs of a member, or what is wrong.
  What Depth of package tree answers; that tallysame.Ints finds a list the same as itself; the document's own parts and leaf (tallyref1.Parts, tallyref1.Leaf).
-/
import Derived.Test.YtpnfmpbgjkhicaeGreatDoorRTG
import Derived.Test.YtpnfmpbgjkhicaeGreatDoorRTA
import Derived.Deep.RegionHeld3
namespace Go.Proofs.YtpnfmpbgjkhicaeGreatDoor
open Go.ChangeShapes Go.WideShapes Go.ChangeAt Go.RowKit
set_option maxRecDepth 20000

theorem clash_where {M : Nat → Mem} {n i : Nat} (hi : i < n) : decide (findFrom (fun j => same (M j).name (M i).name) n 0 < (i : Int)) = clash M i := by
  unfold clash
  rw [decide_eq_decide]
  exact findFrom_ahead (q := fun j => same (M j).name (M i).name) hi (same_refl _)

theorem dim_name {d : Dm} (h : nameErr d.name ≠ 0) : dimErr d = (-1, 2) := by rw [dimErr_frame (by rw [fr0 h]; decide), fr0 h]
theorem dim_solve {d : Dm} (h : nameErr d.name = 0) (h1 : d.solve < 0 ∨ 9 < d.solve) : dimErr d = (-1, 1) := by rw [dimErr_frame (by rw [fr1 h h1]; decide), fr1 h h1]
theorem dim_full {d : Dm} (h : nameErr d.name = 0) (h1 : ¬ (d.solve < 0 ∨ 9 < d.solve)) (h2 : 12 < d.n) : dimErr d = (-1, 4) := by rw [dimErr_frame (by rw [fr2 h h1 h2]; decide), fr2 h h1 h2]
theorem dim_none {d : Dm} (h : nameErr d.name = 0) (h1 : ¬ (d.solve < 0 ∨ 9 < d.solve)) (h2 : ¬ 12 < d.n) (h3 : d.n = 0) : dimErr d = (-1, 5) := by rw [dimErr_frame (by rw [fr3 h h1 h2 h3]; decide), fr3 h h1 h2 h3]
theorem dim_scan {d : Dm} (h : nameErr d.name = 0) (h1 : ¬ (d.solve < 0 ∨ 9 < d.solve)) (h2 : ¬ 12 < d.n) (h3 : ¬ d.n = 0) : dimErr d = scan d.mem d.n 0 := (dimErr_scan (fr4 h h1 h2 h3)).1

set_option maxHeartbeats 8000000 in
theorem rdim_any (d : Dm) (A : Option Addr) (cap : Nat) (w : World) (hM : MemsV w A cap d.n d.mem) : Calls Tryz.prog 45 #[dimV d A cap] w fun e w' => e = .returned (.tuple #[.int .i64 (dimErr d).1, .int .i64 (dimErr d).2]) ∧ Below w.heap.size w w' := by
  have HM : Hid (MemsV w A cap d.n d.mem) := hM
  have hnm := rname_any d.name
  clear hM
  unfold dimV
  by_cases hn : nameErr d.name = 0
  · rw [hn] at hnm
    have HN : Hid (nameErr d.name = 0) := hn
    clear hn
    by_cases c1 : d.solve < 0
    · have HR : Hid (dimErr d = (-1, 1)) := dim_solve HN.out (Or.inl c1)
      go_enter Tryz.func45, Tryz.ntmps45
      go_wp2_with fail
      refine (hnm _).mono ?_
      rintro e w1 ⟨rfl, rfl⟩
      go_wp2_with fail
      go_ret2
      exact ⟨by rw [HR.out]; rfl, by go_grown⟩
    by_cases c2 : 9 < d.solve
    · have HR : Hid (dimErr d = (-1, 1)) := dim_solve HN.out (Or.inr c2)
      go_enter Tryz.func45, Tryz.ntmps45
      go_wp2_with fail
      refine (hnm _).mono ?_
      rintro e w1 ⟨rfl, rfl⟩
      go_wp2_with fail
      go_ret2
      exact ⟨by rw [HR.out]; rfl, by go_grown⟩
    have HC : Hid (¬ (d.solve < 0 ∨ 9 < d.solve)) := by show ¬ _; omega
    by_cases c3 : 12 < d.n
    · have HR : Hid (dimErr d = (-1, 4)) := dim_full HN.out HC.out c3
      have c3' : 12 < (d.n : Int) := by omega
      go_enter Tryz.func45, Tryz.ntmps45
      go_wp2_with fail
      refine (hnm _).mono ?_
      rintro e w1 ⟨rfl, rfl⟩
      go_wp2_with fail
      go_ret2
      exact ⟨by rw [HR.out]; rfl, by go_grown⟩
    have c3' : (d.n : Int) ≤ 12 := by omega
    by_cases c4 : d.n = 0
    · have HR : Hid (dimErr d = (-1, 5)) := dim_none HN.out HC.out c3 c4
      have c4' : ((d.n : Int) == 0) = true := by simp [c4]
      clear c4
      go_enter Tryz.func45, Tryz.ntmps45
      go_wp2_with fail
      refine (hnm _).mono ?_
      rintro e w1 ⟨rfl, rfl⟩
      go_wp2_with fail
      go_ret2
      exact ⟨by rw [HR.out]; rfl, by go_grown⟩
    have HD : Hid (dimErr d = scan d.mem d.n 0) := dim_scan HN.out HC.out c3 c4
    have c4' : ((d.n : Int) == 0) = false := by simp; omega
    have hS := ownDim_size w d A cap 51
    have hB0 := ownDim_below w d A cap 51
    have hA := ownDim_at w d A cap 51
    obtain ⟨W, hW⟩ : ∃ W, W = ownDim w d A cap 51 := ⟨_, rfl⟩
    rw [← hW] at hB0 hS hA
    have HW : Hid (W = ownDim w d A cap 51) := hW
    have HB0 : Hid (Below w.heap.size w W) := hB0
    have hsz : w.heap.size < W.heap.size := by omega
    obtain ⟨hcap, h0 | ⟨b, o, rfl, hMs⟩⟩ := HM.out.later hB0
    · omega
    have HMs : Hid (MemsAt W b o d.n d.mem) := hMs
    have HA : Hid (W.cell? ⟨w.heap.size, 0, none⟩ = some (.string d.name) ∧ W.cell? ⟨w.heap.size, 1, none⟩ = some (.int .i64 d.solve) ∧ W.cell? ⟨w.heap.size, 2, none⟩ = some (.slice (some ⟨b, o, none⟩) d.n cap)) := hA
    clear hW hB0 hS hA hMs HM
    go_enter Tryz.func45, Tryz.ntmps45
    go_wp2_with fail
    refine (hnm _).mono ?_
    rintro e w1 ⟨rfl, rfl⟩
    clear hnm
    go_wp2_with fail
    go_loopg [4] d.n (fun g s4 wr => ∃ (k : Nat), k ≤ d.n ∧ g = d.n - k ∧ s4 = .int .i64 k ∧ scan d.mem (d.n - k) k = scan d.mem d.n 0 ∧ Below W.heap.size W wr)
    case atStart => exact ⟨0, Nat.zero_le _, rfl, rfl, rfl, by rw [HW.out]; exact Below.refl _ _⟩
    case round =>
      obtain ⟨k, hk, rfl, rfl, hsc, hBw⟩ := hrel
      have HF : Hid (scan d.mem (d.n - k) k = scan d.mem d.n 0) := hsc
      have hMr := HMs.out.later hBw
      have q0 : wr.cell? ⟨w.heap.size, 0, none⟩ = some (.string d.name) := (hBw.cell (p := ⟨w.heap.size, 0, none⟩) hsz).trans HA.out.1
      have q1 : wr.cell? ⟨w.heap.size, 1, none⟩ = some (.int .i64 d.solve) := (hBw.cell (p := ⟨w.heap.size, 1, none⟩) hsz).trans HA.out.2.1
      have q2 : wr.cell? ⟨w.heap.size, 2, none⟩ = some (.slice (some ⟨b, o, none⟩) d.n cap) := (hBw.cell (p := ⟨w.heap.size, 2, none⟩) hsz).trans HA.out.2.2
      have hszr : w.heap.size < wr.heap.size := Nat.lt_of_lt_of_le hsz hBw.size
      have HBr : Hid (Below w.heap.size w wr) := onB HB0.out hBw
      have HBw : Hid (Below W.heap.size W wr) := hBw
      clear hsc hBw
      by_cases hlt : k < d.n
      · obtain ⟨h0, h1, h2, h3⟩ := hMr.2 k hlt
        have hki : (k : Int) < (d.n : Int) := by omega
        have hsk : d.n - k = (d.n - (k + 1)) + 1 := by omega
        have hnk := rname_any (d.mem k).name
        have hbr := hMr.1
        have HBm : Hid (Below wr.heap.size wr (ownMem wr (d.mem k) 92)) := ownMem_below wr (d.mem k) 92
        have HSm : Hid ((ownMem wr (d.mem k) 92).heap.size = wr.heap.size + 1) := ownMem_size wr (d.mem k) 92
        have HAm : Hid (MemAt (ownMem wr (d.mem k) 92) wr.heap.size 0 (d.mem k)) := ownMem_at wr (d.mem k) 92
        have hwh := where_any d (some ⟨b, o, none⟩) cap (d.mem k).name (ownMem wr (d.mem k) 92) (by omega) ⟨hcap, Or.inr ⟨b, o, rfl, hMr.later HBm.out⟩⟩
        unfold dimV at hwh
        have HC2 : Hid (decide (findFrom (fun j => same (d.mem j).name (d.mem k).name) d.n 0 < (k : Int)) = clash d.mem k) := clash_where hlt
        have HMr : Hid (MemsAt wr b o d.n d.mem) := hMr
        generalize findFrom (fun j => same (d.mem j).name (d.mem k).name) d.n 0 = f at hwh HC2
        clear hMr
        by_cases hnk0 : nameErr (d.mem k).name = 0
        · rw [hnk0] at hnk
          have HK : Hid (nameErr (d.mem k).name = 0) := hnk0
          clear hnk0
          go_wp2_with fail
          refine (hnk _).mono ?_
          rintro e w1 ⟨rfl, rfl⟩
          clear hnk
          go_wp2_with fail
          refine hwh.mono ?_
          rintro e w2 ⟨rfl, hb2⟩
          have hB2 : Below wr.heap.size wr w2 := onB HBm.out hb2
          have hzm : wr.heap.size < (ownMem wr (d.mem k) 92).heap.size := by rw [HSm.out]; omega
          have hAm2 := HAm.out.later hzm hb2
          obtain ⟨-, m1, m2, m3⟩ := hAm2
          have v2 : w2.cell? ⟨w.heap.size, 2, none⟩ = some (.slice (some ⟨b, o, none⟩) d.n cap) := (hB2.cell (p := ⟨w.heap.size, 2, none⟩) hszr).trans q2
          have hM2 := HMr.out.later hB2
          have HB2 : Hid (Below W.heap.size W w2) := onB HBw.out hB2
          have HBe : Hid (Below w.heap.size w w2) := onB HBr.out hB2
          clear hb2 hwh h0 h1 h2 h3 q0 q1 q2 hzm HAm HSm HBm HMr hB2
          by_cases hf : f < (k : Int)
          · have hcl : clash d.mem k = true := by rw [← HC2.out]; simpa using hf
            have HE : Hid (memErr d.mem k = 7) := me1 HK.out hcl
            clear hM2 hcl
            go_wp2_with fail
            go_ret2
            exact ⟨by rw [HD.out, ← HF.out, hsk, scan_bad _ (by rw [HE.out]; decide), HE.out]; rfl, HBe.out⟩
          · have HL : Hid (clash d.mem k = false) := by show _ = _; rw [← HC2.out]; simpa using hf
            clear HC2
            by_cases p1 : (d.mem k).parent < -1
            · have HE : Hid (memErr d.mem k = 1) := me2 HK.out HL.out (Or.inl p1)
              clear hM2
              go_wp2_with fail
              go_ret2
              exact ⟨by rw [HD.out, ← HF.out, hsk, scan_bad _ (by rw [HE.out]; decide), HE.out]; rfl, HBe.out⟩
            by_cases p2 : (k : Int) ≤ (d.mem k).parent
            · have HE : Hid (memErr d.mem k = 1) := me2 HK.out HL.out (Or.inr p2)
              clear hM2
              go_wp2_with fail
              go_ret2
              exact ⟨by rw [HD.out, ← HF.out, hsk, scan_bad _ (by rw [HE.out]; decide), HE.out]; rfl, HBe.out⟩
            have HP : Hid (¬ ((d.mem k).parent < -1 ∨ (k : Int) ≤ (d.mem k).parent)) := by show ¬ _; omega
            by_cases p3 : 0 ≤ (d.mem k).parent
            · obtain ⟨p, hp⟩ : ∃ p : Nat, (d.mem k).parent = (p : Int) := ⟨(d.mem k).parent.toNat, by omega⟩
              obtain ⟨-, -, -, d3⟩ := hM2.2 p (by omega)
              rw [hp] at m1 p1 p2 p3
              have HQ : Hid ((d.mem k).parent.toNat = p ∧ 0 ≤ (d.mem k).parent) := ⟨by omega, by omega⟩
              have hpi : (p : Int) < (d.n : Int) := by omega
              clear hp hM2
              by_cases p4 : (d.mem p).formula.size = 0
              · have p4' : (d.mem p).formula.toList.isEmpty = true := by rw [empty_same]; simpa using p4
                have HG : Hid (¬ (0 ≤ (d.mem k).parent ∧ (d.mem (d.mem k).parent.toNat).formula.size ≠ 0)) := by show ¬ _; rw [HQ.out.1]; omega
                clear p4
                by_cases p5 : (d.mem k).sign < -1
                · have HE : Hid (memErr d.mem k = 1) := me4 HK.out HL.out HP.out HG.out (Or.inl p5)
                  go_wp2_with fail
                  go_ret2
                  exact ⟨by rw [HD.out, ← HF.out, hsk, scan_bad _ (by rw [HE.out]; decide), HE.out]; rfl, HBe.out⟩
                by_cases p6 : 1 < (d.mem k).sign
                · have HE : Hid (memErr d.mem k = 1) := me4 HK.out HL.out HP.out HG.out (Or.inr p6)
                  go_wp2_with fail
                  go_ret2
                  exact ⟨by rw [HD.out, ← HF.out, hsk, scan_bad _ (by rw [HE.out]; decide), HE.out]; rfl, HBe.out⟩
                by_cases p7 : 100 < (d.mem k).formula.size
                · have HE : Hid (memErr d.mem k = 4) := me5 HK.out HL.out HP.out HG.out (by omega) p7
                  have p7' : 100 < ((d.mem k).formula.size : Int) := by omega
                  go_wp2_with fail
                  go_ret2
                  exact ⟨by rw [HD.out, ← HF.out, hsk, scan_bad _ (by rw [HE.out]; decide), HE.out]; rfl, HBe.out⟩
                · have HE : Hid (memErr d.mem k = 0) := me6 HK.out HL.out HP.out HG.out (by omega) p7
                  have p7' : ((d.mem k).formula.size : Int) ≤ 100 := by omega
                  go_wp2_with fail
                  go_roundg (d.n - (k + 1))
                  case measure => omega
                  case rel => exact ⟨k + 1, by omega, rfl, by go_num, by rw [← HF.out, hsk, scan_ok _ HE.out], HB2.out⟩
              · have p4' : (d.mem p).formula.toList.isEmpty = false := by rw [empty_same]; simpa using p4
                have HG : Hid (0 ≤ (d.mem k).parent ∧ (d.mem (d.mem k).parent.toNat).formula.size ≠ 0) := by refine ⟨HQ.out.2, ?_⟩; rw [HQ.out.1]; exact p4
                have HE : Hid (memErr d.mem k = 6) := me3 HK.out HL.out HP.out HG.out
                clear p4
                go_wp2_with fail
                go_ret2
                exact ⟨by rw [HD.out, ← HF.out, hsk, scan_bad _ (by rw [HE.out]; decide), HE.out]; rfl, HBe.out⟩
            · have HG : Hid (¬ (0 ≤ (d.mem k).parent ∧ (d.mem (d.mem k).parent.toNat).formula.size ≠ 0)) := by show ¬ _; omega
              clear hM2
              by_cases p5 : (d.mem k).sign < -1
              · have HE : Hid (memErr d.mem k = 1) := me4 HK.out HL.out HP.out HG.out (Or.inl p5)
                go_wp2_with fail
                go_ret2
                exact ⟨by rw [HD.out, ← HF.out, hsk, scan_bad _ (by rw [HE.out]; decide), HE.out]; rfl, HBe.out⟩
              by_cases p6 : 1 < (d.mem k).sign
              · have HE : Hid (memErr d.mem k = 1) := me4 HK.out HL.out HP.out HG.out (Or.inr p6)
                go_wp2_with fail
                go_ret2
                exact ⟨by rw [HD.out, ← HF.out, hsk, scan_bad _ (by rw [HE.out]; decide), HE.out]; rfl, HBe.out⟩
              by_cases p7 : 100 < (d.mem k).formula.size
              · have HE : Hid (memErr d.mem k = 4) := me5 HK.out HL.out HP.out HG.out (by omega) p7
                have p7' : 100 < ((d.mem k).formula.size : Int) := by omega
                go_wp2_with fail
                go_ret2
                exact ⟨by rw [HD.out, ← HF.out, hsk, scan_bad _ (by rw [HE.out]; decide), HE.out]; rfl, HBe.out⟩
              · have HE : Hid (memErr d.mem k = 0) := me6 HK.out HL.out HP.out HG.out (by omega) p7
                have p7' : ((d.mem k).formula.size : Int) ≤ 100 := by omega
                go_wp2_with fail
                go_roundg (d.n - (k + 1))
                case measure => omega
                case rel => exact ⟨k + 1, by omega, rfl, by go_num, by rw [← HF.out, hsk, scan_ok _ HE.out], HB2.out⟩
        · rw [nameErr_two hnk0] at hnk
          have HE : Hid (memErr d.mem k = 2) := me0 hnk0
          clear hnk0 hwh
          go_wp2_with fail
          refine (hnk _).mono ?_
          rintro e w1 ⟨rfl, rfl⟩
          clear hnk
          go_wp2_with fail
          go_ret2
          exact ⟨by rw [HD.out, ← HF.out, hsk, scan_bad _ (by rw [HE.out]; decide), HE.out]; rfl, onB HBr.out HBm.out⟩
      · have hke : k = d.n := by omega
        have hki : (d.n : Int) ≤ (k : Int) := by omega
        clear hMr
        go_wp2_with fail
        go_ret2
        exact ⟨by rw [HD.out, ← HF.out, hke, Nat.sub_self]; rfl, HBr.out⟩
  · rw [nameErr_two hn] at hnm
    have HR : Hid (dimErr d = (-1, 2)) := dim_name hn
    clear hn
    go_enter Tryz.func45, Tryz.ntmps45
    go_wp2_with fail
    refine (hnm _).mono ?_
    rintro e w1 ⟨rfl, rfl⟩
    go_wp2_with fail
    go_ret2
    exact ⟨by rw [HR.out]; rfl, by go_grown⟩
end Go.Proofs.YtpnfmpbgjkhicaeGreatDoor

namespace Go.Proofs.YtpnfmpbgjkhicaeGreatDoor
open Go.ChangeShapes Go.WideShapes Go.ChangeAt Go.RowKit
set_option maxRecDepth 20000

theorem drop_at {L : List Int} {k : Nat} (h : k < L.length) : L.drop k = L.getD k 0 :: L.drop (k + 1) := by
  rw [List.drop_eq_getElem_cons h]; simp [List.getD, List.getElem?_eq_getElem h]
theorem getD_mem {L : List Int} {k : Nat} (h : k < L.length) : L.getD k 0 ∈ L := by
  simp [List.getD, List.getElem?_eq_getElem h]

end Go.Proofs.YtpnfmpbgjkhicaeGreatDoor

namespace Go.Proofs.YtpnfmpbgjkhicaeGreatDoor
open Go.ChangeShapes Go.WideShapes Go.ChangeAt Go.RowKit
set_option maxRecDepth 20000

theorem treeErr_in2 {d : Dm} {i j : Int} (h : treeErr d [i, j] = 0) : (dimErr d).2 = 0 ∧ (∃ k : Nat, i = k ∧ k < d.n) ∧ ∃ m : Nat, j = m ∧ m < d.n := by
  have h0 := treeErr_right h
  rw [treeErr_two h0] at h
  by_cases h1 : i < 0 ∨ (d.n : Int) ≤ i ∨ j < 0 ∨ (d.n : Int) ≤ j
  · rw [if_pos h1] at h; cases h
  · exact ⟨h0, ⟨i.toNat, by omega, by omega⟩, j.toNat, by omega, by omega⟩
def wErr (d : Dm) (i j : Int) : Int := if treeErr d [i, j] ≠ 0 then treeErr d [i, j] else if leafB d.mem d.n j.toNat = true then 0 else 3
def wVal (d : Dm) (i j : Int) : Int := if wErr d i j = 0 then weightOf d.mem i j else 0
theorem wErr_bad {d : Dm} {i j : Int} (h : treeErr d [i, j] ≠ 0) : wErr d i j = treeErr d [i, j] := by unfold wErr; rw [if_pos h]
theorem wErr_no {d : Dm} {i j : Int} (h : treeErr d [i, j] = 0) (h1 : leafB d.mem d.n j.toNat = false) : wErr d i j = 3 := by unfold wErr; rw [if_neg (by simpa using h), if_neg (by simp [h1])]
theorem wErr_ok {d : Dm} {i j : Int} (h : treeErr d [i, j] = 0) (h1 : leafB d.mem d.n j.toNat = true) : wErr d i j = 0 := by unfold wErr; rw [if_neg (by simpa using h), if_pos h1]
theorem wVal_ok {d : Dm} {i j : Int} (h : wErr d i j = 0) : wVal d i j = weightOf d.mem i j := by unfold wVal; rw [if_pos h]
theorem wVal_bad {d : Dm} {i j : Int} (h : wErr d i j ≠ 0) : wVal d i j = 0 := by unfold wVal; rw [if_neg h]

def ownW (w : World) (d : Dm) (A : Option Addr) (cap : Nat) (i j : Int) (T T' : Nat) : World := (ownDim w d A cap T).alloc (.cells #[.int .i64 i, .int .i64 j] T')
theorem ownW_size (w : World) (d : Dm) (A : Option Addr) (cap : Nat) (i j : Int) (T T' : Nat) : (ownW w d A cap i j T T').heap.size = w.heap.size + 2 := by unfold ownW; simp [ownDim_size]
theorem ownW_below (w : World) (d : Dm) (A : Option Addr) (cap : Nat) (i j : Int) (T T' : Nat) : Below w.heap.size w (ownW w d A cap i j T T') := by unfold ownW ownDim; go_grown
theorem ownW_dim (w : World) (d : Dm) (A : Option Addr) (cap : Nat) (i j : Int) (T T' : Nat) : (ownW w d A cap i j T T').cell? ⟨w.heap.size, 2, none⟩ = some (.slice A d.n cap) := by
  unfold ownW
  rw [World.cell?_alloc_lt _ _ ⟨w.heap.size, 2, none⟩ (by rw [ownDim_size]; exact Nat.lt_succ_self _)]
  exact (ownDim_at w d A cap T).2.2
theorem ownW_ints (w : World) (d : Dm) (A : Option Addr) (cap : Nat) (i j : Int) (T T' : Nat) : IntsAt (ownW w d A cap i j T T') (some ⟨w.heap.size + 1, 0, none⟩) 2 [i, j] := by
  refine ⟨Nat.le_refl _, Or.inr ⟨_, rfl, by rw [ownW_size]; omega, fun k hk => ?_⟩⟩
  have hk' : k < 2 := hk
  unfold ownW
  rw [← ownDim_size w d A cap T]
  match k, hk' with
  | 0, _ => simp
  | 1, _ => simp

theorem held2 {W w' : World} {p0 p1 : Addr} {v0 v1 : Value} (a0 : p0.block < W.heap.size ∧ W.cell? p0 = some v0) (a1 : p1.block < W.heap.size ∧ W.cell? p1 = some v1) (hB : Below W.heap.size W w') :
    Below W.heap.size W w' ∧ w'.cell? p0 = some v0 ∧ w'.cell? p1 = some v1 :=
  ⟨hB, (hB.cell a0.1).trans a0.2, (hB.cell a1.1).trans a1.2⟩

end Go.Proofs.YtpnfmpbgjkhicaeGreatDoor

namespace Go.Proofs.YtpnfmpbgjkhicaeGreatDoor
open Go.ChangeShapes Go.WideShapes Go.ChangeAt Go.RowKit
set_option maxRecDepth 20000

end Go.Proofs.YtpnfmpbgjkhicaeGreatDoor

namespace Go.Proofs.YtpnfmpbgjkhicaeGreatDoor
open Go.ChangeShapes Go.WideShapes Go.ChangeAt Go.RowKit
set_option maxRecDepth 20000

def dVal (d : Dm) : Int := if (dimErr d).2 = 0 then (depTo d.mem d.n : Int) else 0
theorem dVal_ok {d : Dm} (h : (dimErr d).2 = 0) : dVal d = (depTo d.mem d.n : Int) := by unfold dVal; rw [if_pos h]
theorem dVal_bad {d : Dm} (h : (dimErr d).2 ≠ 0) : dVal d = 0 := by unfold dVal; rw [if_neg h]
theorem treeErr_nil {d : Dm} : treeErr d [] = (dimErr d).2 := by
  by_cases h : (dimErr d).2 = 0
  · rw [treeErr_none h, h]
  · rw [treeErr_dim h]

set_option maxHeartbeats 1000000 in
theorem sameints_any (A B : Option Addr) (ca cb : Nat) (L : List Int) (w : World) (hn : L.length ≤ 12) (hA : IntsAt w A ca L) (hB : IntsAt w B cb L) : Calls Tryz.prog 22 #[.slice A L.length ca, .slice B L.length cb] w fun e w' => e = .returned (.bool true) ∧ Below w.heap.size w w' := by
  obtain ⟨hc, h0 | ⟨b, rfl, hbw, hcell⟩⟩ := hA
  · subst h0
    simp only [List.length_nil]
    go_enter Tryz.func22, Tryz.ntmps22
    go_wp2_with fail
    refine wp_loop_rounds 1 ?_
    rw [rounds_succ]
    go_wp2_with fail
    go_ret
    exact ⟨rfl, Below.refl _ _⟩
  · obtain ⟨hc', h0 | ⟨b', rfl, hbw', hcell'⟩⟩ := hB
    · subst h0
      simp only [List.length_nil]
      go_enter Tryz.func22, Tryz.ntmps22
      go_wp2_with fail
      refine wp_loop_rounds 1 ?_
      rw [rounds_succ]
      go_wp2_with fail
      go_ret
      exact ⟨rfl, Below.refl _ _⟩
    · have HC : Hid (∀ j, j < L.length → w.cell? ⟨b, j, none⟩ = some (.int .i64 (L.getD j 0))) := hcell
      have HC' : Hid (∀ j, j < L.length → w.cell? ⟨b', j, none⟩ = some (.int .i64 (L.getD j 0))) := hcell'
      generalize hnn : L.length = n at hn hc hc' HC HC'
      clear hcell hcell' hnn
      have hn' : (n : Int) ≤ 12 := by omega
      go_enter Tryz.func22, Tryz.ntmps22
      go_wp2_with fail
      go_loopg [5] n (fun g s5 wr => ∃ (k : Nat), k ≤ n ∧ g = n - k ∧ s5 = .int .i64 k ∧ Below w.heap.size w wr)
      case atStart => exact ⟨0, Nat.zero_le _, rfl, rfl, Below.refl _ _⟩
      case round =>
        obtain ⟨k, hk, rfl, rfl, hBw⟩ := hrel
        have HBw : Hid (Below w.heap.size w wr) := hBw
        by_cases hlt : k < n
        · have hki : (k : Int) < (n : Int) := by omega
          have x1 := (hBw.cell (p := ⟨b, k, none⟩) hbw).trans (HC.out k hlt)
          have x2 := (hBw.cell (p := ⟨b', k, none⟩) hbw').trans (HC'.out k hlt)
          generalize L.getD k 0 = x at x1 x2
          clear hBw
          go_wp2_with fail
          go_quiet (fail)
          go_wp2_with fail
          go_roundg (n - (k + 1))
          case measure => omega
          case rel => exact ⟨k + 1, by omega, rfl, by go_num, onB HBw.out (below_drewN (Below.refl _ _) _)⟩
        · have hke : k = n := by omega
          subst hke
          clear hBw
          go_wp2_with fail
          go_ret
          exact ⟨rfl, HBw.out⟩

set_option maxHeartbeats 2000000 in
theorem rparts_any (d : Dm) (b o cap : Nat) (i : Int) (w : World) (hn : d.n ≤ 12) (hM : MemsAt w b o d.n d.mem) : Calls Tryz.prog 49 #[.agg #[.string d.name, .int .i64 d.solve, .slice (some ⟨b, o, none⟩) d.n cap], .int .i64 i] w fun e w' => (∃ A c, e = .returned (.slice A (partsOf d.mem d.n i).length c) ∧ IntsAt w' A c (partsOf d.mem d.n i)) ∧ Below w.heap.size w w' := by
  obtain ⟨i0, hi0, hz0, hz1, hz2⟩ := info_parts Tryz.infoInt
  have hS := ownDim_size w d (some ⟨b, o, none⟩) cap 51
  have hB0 := ownDim_below w d (some ⟨b, o, none⟩) cap 51
  have hA := (ownDim_at w d (some ⟨b, o, none⟩) cap 51).2.2
  obtain ⟨W, hW⟩ : ∃ W, W = ownDim w d (some ⟨b, o, none⟩) cap 51 := ⟨_, rfl⟩
  rw [← hW] at hS hB0 hA
  have HW : Hid (W = ownDim w d (some ⟨b, o, none⟩) cap 51) := hW
  have HB0 : Hid (Below w.heap.size w W) := hB0
  have HM : Hid (MemsAt W b o d.n d.mem) := hM.later hB0
  have HA : Hid (W.cell? ⟨w.heap.size, 2, none⟩ = some (.slice (some ⟨b, o, none⟩) d.n cap)) := hA
  have hsz : w.heap.size < W.heap.size := by omega
  have hn' : (d.n : Int) ≤ 12 := by omega
  obtain ⟨p, hp⟩ : ∃ p : Nat → Bool, p = partB d.mem i := ⟨_, rfl⟩
  have HP : Hid (p = partB d.mem i) := hp
  unfold partsOf
  rw [← hp]
  clear hM hW hB0 hA hS hp
  go_enter Tryz.func49, Tryz.ntmps49
  go_wp2_with fail
  go_loopg [5, 6] d.n (fun g s5 s6 wr => ∃ (k : Nat), k ≤ d.n ∧ g = d.n - k ∧ s6 = .int .i64 k ∧ wr.ownsRow W.heap.size 3 1 s5 (selTo p k).length (mapI (selTo p k)) ∧ Below W.heap.size W wr)
  case atStart => exact ⟨0, Nat.zero_le _, rfl, rfl, World.ownsRow_nil _ _ _ _, by rw [HW.out]; exact Below.refl _ _⟩
  case round =>
    obtain ⟨k, hk, rfl, rfl, hown, hBw⟩ := hrel
    have HWr : Hid (Below W.heap.size W wr) := hBw
    have HO : Hid (wr.ownsRow W.heap.size 3 1 _ (selTo p k).length (mapI (selTo p k))) := hown
    have c2 : wr.cell? ⟨w.heap.size, 2, none⟩ = some (.slice (some ⟨b, o, none⟩) d.n cap) := (hBw.cell (p := ⟨w.heap.size, 2, none⟩) hsz).trans HA.out
    have hszr := hBw.size
    by_cases hlt : k < d.n
    · have hki : (k : Int) < (d.n : Int) := by omega
      obtain ⟨-, h1, -, -⟩ := (HM.out.later hBw).2 k hlt
      have hlen := selTo_len p k
      have hpk : p k = ((d.mem k).parent == i) := by rw [HP.out]; rfl
      clear hBw
      cases hb : p k
      · have HK : Hid (p k = false) := hb
        rw [hb] at hpk
        have hpe : ((d.mem k).parent == i) = false := hpk.symm
        clear hb hpk hown
        go_wp2_with fail
        go_roundg (d.n - (k + 1))
        case measure => omega
        case rel => exact ⟨k + 1, by omega, rfl, by go_num, by rw [selTo_miss HK.out]; exact HO.out, HWr.out⟩
      · have HK : Hid (p k = true) := hb
        rw [hb] at hpk
        have hpe : ((d.mem k).parent == i) = true := hpk.symm
        clear hb hpk
        go_wp2_with (at_builtin; refine wpList_append_own _ rfl _ _ 61 rfl W.heap.size 3 i0 (.int .i64 0) 1 8 Tryz.underlying61 hi0 hz0 hz1 hz2 rfl (by decide) _ _ _ rfl (hown.alloc _) ⟨wr.heap.size, 0, none⟩ 1 1 [.int .i64 k] rfl rfl one_cell one_one (by unfold maxLen; omega) (by omega) (by simp; omega) ?_)
        intro v' w2 hown' hgrow _
        have HB2 : Hid (Below W.heap.size W w2) := grown_own HWr.out hown hgrow
        have HO2 : Hid (w2.ownsRow W.heap.size 3 1 v' (selTo p (k + 1)).length (mapI (selTo p (k + 1)))) := by
          show World.ownsRow ..
          rw [selTo_hit HK.out, mapI_snoc, List.length_append]; exact hown'
        clear hown' hgrow hown c2
        go_wp2_with fail
        go_roundg (d.n - (k + 1))
        case measure => omega
        case rel => exact ⟨k + 1, by omega, rfl, by go_num, HO2.out, HB2.out⟩
    · have hke : k = d.n := by omega
      subst hke
      clear hBw hown
      go_wp2_with fail
      go_ret
      obtain ⟨A, c, h1, h2⟩ := ints_of HO.out
      exact ⟨⟨A, c, by rw [← h1]; rfl, h2⟩, onB HB0.out HWr.out⟩

theorem sel_empty {p : Nat → Bool} {n : Nat} : ((selTo p n).length = 0) ↔ ¬ 0 ≤ findFrom p n 0 := by
  rcases findFrom_cases p n 0 with ⟨h1, h2⟩ | ⟨k, h1, _, h3, h4, _⟩
  · rw [h1, selTo_none (fun j hj => h2 j (Nat.zero_le _) (by omega))]
    simp
  · rw [h1]
    constructor
    · intro h
      have h5 : ∀ m, k < m → 0 < (selTo p m).length := fun m hm => by
        induction m with
        | zero => omega
        | succ m ih =>
          rw [selTo, List.length_append]
          by_cases hk : k = m
          · subst hk; rw [if_pos h4]; simp
          · have := ih (by omega); omega
      have := h5 n (by omega)
      omega
    · intro h; omega

end Go.Proofs.YtpnfmpbgjkhicaeGreatDoor
