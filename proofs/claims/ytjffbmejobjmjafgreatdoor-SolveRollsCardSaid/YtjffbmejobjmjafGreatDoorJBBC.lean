/-
 What Leaf of package place answers, called in whatever memory: whether a place is of leafs, or what is wrong.
 What Weight and Leafs of package tree answer: how a leaf counts in a member; the leafs of a member; or what is wrong.
-/
import Derived.Test.YtjffbmejobjmjafGreatDoorJBAT
import Derived.Deep.RegionLaw
import Derived.Deep.RegionHeld3
namespace Go.Proofs.YtjffbmejobjmjafGreatDoor
open Go.ChangeShapes Go.WideShapes Go.ChangeAt Go.RowKit
set_option maxRecDepth 20000

def notLeaf (D : Nat → Dm) (L : List Int) (i : Nat) : Bool := !leafB (D i).mem (D i).n (L.getD i 0).toNat
def leafV (D : Nat → Dm) (n : Nat) (L : List Int) : Bool := if placeErr D n L = 0 then !decide (0 ≤ findFrom (notLeaf D L) n 0) else false

theorem pleaf1_in : EntersO 144 := fun args w => by simp [callFunc, Tryz.func144]; rfl
set_option maxHeartbeats 2000000 in
theorem pleaf1_any (b o n cap k q r bp op cp X : Nat) (D : Nat → Dm) (A : Nat → Option Addr) (C : Nat → Nat) (w : World) (hk : k < n) (hn : n ≤ 4) (hd : (dimErr (D k)).2 = 0) (hX : X < (D k).n) (hM : DimsAt w b o n D A C) (hx : w.cell? ⟨bp, op + k, none⟩ = some (.int .i64 X)) (hq : w.cell? ⟨q, 0, none⟩ = some (.slice (some ⟨b, o, none⟩) n cap)) (hr : w.cell? ⟨r, 0, none⟩ = some (.slice (some ⟨bp, op, none⟩) n cp)) :
  Calls Tryz.prog 144 #[.int .i64 k, .pointer (some ⟨q, 0, none⟩), .pointer (some ⟨r, 0, none⟩)] w fun e w' => e = .returned (.bool (!leafB (D k).mem (D k).n X)) ∧ Below w.heap.size w w' := by
 obtain ⟨h0, h1, h3, h4⟩ := hM.2 k hk
 have hki : (k : Int) < (n : Int) := by omega
 have hn' : (n : Int) ≤ 4 := by omega
 have hte : treeErr (D k) [(X : Int)] = 0 := by rw [treeErr_one hd, if_neg (by omega)]
 have hlf : lfOf (D k) (X : Int) = leafB (D k).mem (D k).n X := by simp [lfOf, hte]
 have HLf : Hid (∀ w', Below w.heap.size w w' → Calls Tryz.prog 145 #[.agg #[.string (D k).name, .int .i64 (D k).solve, .slice (A k) (D k).n (C k)], .int .i64 X] w' fun e w'' => e = .returned (.tuple #[.bool (leafB (D k).mem (D k).n X), .nilIface]) ∧ Below w'.heap.size w' w'') := fun w' hw' => by
  have h := tleaf_any (D k) (A k) (C k) X w' (h4.later hw')
  rw [hte, hlf, errV_zero] at h
  exact h
 generalize leafB (D k).mem (D k).n X = y at HLf
 clear hM h4 hte hlf hd
 go_enter Tryz.func144, Tryz.ntmps144
 go_wp2_with fail
 go_region_law ((go_simp; refine (HLf.out _ (by go_grown)).mono ?_; rintro e w2 ⟨rfl, hb2⟩; have hN2 := onB (W0 := w) (by go_grown) hb2; clear hb2))
 all_goals go_wp2_with fail
 all_goals go_ret
 all_goals exact ⟨rfl, hN2⟩

set_option maxHeartbeats 4000000 in
theorem pleaf_any (A0 : Option Addr) (cap n : Nat) (D : Nat → Dm) (A : Nat → Option Addr) (C : Nat → Nat) (Ap : Option Addr) (cp : Nat) (L : List Int) (w : World) (hM : DimsV w A0 cap n D A C) (hP : PlAt w Ap cp L) : Calls Tryz.prog 111 #[.agg #[.slice A0 n cap], .slice Ap L.length cp] w fun e w' => e = .returned (.tuple #[.bool (leafV D n L), errV (placeErr D n L)]) ∧ Below w.heap.size w w' := by
 have hB0 := ownOP_below w A0 n cap Ap L.length cp 42 44
 have h := pcheck_any A0 cap n D A C Ap cp L (ownOP w A0 n cap Ap L.length cp 42 44) (hM.later hB0) (hP.later hB0)
 have HB0 : Hid (Below w.heap.size w (ownOP w A0 n cap Ap L.length cp 42 44)) := hB0
 have HM : Hid (DimsV w A0 cap n D A C) := hM
 have HP : Hid (PlAt w Ap cp L) := hP
 clear hM hB0 hP
 by_cases he : placeErr D n L = 0
 ·have HI : Hid (InO D n L) := inO_of he
  have HV : Hid (leafV D n L = !decide (0 ≤ findFrom (notLeaf D L) n 0)) := by show _ = _; unfold leafV; rw [if_pos he]
  have HE : Hid (errV (placeErr D n L) = .nilIface) := by show _ = _; rw [he]; rfl
  rw [he, errV_zero] at h
  obtain ⟨hn1, hn4, -, -⟩ := allErr_some HI.out.right
  have hn' : (n : Int) ≤ 4 := by omega
  have hl := HI.out.len
  obtain ⟨hcp, h0 | ⟨bp, op, rfl, hbp, hcell⟩⟩ := HP.out
  ·rw [h0] at hl; simp at hl; omega
  rw [hl] at h HB0
  rw [hl]
  have HC : Hid (∀ j, j < n → w.cell? ⟨bp, op + j, none⟩ = some (.int .i64 (L.getD j 0))) := fun j hj => hcell j (by omega)
  clear he hl hcell hcp
  go_enter Tryz.func111, Tryz.ntmps111
  go_wp2_with fail
  refine h.mono ?_
  rintro e w1 ⟨rfl, hb1⟩
  have hB : Below w.heap.size w w1 := onB HB0.out hb1
  have hz : w.heap.size + 1 < w1.heap.size := by have := hb1.size; rw [ownOP_size] at this; omega
  have ho : w1.cell? ⟨w.heap.size, 0, none⟩ = some (.slice A0 n cap) := (hb1.cell (p := ⟨w.heap.size, 0, none⟩) (by show w.heap.size < _; rw [ownOP_size]; omega)).trans (ownOP_o ..)
  have hp : w1.cell? ⟨w.heap.size + 1, 0, none⟩ = some (.slice (some ⟨bp, op, none⟩) n cp) := (hb1.cell (p := ⟨w.heap.size + 1, 0, none⟩) (by show w.heap.size + 1 < _; rw [ownOP_size]; omega)).trans (ownOP_p ..)
  obtain ⟨hcap, h0 | ⟨b, o, rfl, hMs⟩⟩ := HM.out.later hB
  ·omega
  have hany := anydim_any 144 w.heap.size (w.heap.size + 1) pleaf1_in (some ⟨b, o, none⟩) n cap (notLeaf D L) w1 hn4 (fun j w' hj hw' => by
   have hlo := HI.out.lo j hj
   have hhi := HI.out.hi j hj
   have e1 : L.getD j 0 = ((L.getD j 0).toNat : Int) := by omega
   have hcj := ((onB hB hw').cell (p := ⟨bp, op + j, none⟩) hbp).trans (HC.out j hj)
   rw [e1] at hcj
   exact pleaf1_any b o n cap j w.heap.size (w.heap.size + 1) bp op cp (L.getD j 0).toNat D A C w' hj hn4 ((allErr_right HI.out.right).2 j hj) (by omega) (hMs.later hw') hcj ((hw'.cell (p := ⟨w.heap.size, 0, none⟩) (by show w.heap.size < _; omega)).trans ho) ((hw'.cell (p := ⟨w.heap.size + 1, 0, none⟩) hz).trans hp))
  have HB : Hid (Below w.heap.size w w1) := hB
  generalize decide (0 ≤ findFrom (notLeaf D L) n 0) = y at hany HV
  clear hb1 h hMs hB
  go_wp2_with fail
  refine hany.mono ?_
  rintro e w2 ⟨rfl, hb2⟩
  go_wp2_with fail
  go_ret2
  rw [HV.out, HE.out]
  exact ⟨rfl, onB HB.out hb2⟩
 ·have HV : Hid (leafV D n L = false) := by show _ = _; unfold leafV; rw [if_neg he]
  have HE : Hid (errV (placeErr D n L) = .iface 65 (.int .i64 (placeErr D n L))) := errV_some he
  rw [errV_some he] at h
  clear he
  generalize placeErr D n L = c at h HE
  generalize L.length = m at h HB0
  go_enter Tryz.func111, Tryz.ntmps111
  go_wp2_with fail
  refine h.mono ?_
  rintro e w1 ⟨rfl, hb1⟩
  go_wp2_with fail
  go_ret2
  rw [HV.out, HE.out]
  exact ⟨rfl, onB HB0.out hb1⟩
end Go.Proofs.YtjffbmejobjmjafGreatDoor

namespace Go.Proofs.YtjffbmejobjmjafGreatDoor
open Go.ChangeShapes Go.WideShapes Go.ChangeAt Go.RowKit
set_option maxRecDepth 20000

theorem treeErr_in2 {d : Dm} {i j : Int} (h : treeErr d [i, j] = 0) : (dimErr d).2 = 0 ∧ (∃ k : Nat, i = k ∧ k < d.n) ∧ ∃ m : Nat, j = m ∧ m < d.n := by
 have h0 := treeErr_right h
 rw [treeErr_two h0] at h
 by_cases h1 : i < 0 ∨ (d.n : Int) ≤ i ∨ j < 0 ∨ (d.n : Int) ≤ j
 ·rw [if_pos h1] at h; cases h
 ·exact ⟨h0, ⟨i.toNat, by omega, by omega⟩, j.toNat, by omega, by omega⟩
def wErr (d : Dm) (i j : Int) : Int := if treeErr d [i, j] ≠ 0 then treeErr d [i, j] else if leafB d.mem d.n j.toNat = true then 0 else 3
def wVal (d : Dm) (i j : Int) : Int := if wErr d i j = 0 then weightOf d.mem i j else 0
theorem wErr_bad {d : Dm} {i j : Int} (h : treeErr d [i, j] ≠ 0) : wErr d i j = treeErr d [i, j] := by unfold wErr; rw [if_pos h]
theorem wErr_no {d : Dm} {i j : Int} (h : treeErr d [i, j] = 0) (h1 : leafB d.mem d.n j.toNat = false) : wErr d i j = 3 := by unfold wErr; rw [if_neg (by simpa using h), if_neg (by simp [h1])]
theorem wErr_ok {d : Dm} {i j : Int} (h : treeErr d [i, j] = 0) (h1 : leafB d.mem d.n j.toNat = true) : wErr d i j = 0 := by unfold wErr; rw [if_neg (by simpa using h), if_pos h1]
theorem wVal_ok {d : Dm} {i j : Int} (h : wErr d i j = 0) : wVal d i j = weightOf d.mem i j := by unfold wVal; rw [if_pos h]
theorem wVal_bad {d : Dm} {i j : Int} (h : wErr d i j ≠ 0) : wVal d i j = 0 := by unfold wVal; rw [if_neg h]

def ownW (w : World) (d : Dm) (A : Option Addr) (cap : Nat) (i j : Int) (T T' : Nat) : World := (ownDim w d A cap T).alloc (.cells #[.int .i64 i, .int .i64 j] T')
theorem ownW_size (w : World) (d : Dm) (A : Option Addr) (cap : Nat) (i j : Int) (T T' : Nat) : (ownW w d A cap i j T T').heap.size = w.heap.size + 2 := by unfold ownW; simp [ownDim_size]
theorem ownW_below (w : World) (d : Dm) (A : Option Addr) (cap : Nat) (i j : Int) (T T' : Nat) : Below w.heap.size w (ownW w d A cap i j T T') := by unfold ownW ownDim; go_grown
theorem ownW_dim (w : World) (d : Dm) (A : Option Addr) (cap : Nat) (i j : Int) (T T' : Nat) : (ownW w d A cap i j T T').cell? ⟨w.heap.size, 2, none⟩ = some (.slice A d.n cap) := by
 unfold ownW
 rw [World.cell?_alloc_lt _ _ ⟨w.heap.size, 2, none⟩ (by rw [ownDim_size]; exact Nat.lt_succ_self _)]
 exact (ownDim_at w d A cap T).2.2
theorem ownW_ints (w : World) (d : Dm) (A : Option Addr) (cap : Nat) (i j : Int) (T T' : Nat) : IntsAt (ownW w d A cap i j T T') (some ⟨w.heap.size + 1, 0, none⟩) 2 [i, j] := by
 refine ⟨Nat.le_refl _, Or.inr ⟨_, rfl, by rw [ownW_size]; omega, fun k hk => ?_⟩⟩
 have hk' : k < 2 := hk
 unfold ownW
 rw [← ownDim_size w d A cap T]
 match k, hk' with
 | 0, _ => simp
 | 1, _ => simp

set_option maxHeartbeats 2000000 in
theorem tweight_any (d : Dm) (A : Option Addr) (cap : Nat) (i j : Int) (w : World) (hM : MemsV w A cap d.n d.mem) : Calls Tryz.prog 75 #[dimV d A cap, .int .i64 i, .int .i64 j] w fun e w' => e = .returned (.tuple #[.int .i64 (wVal d i j), errV (wErr d i j)]) ∧ Below w.heap.size w w' := by
 have hB0 := ownW_below w d A cap i j 24 3
 have hck := tcheck_any d A cap _ 2 [i, j] (ownW w d A cap i j 24 3) (hM.later hB0) (by simp) (ownW_ints ..)
 have HB0 : Hid (Below w.heap.size w (ownW w d A cap i j 24 3)) := hB0
 have HM : Hid (MemsV w A cap d.n d.mem) := hM
 unfold dimV at hck ⊢
 simp only [List.length_cons, List.length_nil, Nat.zero_add, Nat.reduceAdd] at hck
 clear hM hB0
 by_cases he : treeErr d [i, j] = 0
 ·obtain ⟨hd, ⟨k, rfl, hk⟩, m, rfl, hm⟩ := treeErr_in2 he
  rw [he, errV_zero] at hck
  obtain ⟨-, -, hd2, -⟩ := dimErr_right hd
  have HD : Hid ((dimErr d).2 = 0) := hd
  have HE : Hid (treeErr d [(k : Int), (m : Int)] = 0) := he
  clear he hd
  go_enter Tryz.func75, Tryz.ntmps75
  go_wp2_with fail
  refine hck.mono ?_
  rintro e w1 ⟨rfl, hb1⟩
  have hB : Below w.heap.size w w1 := onB HB0.out hb1
  have hz : w.heap.size < w1.heap.size := by have := hb1.size; rw [ownW_size] at this; omega
  have h2 : w1.cell? ⟨w.heap.size, 2, none⟩ = some (.slice A d.n cap) := (hb1.cell (p := ⟨w.heap.size, 2, none⟩) (by show w.heap.size < _; rw [ownW_size]; omega)).trans (ownW_dim ..)
  obtain ⟨hcap, h0 | ⟨b, o, rfl, hMs⟩⟩ := HM.out.later hB
  ·omega
  have hpl := isleaf_any b o d.n cap m d.mem w1 hd2 hm hMs
  have HB : Hid (Below w.heap.size w w1) := hB
  have HMs : Hid (MemsAt w1 b o d.n d.mem) := hMs
  clear hb1 hck hMs hB
  cases hl : leafB d.mem d.n m
  ·have HR : Hid (wErr d k m = 3) := wErr_no HE.out (by simpa using hl)
   have HV : Hid (wVal d k m = 0) := wVal_bad (by rw [HR.out]; decide)
   rw [hl] at hpl
   clear hl
   go_wp2_with fail
   refine hpl.mono ?_
   rintro e w2 ⟨rfl, hb2⟩
   go_wp2_with fail
   go_ret2
   rw [HR.out, HV.out]
   exact ⟨rfl, onB HB.out hb2⟩
  ·have HR : Hid (wErr d k m = 0) := wErr_ok HE.out (by simpa using hl)
   have HV : Hid (wVal d k m = weightOf d.mem k m) := wVal_ok HR.out
   rw [hl] at hpl
   clear hl
   go_wp2_with fail
   refine hpl.mono ?_
   rintro e w2 ⟨rfl, hb2⟩
   have h3 : w2.cell? ⟨w.heap.size, 2, none⟩ = some (.slice (some ⟨b, o, none⟩) d.n cap) := (hb2.cell (p := ⟨w.heap.size, 2, none⟩) hz).trans h2
   have hwt := weight_any b o d.n cap m k d.mem w2 hd2 hm (Tr.of HD.out) (Sg.of HD.out) (HMs.out.later hb2)
   have HB2 : Hid (Below w.heap.size w w2) := onB HB.out hb2
   clear hb2 hpl h2
   go_wp2_with fail
   refine hwt.mono ?_
   rintro e w3 ⟨rfl, hb3⟩
   go_wp2_with fail
   go_ret2
   rw [HR.out, HV.out]
   exact ⟨rfl, onB HB2.out hb3⟩
 ·have HR : Hid (wErr d i j = treeErr d [i, j]) := wErr_bad he
  have HV : Hid (wVal d i j = 0) := wVal_bad (by rw [HR.out]; exact he)
  have HE : Hid (errV (treeErr d [i, j]) = .iface 65 (.int .i64 (treeErr d [i, j]))) := errV_some he
  rw [errV_some he] at hck
  clear he
  go_enter Tryz.func75, Tryz.ntmps75
  generalize treeErr d [i, j] = c at hck HR HE
  go_wp2_with fail
  refine hck.mono ?_
  rintro e w1 ⟨rfl, hb1⟩
  go_wp2_with fail
  go_ret2
  rw [HV.out, HR.out, HE.out]
  exact ⟨rfl, onB HB0.out hb1⟩

theorem leafs1_in : EntersO 147 := fun args w => by simp [callFunc, Tryz.func147]; rfl
theorem held2 {W w' : World} {p0 p1 : Addr} {v0 v1 : Value} (a0 : p0.block < W.heap.size ∧ W.cell? p0 = some v0) (a1 : p1.block < W.heap.size ∧ W.cell? p1 = some v1) (hB : Below W.heap.size W w') :
  Below W.heap.size W w' ∧ w'.cell? p0 = some v0 ∧ w'.cell? p1 = some v1 :=
 ⟨hB, (hB.cell a0.1).trans a0.2, (hB.cell a1.1).trans a1.2⟩

set_option maxHeartbeats 4000000 in
theorem leafs1_any (b o n cap k q r : Nat) (M : Nat → Mem) (i : Int) (w : World) (hk : k < n) (hn : n ≤ 12) (ht : Tr M n) (hM : MemsAt w b o n M) (hqw : q < w.heap.size) (hrw : r < w.heap.size) (hq : w.cell? ⟨q, 2, none⟩ = some (.slice (some ⟨b, o, none⟩) n cap)) (hr : w.cell? ⟨r, 0, none⟩ = some (.int .i64 i)) :
  Calls Tryz.prog 147 #[.int .i64 k, .pointer (some ⟨q, 0, none⟩), .pointer (some ⟨r, 0, none⟩)] w fun e w' => e = .returned (.bool (leafIn M n i k)) ∧ Below w.heap.size w w' := by
 have HH : Hid (∀ w', Below w.heap.size w w' → Below w.heap.size w w' ∧ w'.cell? ⟨q, 2, none⟩ = some (.slice (some ⟨b, o, none⟩) n cap) ∧ w'.cell? ⟨r, 0, none⟩ = some (.int .i64 i)) := fun w' hw' => held2 ⟨hqw, hq⟩ ⟨hrw, hr⟩ hw'
 have HL : Hid (∀ w', Below w.heap.size w w' → Calls Tryz.prog 115 #[.slice (some ⟨b, o, none⟩) n cap, .int .i64 k] w' fun e w'' => e = .returned (.bool (leafB M n k)) ∧ Below w'.heap.size w' w'') := fun w' hw' => isleaf_any b o n cap k M w' hn hk (hM.later hw')
 have hln : (pathOf M k).length ≤ 12 := by have := pathOf_len ht n k (by omega) (by omega); omega
 have HP : Hid (∀ w', Below w.heap.size w w' → Calls Tryz.prog 148 #[.slice (some ⟨b, o, none⟩) n cap, .int .i64 k] w' fun e w'' => (∃ A c, e = .returned (.slice A (pathOf M k).length c) ∧ IntsAt w'' A c (pathOf M k)) ∧ Below w'.heap.size w' w'') := fun w' hw' => path_any b o n cap k M w' hn hk ht (hM.later hw')
 have HC : Hid (∀ A c w', IntsAt w' A c (pathOf M k) → Calls Tryz.prog 43 #[.slice A (pathOf M k).length c, .int .i64 i] w' fun e w'' => e = .returned (.bool (inB (pathOf M k) i)) ∧ Below w'.heap.size w' w'') := fun A c w' h => contains_ints A c (pathOf M k) i w' hln h
 unfold leafIn
 generalize pathOf M k = L at hln HP HC
 clear hM ht
 cases hl : leafB M n k
 ·rw [hl] at HL
  go_enter Tryz.func147, Tryz.ntmps147
  go_wp2_with fail
  first | (go_region_with (go_at_call 115; refine (HL.out _ (by go_grown)).mono ?_; rintro e w4 ⟨rfl, hb4⟩; have hN4 := onB (W0 := w) (by go_grown) hb4; obtain ⟨-, x1, x2⟩ := HH.out _ hN4; clear hb4)) | fail
  all_goals go_wp2_with fail
  all_goals go_ret
  all_goals exact ⟨rfl, by go_grown⟩
 ·rw [hl] at HL
  go_enter Tryz.func147, Tryz.ntmps147
  go_wp2_with fail
  go_region_held3 (fun w' => Below w.heap.size w w' ∧ w'.cell? ⟨q, 2, none⟩ = some (.slice (some ⟨b, o, none⟩) n cap) ∧ w'.cell? ⟨r, 0, none⟩ = some (.int .i64 i))
   ((refine HH.out _ ?_; go_grown; done))
   ((first
    | (go_at_call 115; refine (HL.out _ (by go_grown)).mono ?_; rintro e w4 ⟨rfl, hb4⟩; have hN4 := onB (W0 := w) (by go_grown) hb4; clear hb4)
    | (go_at_call 148; refine (HP.out _ (by go_grown)).mono ?_; rintro e w5 ⟨⟨Ap, cp, rfl, hI⟩, hb5⟩; have hN5 := onB (W0 := w) (by go_grown) hb5; clear hb5)
    | (go_at_call 43; refine (HC.out _ _ _ (by assumption)).mono ?_; rintro e w6 ⟨rfl, hb6⟩; have hN6 := onB (W0 := w) (by go_grown) hb6; clear hb6)))
  all_goals go_wp2_with fail
  all_goals go_ret
  all_goals exact ⟨rfl, by assumption⟩
end Go.Proofs.YtjffbmejobjmjafGreatDoor

