/-
 What is told at the place of a number, as package solve tells it (at): one step, and by induction all.
-/
import Derived.Test.YtjffbmejobjmjafGreatDoorJBBQ
namespace Go.Proofs.YtjffbmejobjmjafGreatDoor
open Go.ChangeShapes Go.WideShapes Go.ChangeAt Go.RowKit
set_option maxRecDepth 20000

def atW (w : World) (qc x : Nat) : World := ((w.alloc (.cells #[.pointer (some ⟨qc, 0, none⟩)] 117)).alloc (.cells #[.int .i64 x] 3)).alloc (.cells #[.int .i64 0, .int .i64 0] 48)
theorem atW_size (w : World) (qc x : Nat) : (atW w qc x).heap.size = w.heap.size + 3 := by unfold atW; simp
theorem atW_below (w : World) (qc x : Nat) : Below w.heap.size w (atW w qc x) := by unfold atW; go_grown
theorem atW_0 (w : World) (qc x : Nat) : (atW w qc x).heap[w.heap.size]? = some (.cells #[.pointer (some ⟨qc, 0, none⟩)] 117 (0, 0)) := by
 unfold atW
 rw [heap_alloc_old _ _ (by simp; omega), heap_alloc_old _ _ (by simp)]
 exact heap_alloc_new ..
theorem atW_1 (w : World) (qc x : Nat) : (atW w qc x).heap[w.heap.size + 1]? = some (.cells #[.int .i64 x] 3 (0, 0)) := by
 unfold atW
 rw [heap_alloc_old _ _ (by simp)]
 exact topF1 ..
theorem atW_2 (w : World) (qc x : Nat) : (atW w qc x).heap[w.heap.size + 2]? = some (.cells #[.int .i64 0, .int .i64 0] 48 (0, 0)) := by
 unfold atW
 have h := heap_alloc_new ((w.alloc (.cells #[.pointer (some ⟨qc, 0, none⟩)] 117)).alloc (.cells #[.int .i64 x] 3)) (.cells #[.int .i64 0, .int .i64 0] 48)
 simpa using h
def AtC (q0 x qc g n gC cC gT N : Nat) (w : World) : Prop := (q0 + 2 < w.heap.size ∧ w.cell? ⟨q0, 0, none⟩ = some (.pointer (some ⟨qc, 0, none⟩)) ∧ w.cell? ⟨q0 + 1, 0, none⟩ = some (.int .i64 x)) ∧ w.cell? ⟨qc, 0, none⟩ = some (.slice (some ⟨g, 0, none⟩) n n) ∧ w.cell? ⟨qc, 1, none⟩ = some (.slice (some ⟨gC, 0, none⟩) N cC) ∧ w.cell? ⟨qc, 2, none⟩ = some (.slice (some ⟨gT, 0, none⟩) N N) ∧ w.cell? ⟨q0 + 2, 0, none⟩ = some (.int .i64 0) ∧ w.cell? ⟨q0 + 2, 1, none⟩ = some (.int .i64 0) ∧ w.frozen? ⟨q0 + 2, 0, none⟩ = false ∧ w.frozen? ⟨q0 + 2, 1, none⟩ = false
section
variable {wB : World} {qc g n gC cC gT : Nat} {D : Nat → Dm} {A : Nat → Option Addr} {C : Nat → Nat} {X : Nat → AL} {inp : List Int → Int × Int}
theorem at_cells {w w1 : World} {x : Nat} (h : StC wB qc g n gC cC gT D inp w1) (hw : gC < w.heap.size ∧ gT < w.heap.size) (hF : FrC gC gT (atW w qc x) w1) : AtC w.heap.size x qc g n gC cC gT (prodN D n) w1 := by
 have hsz := atW_size w qc x
 have k0 := (hF.block w.heap.size (by omega) (by rintro (e | e) <;> omega)).trans (atW_0 w qc x)
 have k1 := (hF.block (w.heap.size + 1) (by omega) (by rintro (e | e) <;> omega)).trans (atW_1 w qc x)
 have k2 := (hF.block (w.heap.size + 2) (by omega) (by rintro (e | e) <;> omega)).trans (atW_2 w qc x)
 obtain ⟨-, hq, -⟩ := h
 obtain ⟨p0, p1, p2, p3⟩ := pair_at k2
 exact ⟨⟨(Array.getElem?_eq_some_iff.1 k2).1, by simp [World.cell?, k0], by simp [World.cell?, k1]⟩, by simp [World.cell?, hq], by simp [World.cell?, hq], by simp [World.cell?, hq], p0, p1, p2, p3⟩
theorem StC.put {w : World} (h : StC wB qc g n gC cC gT D inp w) {x : Nat} (hx : x < prodN D n) {ra rb : Int} (hv : solV D n inp (placeL D n x) = (ra, rb)) (h1 : wB.heap.size ≤ gC) (h2 : wB.heap.size ≤ gT) : StC wB qc g n gC cC gT D inp (((w.setCell ⟨gC, x * 2, none⟩ (.int .i64 ra)).setCell ⟨gC, x * 2 + 1, none⟩ (.int .i64 rb)).setCell ⟨gT, x, none⟩ (.bool true)) := by
 obtain ⟨n1, n2, n3⟩ := h.ne
 obtain ⟨hB, hq, L, f, hC, hL, hT, hI⟩ := h
 refine ⟨below_set (below_set (below_set hB h1) h1) h2, ?_, L.set x (ra, rb), fun j => if j = x then true else f j, ?_, by rw [List.length_set]; exact hL, ?_, fun j hj => ?_⟩
 ·rw [setCell_off _ _ _ _ _ n2, setCell_off _ _ _ _ _ n1, setCell_off _ _ _ _ _ n1]
  exact hq
 ·exact (hC.set (by omega) ra rb).same (setCell_off _ _ _ _ _ n3)
 ·refine BolB.set (f := f) ?_ fun j _ => rfl
  unfold BolB at hT ⊢
  rw [setCell_off _ _ _ _ _ n3.symm, setCell_off _ _ _ _ _ n3.symm]
  exact hT
 ·by_cases e : j = x
  ·subst e
   refine ⟨fun _ => ?_, fun h => by simp at h⟩
   rw [List.getD_eq_getElem?_getD, List.getElem?_set_self (by omega)]
   exact hv.symm
  ·simp only [if_neg e]
   rw [List.getD_eq_getElem?_getD, List.getElem?_set_ne (fun h => e h.symm), ← List.getD_eq_getElem?_getD]
   exact hI j hj
theorem frC_put {w y : World} {x : Nat} {a b c : Value} (h : FrC gC gT w y) : FrC gC gT w (((y.setCell ⟨gC, x * 2, none⟩ a).setCell ⟨gC, x * 2 + 1, none⟩ b).setCell ⟨gT, x, none⟩ c) := ⟨h.os, h.tape, h.output, by simp only [World.size_setCell]; exact h.size, fun i hi hx => by
 rw [setCell_off _ _ _ _ _ (fun e => hx (Or.inr e)), setCell_off _ _ _ _ _ (fun e => hx (Or.inl e)), setCell_off _ _ _ _ _ (fun e => hx (Or.inl e))]
 exact h.block i hi hx⟩

set_option maxHeartbeats 16000000 in
theorem at_told (hX : CtxA wB qc g n gC cC gT D A C X inp) (x : Nat) (w : World) (hx : x < prodN D n) (hS : StC wB qc g n gC cC gT D inp w) (ra rb : Int)
  (hC : w.cell? ⟨gC, x * 2, none⟩ = some (.int .i64 ra) ∧ w.cell? ⟨gC, x * 2 + 1, none⟩ = some (.int .i64 rb)) (hT : w.cell? ⟨gT, x, none⟩ = some (.bool true)) :
  Calls Tryz.prog 33 #[.pointer (some ⟨qc, 0, none⟩), .int .i64 x] w fun e w' => e = .returned (.tuple #[.agg #[.int .i64 ra, .int .i64 rb], .nilIface]) ∧ StC wB qc g n gC cC gT D inp w' ∧ FrC gC gT w w' := by
 obtain ⟨-, -, hp3, -⟩ := allErr_some hX.hE
 obtain ⟨l1, l2, l3, -⟩ := hS.lts
 have hB0 := atW_below w qc x
 have hSW := hS.next hS hB0
 obtain ⟨⟨hq2, a0, a1⟩, a2, a3, a4, a5, a6, a7, a8⟩ := at_cells hSW ⟨l2, l3⟩ (FrC.refl _ _ _)
 have b0 := (hB0.cell (p := ⟨gC, x * 2, none⟩) l2).trans hC.1
 have b1 := (hB0.cell (p := ⟨gC, x * 2 + 1, none⟩) l2).trans hC.2
 have b2 := (hB0.cell (p := ⟨gT, x, none⟩) l3).trans hT
 obtain ⟨W, hW⟩ : ∃ W, atW w qc x = W := ⟨_, rfl⟩
 rw [hW] at hB0 hSW hq2 a0 a1 a2 a3 a4 a5 a6 a7 a8 b0 b1 b2
 unfold atW at hW
 have hcc := hX.hcc
 generalize prodN D n = N at *
 have hNI : (N : Int) ≤ 3000 := by omega
 have hxI : (x : Int) < (N : Int) := by omega
 have hcI : (N : Int) ≤ (cC : Int) := by omega
 have l1' : qc < W.heap.size := Nat.lt_of_lt_of_le l1 hB0.size
 have l2' : gC < W.heap.size := Nat.lt_of_lt_of_le l2 hB0.size
 have l3' : gT < W.heap.size := Nat.lt_of_lt_of_le l3 hB0.size
 have HB0 : Hid (Below w.heap.size w W) := hB0
 have HS : Hid (StC wB qc g n gC cC gT D inp w) := hS
 have HSW : Hid (StC wB qc g n gC cC gT D inp W) := hSW
 clear hB0 hS hSW hX hC hT hcc hp3
 go_enter Tryz.func33, Tryz.ntmps33
 go_wp2_with fail
 go_quiet (fail)
 go_wp2_with fail
 go_region
 go_wp2_with fail
 refine bodyPost_ret (v := .tuple #[.agg #[.int .i64 ra, .int .i64 rb], .nilIface]) (by simp [results, Tryz.results33, go_sem, a5, a6]) rfl ⟨rfl, ?_, ?_⟩
 ·exact HS.out.next HSW.out (((below_drewN (Below.refl _ _) _).setCell (by simp; omega) _).setCell (by simp; omega) _)
 ·exact frC_then (frC_below HB0.out) (((below_drewN (Below.refl _ _) _).setCell (by simp; omega) _).setCell (by simp; omega) _)

set_option maxHeartbeats 16000000 in
theorem at_new (hX : CtxA wB qc g n gC cC gT D A C X inp) (x : Nat) (w : World) (hx : x < prodN D n) (hS : StC wB qc g n gC cC gT D inp w)
  (hT : w.cell? ⟨gT, x, none⟩ = some (.bool false)) (hC : w.cell? ⟨gC, x * 2, none⟩ = some (.int .i64 (inp (placeL D n x)).1) ∧ w.cell? ⟨gC, x * 2 + 1, none⟩ = some (.int .i64 (inp (placeL D n x)).2))
  (ih : ∀ (y : Nat) (w1 : World), y < prodN D n → msrTo D (placeL D n y) n < msrTo D (placeL D n x) n → StC wB qc g n gC cC gT D inp w1 → Calls Tryz.prog 33 #[.pointer (some ⟨qc, 0, none⟩), .int .i64 y] w1 fun e w2 => e = .returned (.tuple #[.agg #[.int .i64 (solV D n inp (placeL D n y)).1, .int .i64 (solV D n inp (placeL D n y)).2], .nilIface]) ∧ StC wB qc g n gC cC gT D inp w2 ∧ FrC gC gT w1 w2) :
  Calls Tryz.prog 33 #[.pointer (some ⟨qc, 0, none⟩), .int .i64 x] w fun e w' => e = .returned (.tuple #[.agg #[.int .i64 (solV D n inp (placeL D n x)).1, .int .i64 (solV D n inp (placeL D n x)).2], .nilIface]) ∧ StC wB qc g n gC cC gT D inp w' ∧ FrC gC gT w w' := by
 obtain ⟨hn1, hn4, hp3, hd⟩ := allErr_some hX.hE
 obtain ⟨l1, l2, l3, -⟩ := hS.lts
 have hB0 := atW_below w qc x
 have hSW := hS.next hS hB0
 have HAC : Hid (∀ w1, StC wB qc g n gC cC gT D inp w1 → FrC gC gT (atW w qc x) w1 → AtC w.heap.size x qc g n gC cC gT (prodN D n) w1) := fun w1 h1 h2 => at_cells h1 ⟨l2, l3⟩ h2
 obtain ⟨⟨hq2, a0, a1⟩, a2, a3, a4, a5, a6, a7, a8⟩ := HAC.out _ hSW (FrC.refl _ _ _)
 have b0 := (hB0.cell (p := ⟨gC, x * 2, none⟩) l2).trans hC.1
 have b1 := (hB0.cell (p := ⟨gC, x * 2 + 1, none⟩) l2).trans hC.2
 have b2 := (hB0.cell (p := ⟨gT, x, none⟩) l3).trans hT
 obtain ⟨W, hW⟩ : ∃ W, atW w qc x = W := ⟨_, rfl⟩
 rw [hW] at hB0 hSW hq2 a0 a1 a2 a3 a4 a5 a6 a7 a8 b0 b1 b2 HAC
 unfold atW at hW
 have hcc := hX.hcc
 have HX : Hid (CtxA wB qc g n gC cC gT D A C X inp) := hX
 have HD : Hid (∀ i, i < n → 1 ≤ (D i).n ∧ (D i).n ≤ 12) := hd
 have HIh : Hid (∀ (y : Nat) (w1 : World), y < prodN D n → msrTo D (placeL D n y) n < msrTo D (placeL D n x) n → StC wB qc g n gC cC gT D inp w1 → Calls Tryz.prog 33 #[.pointer (some ⟨qc, 0, none⟩), .int .i64 y] w1 fun e w2 => e = .returned (.tuple #[.agg #[.int .i64 (solV D n inp (placeL D n y)).1, .int .i64 (solV D n inp (placeL D n y)).2], .nilIface]) ∧ StC wB qc g n gC cC gT D inp w2 ∧ FrC gC gT w1 w2) := ih
 have HBy : Hid (∀ w1, Below W.heap.size W w1 → Calls Tryz.prog 36 #[.slice (some ⟨g, 0, none⟩) n n, .int .i64 x] w1 fun e w2 => e = .returned (.int .i64 (byTo D (placeL D n x) n)) ∧ Below w1.heap.size w1 w2) := fun w1 h1 => by_any2 g n n D A C X x w1 hX.hE hx (Nat.le_refl _) (hX.hA.later (hSW.next hSW h1).1)
 obtain ⟨N, hN⟩ : ∃ N, prodN D n = N := ⟨_, rfl⟩
 have HN : Hid (prodN D n = N) := hN
 rw [hN] at hx hp3 hcc a3 a4 HAC
 have hNI : (N : Int) ≤ 3000 := by omega
 have hxI : (x : Int) < (N : Int) := by omega
 have hcI : (N : Int) ≤ (cC : Int) := by omega
 have hnI : (n : Int) ≤ 4 := by omega
 have l1' : qc < W.heap.size := Nat.lt_of_lt_of_le l1 hB0.size
 have l2' : gC < W.heap.size := Nat.lt_of_lt_of_le l2 hB0.size
 have l3' : gT < W.heap.size := Nat.lt_of_lt_of_le l3 hB0.size
 have HB0 : Hid (Below w.heap.size w W) := hB0
 have HS : Hid (StC wB qc g n gC cC gT D inp w) := hS
 have HSW : Hid (StC wB qc g n gC cC gT D inp W) := hSW
 have HP : Hid (InO D n (placeL D n x)) := placeL_in hX.hE
 have HKeep : Hid (∀ w1, Below W.heap.size W w1 → w1.cell? ⟨gC, x * 2, none⟩ = some (.int .i64 (inp (placeL D n x)).1) ∧ w1.cell? ⟨gC, x * 2 + 1, none⟩ = some (.int .i64 (inp (placeL D n x)).2) ∧ W.heap.size ≤ w1.heap.size) := fun w1 h => ⟨(h.cell (p := ⟨gC, x * 2, none⟩) l2').trans b0, (h.cell (p := ⟨gC, x * 2 + 1, none⟩) l2').trans b1, h.size⟩
 have HDg : Hid (∀ k, k < n → ((placeL D n x).getD k 0).toNat = x / stepD D n k % (D k).n) := fun k hk => digit_at hk
 have HNum : Hid (∀ b j : Nat, b < n → j < (D b).n → ∃ y : Nat, (x : Int) + ((j : Int) - (x / stepD D n b % (D b).n : Nat)) * (stepD D n b : Int) = y ∧ y < prodN D n ∧ placeL D n y = (placeL D n x).set b j) := fun b j hb hj => set_num hX.hE hb (by rw [hN]; exact hx) hj
 generalize hp : placeL D n x = p at *
 have HPe : Hid (placeL D n x = p) := hp
 clear hp
 clear hB0 hS hSW hX hC hT hcc ih hd hN
 go_enter Tryz.func33, Tryz.ntmps33
 go_wp2_with fail
 go_quiet (fail)
 go_upto_region 3 with fail
 go_cut [6] from 11 (fun s6 wx => s6 = .int .i64 (byTo D p n) ∧ Below W.heap.size W wx)
 case first =>
  go_region_law ((go_simp; refine (HBy.out _ (by first | exact below_drewN (Below.refl _ _) _ | go_grown)).mono ?_; rintro e w3 ⟨rfl, hb3⟩; have hN3 := onB (W0 := W) (by first | exact below_drewN (Below.refl _ _) _ | go_grown) hb3; clear hb3))
  all_goals go_wp2_with fail
  all_goals go_meet
  all_goals exact ⟨rfl, hN3⟩
 case rest =>
 obtain ⟨rfl, hBc⟩ := hcut
 obtain ⟨w1, rfl⟩ : ∃ w1 : World, w1 = wc := ⟨_, rfl⟩
 have HB1 : Hid (Below W.heap.size W w1) := hBc
 have hS1 := HSW.out.next HSW.out hBc
 have HS1 : Hid (StC wB qc g n gC cC gT D inp w1) := hS1
 obtain ⟨⟨hq1, c0, c1⟩, c2, c3, c4, c5, c6, c7, c8⟩ := HAC.out w1 hS1 (frC_below hBc)
 obtain ⟨k0, k1, hsz1⟩ := HKeep.out w1 hBc
 clear a0 a1 a2 a3 a4 a5 a6 a7 a8 b0 b1 b2 hW hBc
 rcases by_in D p n with hneg | ⟨b, hb, hbn⟩
 ·have HV : Hid (solV D n inp p = inp p) := sol_leaf inp (by omega)
  rw [hneg]
  obtain ⟨⟨ra, rb⟩, hR⟩ : ∃ R, inp p = R := ⟨_, rfl⟩
  have HRe : Hid (inp p = (ra, rb)) := hR
  rw [hR] at k0 k1
  simp only at k0 k1
  clear hneg hS1 hR HBy HIh HNum HDg HKeep
  go_wp2_with fail
  go_region
  go_wp2_with fail
  refine bodyPost_ret (v := .tuple #[.agg #[.int .i64 ra, .int .i64 rb], .nilIface]) (by simp [results, Tryz.results33, go_sem, c5, c6]) rfl ⟨by rw [HV.out, HRe.out], ?_, ?_⟩
  ·first
    | exact HS.out.next HS1.out (((below_drewN (Below.refl _ _) _).setCell (by simp; omega) _).setCell (by simp; omega) _)
    | exact HS.out.next HS1.out (((by go_grown : Below w.heap.size w1 w1.drew).setCell (by simp; omega) _).setCell (by simp; omega) _)
  ·first
    | exact frC_then (frC_then (frC_below HB0.out) (below_low HB1.out (by omega))) (((below_drewN (Below.refl _ _) _).setCell (by simp; omega) _).setCell (by simp; omega) _)
    | exact frC_then (frC_then (frC_below HB0.out) (below_low HB1.out (by omega))) (((by go_grown : Below w.heap.size w1 w1.drew).setCell (by simp; omega) _).setCell (by simp; omega) _)
 ·obtain ⟨m, hm⟩ : ∃ m, x / stepD D n b % (D b).n = m := ⟨_, rfl⟩
  obtain ⟨hd1, hd12⟩ := HD.out b hbn
  have hmn : m < (D b).n := by rw [← hm]; exact Nat.mod_lt _ hd1
  have hpm : (p.getD b 0).toNat = m := by rw [HDg.out b hbn, hm]
  have hA1 := HX.out.hA.later hS1.1
  obtain ⟨hg, ⟨x0, x1, x2, x3, x4⟩, hOne⟩ := hA1.one hbn
  obtain ⟨bw, hAw, -, -⟩ := hOne.way hmn
  obtain ⟨-, h0 | ⟨bm, om, hAm, -⟩⟩ := hA1.2 b hbn
  ·omega
  rw [hAm] at x2
  rw [hAw] at x4
  have hRb := HX.out.hR b hbn
  have hmf : ∀ (fn : Fn) (first cap : Array Value) (w : World), (Instr.makeFunc fn first cap).run Tryz.prog w = .ok (.func fn first cap) w := fun _ _ _ _ => rfl
  have hSp := stepD_pos (fun i hi => (HD.out i hi).1) hbn
  obtain ⟨S, hSd⟩ : ∃ S, stepD D n b = S := ⟨_, rfl⟩
  have HMb : Hid (∀ w', Calls Tryz.prog 66 #[.agg #[.string (D b).name, .int .i64 (D b).solve, .slice (some ⟨bm, om, none⟩) (D b).n (C b), .int .i64 S, .slice (some ⟨bw, 0, none⟩) (D b).n (X b).c], .int .i64 x] w' fun e w'' => e = .returned (.int .i64 m) ∧ Below w'.heap.size w' w'') := fun w' => by
   have h := member_any2 (D b) (A b) (C b) S (X b) x m w' (by rw [← hSd]; exact hSp) hd1 hd12 (by omega) (by rw [← hSd]; exact hm)
   unfold axV at h
   rw [hAw, hAm] at h
   exact h
  have HV : Hid (solV D n inp p = oneV (D b) (fun z => solV D n inp (p.set b z)) m) := by
   have h := sol_by HX.out.hR inp HP.out hb
   rw [hpm] at h
   exact h
  have HRk : Hid (∀ z ∈ mNd (D b) m, ∃ j : Nat, z = (j : Int) ∧ j < (D b).n ∧ InO D n (p.set b z) ∧ msrTo D (p.set b z) n < msrTo D p n) := fun z hz => by
   have hxi := mNd_in hz
   have hp0 := HP.out.lo b hbn
   have hrk := rk_less hRb hmn hz
   rw [← hpm, Int.toNat_of_nonneg hp0] at hrk
   exact ⟨z.toNat, by omega, by omega, inO_set HP.out hbn hxi.1 hxi.2, (msr_less (by rw [HP.out.len]; exact hbn) hrk n).2 hbn⟩
  obtain ⟨y1, hy1⟩ : ∃ y, w1.alloc (.cells #[.string (D b).name, .int .i64 (D b).solve, .slice (some ⟨bm, om, none⟩) (D b).n (C b), .int .i64 S, .slice (some ⟨bw, 0, none⟩) (D b).n (X b).c] 114) = y := ⟨_, rfl⟩
  have hyb : y1.heap[w1.heap.size]? = some (.cells #[.string (D b).name, .int .i64 (D b).solve, .slice (some ⟨bm, om, none⟩) (D b).n (C b), .int .i64 S, .slice (some ⟨bw, 0, none⟩) (D b).n (X b).c] 114 (0, 0)) := by rw [← hy1]; exact heap_alloc_new ..
  have hBy1 : Below w1.heap.size w1 y1 := by rw [← hy1]; go_grown
  have HBy1 : Hid (Below w1.heap.size w1 y1) := hBy1
  have HYb : Hid (y1.heap[w1.heap.size]? = some (.cells #[.string (D b).name, .int .i64 (D b).solve, .slice (some ⟨bm, om, none⟩) (D b).n (C b), .int .i64 S, .slice (some ⟨bw, 0, none⟩) (D b).n (X b).c] 114 (0, 0))) := hyb
  have hy1s : w1.heap.size < y1.heap.size := (Array.getElem?_eq_some_iff.1 hyb).1
  have v0 : y1.cell? ⟨w1.heap.size, 0, none⟩ = some (.string (D b).name) := by simp [World.cell?, hyb]
  have v1 : y1.cell? ⟨w1.heap.size, 1, none⟩ = some (.int .i64 (D b).solve) := by simp [World.cell?, hyb]
  have v2 : y1.cell? ⟨w1.heap.size, 2, none⟩ = some (.slice (some ⟨bm, om, none⟩) (D b).n (C b)) := by simp [World.cell?, hyb]
  have v3 : y1.cell? ⟨w1.heap.size, 3, none⟩ = some (.int .i64 S) := by simp [World.cell?, hyb]
  have v4 : y1.cell? ⟨w1.heap.size, 4, none⟩ = some (.slice (some ⟨bw, 0, none⟩) (D b).n (X b).c) := by simp [World.cell?, hyb]
  have d1 := (hBy1.cell (p := ⟨w.heap.size + 1, 0, none⟩) (by show w.heap.size + 1 < _; omega)).trans c1
  have HTell : Hid (∀ w2 : World, Below y1.heap.size y1 w2 → ∀ y2 : World, w2.alloc (.cells #[.int .i64 m] 3) = y2 → Calls Tryz.prog 67 #[.agg #[.string (D b).name, .int .i64 (D b).solve, .slice (some ⟨bm, om, none⟩) (D b).n (C b), .int .i64 S, .slice (some ⟨bw, 0, none⟩) (D b).n (X b).c], .int .i64 m, .func (.func 68) #[] #[.pointer (some ⟨w.heap.size, 0, none⟩), .pointer (some ⟨w.heap.size + 1, 0, none⟩), .pointer (some ⟨w2.heap.size, 0, none⟩), .pointer (some ⟨w1.heap.size, 0, none⟩)]] y2 fun e w' => e = .returned (.tuple #[.agg #[.int .i64 (solV D n inp p).1, .int .i64 (solV D n inp p).2], .nilIface]) ∧ StC wB qc g n gC cC gT D inp w' ∧ FrC gC gT y2 w') := by
   intro w2 hb2 y2 hy2
   have hBy2 : Below w2.heap.size w2 y2 := by rw [← hy2]; go_grown
   have hmb : y2.heap[w2.heap.size]? = some (.cells #[.int .i64 m] 3 (0, 0)) := by rw [← hy2]; exact heap_alloc_new ..
   have hS2 : StC wB qc g n gC cC gT D inp y2 := HS1.out.next HS1.out (onB hBy1 (onB hb2 hBy2))
   obtain ⟨-, m2, m3, -⟩ := hS1.lts
   have s1 := hBy1.size
   have s2 := hb2.size
   have s3 := hBy2.size
   have hab := (hBy2.block w1.heap.size (by omega)).trans ((hb2.block w1.heap.size hy1s).trans hyb)
   have h := tell_any (StC wB qc g n gC cC gT D inp) gC gT 68 w.heap.size (w.heap.size + 1) w2.heap.size w1.heap.size at1_in bm om (C b) S (X b) (D b) m (fun z => solV D n inp (p.set b z)) y2 hRb hmn (by omega) (by omega) hS2 (fun a c h1 _ h2 => hS2.next h1 h2)
    (fun a h1 => ⟨((HX.out.hA.later h1.1).one hbn).2.2, by have := (HX.out.hA.later h1.1).2 b hbn; rw [hAm] at this; exact this⟩)
    (fun z hz => by obtain ⟨j, -, -, h1, -⟩ := HRk.out z hz; exact good_sol HX.out.hR HX.out.hg _ _ h1 (Nat.lt_succ_self _))
    (fun z hz w' hS' hF' => by
     obtain ⟨j, rfl, hj, h1, h2⟩ := HRk.out z hz
     obtain ⟨y, e1, e2, e3⟩ := HNum.out b j hbn hj
     rw [hm, hSd] at e1
     obtain ⟨⟨-, t0, t1⟩, -⟩ := HAC.out w' hS' ((frC_below HB1.out).trans ((frC_below (onB hBy1 (onB hb2 hBy2))).trans hF'))
     have hmb' := (hF'.block w2.heap.size (by have := (Array.getElem?_eq_some_iff.1 hmb).1; omega) (by rintro (e | e) <;> omega)).trans hmb
     have hab' := (hF'.block w1.heap.size (by omega) (by rintro (e | e) <;> omega)).trans hab
     obtain ⟨-, m2', m3', -⟩ := hS'.lts
     have s4 := hF'.size
     refine at1_any (StC wB qc g n gC cC gT D inp) gC gT qc w.heap.size (w.heap.size + 1) w2.heap.size w1.heap.size x m S y j _ _ w' (fun a c h1 _ h2 => hS'.next h1 h2) hS' m2' m3' (by omega) (by omega) (by have := (Array.getElem?_eq_some_iff.1 hmb').1; omega) (by omega) t0 t1 (by simp [World.cell?, hmb']) (by simp [World.cell?, hab']) (by omega) (by omega) (by omega) e1 (by have := HN.out; omega) fun a h3 _ => ?_
     have h4 := HIh.out y a e2 (by rw [e3]; exact h2) h3
     rw [e3] at h4
     exact h4)
   unfold axV at h
   rw [hAw, ← HV.out] at h
   exact h
  obtain ⟨⟨ra, rb⟩, hR⟩ : ∃ R, solV D n inp p = R := ⟨_, rfl⟩
  have HRe : Hid (solV D n inp p = (ra, rb)) := hR
  rw [hR] at HTell
  simp only at HTell
  have hbI : (b : Int) < (n : Int) := by omega
  have hb0 : ((b : Int) == -1) = false := by simp
  rw [hSd] at x3
  rw [hb]
  clear hm hpm hA1 hOne hAw hAm hRb hSp hSd HV HRk hyb hBy1 hS1 hR hb HBy HIh HNum HDg HKeep k0 k1
  go_wp2_with fail
  refine (HMb.out _).mono ?_
  rintro e w2 ⟨rfl, hb2⟩
  have HB2 : Hid (Below y1.heap.size y1 w2) := hb2
  obtain ⟨y2, hy2⟩ : ∃ y, w2.alloc (.cells #[.int .i64 m] 3) = y := ⟨_, rfl⟩
  have hBy2 : Below w2.heap.size w2 y2 := by rw [← hy2]; go_grown
  have hmb : y2.heap[w2.heap.size]? = some (.cells #[.int .i64 m] 3 (0, 0)) := by rw [← hy2]; exact heap_alloc_new ..
  have hab := (hBy2.block w1.heap.size (by have := hb2.size; omega)).trans ((hb2.block w1.heap.size hy1s).trans HYb.out)
  have u0 : y2.cell? ⟨w1.heap.size, 0, none⟩ = some (.string (D b).name) := by simp [World.cell?, hab]
  have u1 : y2.cell? ⟨w1.heap.size, 1, none⟩ = some (.int .i64 (D b).solve) := by simp [World.cell?, hab]
  have u2 : y2.cell? ⟨w1.heap.size, 2, none⟩ = some (.slice (some ⟨bm, om, none⟩) (D b).n (C b)) := by simp [World.cell?, hab]
  have u3 : y2.cell? ⟨w1.heap.size, 3, none⟩ = some (.int .i64 S) := by simp [World.cell?, hab]
  have u4 : y2.cell? ⟨w1.heap.size, 4, none⟩ = some (.slice (some ⟨bw, 0, none⟩) (D b).n (X b).c) := by simp [World.cell?, hab]
  have u5 : y2.cell? ⟨w2.heap.size, 0, none⟩ = some (.int .i64 m) := by simp [World.cell?, hmb]
  have htl := HTell.out w2 hb2 y2 hy2
  have HBy2 : Hid (Below w1.heap.size w1 y2) := onB HBy1.out (onB hb2 hBy2)
  have hsy2 : w2.heap.size < y2.heap.size := (Array.getElem?_eq_some_iff.1 hmb).1
  have hs12 := HBy2.out.size
  clear hb2 hBy2 hmb hab v0 v1 v2 v3 v4 d1 x0 x1 x2 x3 x4 hy1 HTell
  go_wp2_with fail
  refine htl.mono ?_
  rintro e w3 ⟨rfl, hS3, hF3⟩
  obtain ⟨y3, hy3⟩ : ∃ y, w3.alloc (.cells #[.int .i64 ra, .int .i64 rb] 48) = y := ⟨_, rfl⟩
  have hBy3 : Below w3.heap.size w3 y3 := by rw [← hy3]; go_grown
  have hvb : y3.heap[w3.heap.size]? = some (.cells #[.int .i64 ra, .int .i64 rb] 48 (0, 0)) := by rw [← hy3]; exact heap_alloc_new ..
  have hSy : StC wB qc g n gC cC gT D inp y3 := hS3.next hS3 hBy3
  have HSy : Hid (StC wB qc g n gC cC gT D inp y3) := hSy
  have hFy : FrC gC gT W y3 := (frC_below HB1.out).trans ((frC_below HBy2.out).trans (hF3.trans (frC_below hBy3)))
  have HFy : Hid (FrC gC gT W y3) := hFy
  obtain ⟨⟨hq3, e0, e1⟩, -, e3, e4, e5, e6, e7, e8⟩ := HAC.out y3 hSy hFy
  obtain ⟨z0, z1, -, -⟩ := pair_at hvb
  obtain ⟨j1, j2, j3, -⟩ := hSy.lts
  obtain ⟨n1, n2, n3⟩ := hSy.ne
  have HVb : Hid (y3.heap[w3.heap.size]? = some (.cells #[.int .i64 ra, .int .i64 rb] 48 (0, 0))) := hvb
  obtain ⟨-, -, Lx, fx, hCx, hLx, hTx, -⟩ := hSy
  rw [HN.out] at hLx hTx
  obtain ⟨r0, r1⟩ := hCx.at (k := x) (by omega)
  have r2 := hTx.cell hx
  have f0 := hCx.frozen (x * 2)
  have f1 := hCx.frozen (x * 2 + 1)
  have f2 := hTx.frozen x
  have hws : w3.heap.size < y3.heap.size := (Array.getElem?_eq_some_iff.1 hvb).1
  have hgl : gC < w3.heap.size ∧ gT < w3.heap.size ∧ w.heap.size + 2 < w3.heap.size := by
   obtain ⟨-, k2, k3, -⟩ := hS3.lts
   have := hF3.size
   exact ⟨k2, k3, by omega⟩
  obtain ⟨hgl1, hgl2, hgl3⟩ := hgl
  clear hS3 hF3 hBy3 hvb hFy hCx hLx hTx htl u0 u1 u2 u3 u4 u5 hy2 c0 c1 c2 c3 c4 c5 c6 c7 c8
  go_upto_region 11 with fail
  clear hy3
  go_cut [] from 61 (fun wx => StC wB qc g n gC cC gT D inp wx ∧ FrC gC gT W wx ∧ wx.heap[w3.heap.size]? = some (.cells #[.int .i64 ra, .int .i64 rb] 48 (0, 0)))
  case first =>
   have HFin : Hid (StC wB qc g n gC cC gT D inp (((y3.setCell ⟨gC, x * 2, none⟩ (.int .i64 ra)).setCell ⟨gC, x * 2 + 1, none⟩ (.int .i64 rb)).setCell ⟨gT, x, none⟩ (.bool true)) ∧ FrC gC gT W (((y3.setCell ⟨gC, x * 2, none⟩ (.int .i64 ra)).setCell ⟨gC, x * 2 + 1, none⟩ (.int .i64 rb)).setCell ⟨gT, x, none⟩ (.bool true)) ∧ (((y3.setCell ⟨gC, x * 2, none⟩ (.int .i64 ra)).setCell ⟨gC, x * 2 + 1, none⟩ (.int .i64 rb)).setCell ⟨gT, x, none⟩ (.bool true)).heap[w3.heap.size]? = some (.cells #[.int .i64 ra, .int .i64 rb] 48 (0, 0))) := by
    refine ⟨HSy.out.put (by rw [HN.out]; exact hx) (by rw [HPe.out]; exact HRe.out) HX.out.hC HX.out.hT, frC_put HFy.out, ?_⟩
    rw [setCell_off _ _ _ _ _ (by omega), setCell_off _ _ _ _ _ (by omega), setCell_off _ _ _ _ _ (by omega)]
    exact HVb.out
   go_region
   all_goals go_wp2_with fail
   all_goals go_meet
   all_goals exact ⟨HFin.out.1.drew, frC_drew HFin.out.2.1, HFin.out.2.2⟩
  case rest =>
   obtain ⟨hSz, hFz, hvz⟩ := hcut
   obtain ⟨w5, rfl⟩ : ∃ w5 : World, w5 = wc := ⟨_, rfl⟩
   obtain ⟨⟨hq5, -, -⟩, -, -, -, i5, i6, i7, i8⟩ := HAC.out w5 hSz hFz
   obtain ⟨o0, o1, -, -⟩ := pair_at hvz
   have HSz : Hid (StC wB qc g n gC cC gT D inp w5) := hSz
   have HFz : Hid (FrC gC gT W w5) := hFz
   have hlt5 : w3.heap.size < w5.heap.size := (Array.getElem?_eq_some_iff.1 hvz).1
   clear hSz hFz hvz e0 e1 e3 e4 e5 e6 e7 e8 z0 z1 r0 r1 r2 f0 f1 f2
   go_wp2_with fail
   refine bodyPost_ret (v := .tuple #[.agg #[.int .i64 ra, .int .i64 rb], .nilIface]) (by simp [results, Tryz.results33, go_sem, i5, i6]) rfl ⟨by rw [HRe.out], ?_, ?_⟩
   ·exact HS.out.next HSz.out (((Below.refl _ _).setCell (by simp; omega) _).setCell (by simp; omega) _)
   ·exact frC_then ((frC_below HB0.out).trans HFz.out) (((Below.refl _ _).setCell (by simp; omega) _).setCell (by simp; omega) _)

theorem at_all (hX : CtxA wB qc g n gC cC gT D A C X inp) : ∀ (F x : Nat) (w : World), x < prodN D n → msrTo D (placeL D n x) n < F → StC wB qc g n gC cC gT D inp w → Calls Tryz.prog 33 #[.pointer (some ⟨qc, 0, none⟩), .int .i64 x] w fun e w2 => e = .returned (.tuple #[.agg #[.int .i64 (solV D n inp (placeL D n x)).1, .int .i64 (solV D n inp (placeL D n x)).2], .nilIface]) ∧ StC wB qc g n gC cC gT D inp w2 ∧ FrC gC gT w w2 := by
 intro F
 induction F with
 | zero => intro x w _ h; omega
 | succ F ihF =>
  intro x w hx hF hS
  obtain ⟨-, -, L, f, hC, hL, hT, hI⟩ := id hS
  have hc := hC.at (k := x) (by omega)
  have ht := hT.cell hx
  cases hf : f x with
  | true =>
   rw [(hI x hx).1 hf] at hc
   rw [hf] at ht
   exact at_told hX x w hx hS _ _ hc ht
  | false =>
   rw [(hI x hx).2 hf] at hc
   rw [hf] at ht
   exact at_new hX x w hx hS ht hc fun y w1 hy hm h => ihF y w1 hy (by omega) h
end
end Go.Proofs.YtjffbmejobjmjafGreatDoor

