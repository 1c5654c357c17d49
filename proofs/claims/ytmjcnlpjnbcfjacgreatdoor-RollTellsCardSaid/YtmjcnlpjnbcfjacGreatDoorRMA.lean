/-
  The leafs of a place's members, dim by dim: what leafs of package roll answers, called in whatever memory: a row of lists, in new memory; or what is wrong with the place.
  How members count in a place's members, dim by dim, laid out: what weights of package roll answers, called in whatever memory.
  The product of what a place's members count, and what comes of entries at a place: what product and Value of package roll answer, called in whatever memory.
  How leafs count in a place: what anyOf and Weight of package roll answer, called in whatever memory.
  Two places put together: what slices.Grow of nothing and slices.Concat answer, called in whatever memory: a place in a block of ints of its own.
  Rows of places in memory; places, each with each member behind it, and the leafs of a place: what longer and Leafs of package roll answer, called in whatever memory.
  The document's own weight of a leaf and its own leafs (tallyref1.Weight, tallyref1.Leafs).
  How a place counts in another one, as the document reckons it: what its PlaceWeight answers, called in whatever memory.
  What tallysame.Place answers, called in whatever memory: whether two places are the same, one of them of no more than four numbers.
  The leafs of a place, as the document reckons them: what its RollLeafs answers, and what tallysame.Places answers of the same places, called in whatever memory.
  What comes of entries at a place, as the document reckons it: what its Roll answers, called in whatever memory.
-/
import Derived.Test.YtmjcnlpjnbcfjacGreatDoorTree9
import Derived.Test.YtmjcnlpjnbcfjacGreatDoorPl4
import Derived.Test.YtmjcnlpjnbcfjacGreatDoorRoll2
import Derived.Deep.RegionHeld3
import Derived.Deep.DeepCutAuto
import Derived.Test.YtmjcnlpjnbcfjacGreatDoorInpE
import Derived.Test.YtmjcnlpjnbcfjacGreatDoorOwn1
import Derived.Test.YtmjcnlpjnbcfjacGreatDoorOpen
import Derived.Lib.SliceRun
import Derived.Lib.AppendZerosOnto
import Derived.OwnWalk
import Derived.Laws.AppendOwnNone
import Derived.Test.YtmjcnlpjnbcfjacGreatDoorTree3
import Derived.Test.YtmjcnlpjnbcfjacGreatDoorTreeR1
import Derived.Test.YtmjcnlpjnbcfjacGreatDoorRoll1
import Derived.Test.YtmjcnlpjnbcfjacGreatDoorInp2
import Derived.Test.YtmjcnlpjnbcfjacGreatDoorPl2
import Derived.Deep.CutBlock
import Derived.Deep.QuietTactic
import Derived.BigQuiet
import Derived.WalkSmall
import Derived.Test.YtmjcnlpjnbcfjacGreatDoorPlR1
import Derived.Test.YtmjcnlpjnbcfjacGreatDoorRefOS
import Derived.Deep.RegionLaw
namespace Go.Proofs.YtmjcnlpjnbcfjacGreatDoor
open Go.ChangeShapes Go.WideShapes Go.ChangeAt Go.RowKit
set_option maxRecDepth 20000

/-- a row of a call's own of slices of ints: those ahead of k hold their lists -/
def SlB (w : World) (g n k : Nat) (L : Nat → List Int) : Prop := ∃ cur : Array Value, w.heap[g]? = some (.cells cur 26 (0, 0)) ∧ cur.size = n ∧ ∀ j, j < n → ∃ A l c, cur[j]? = some (.slice A l c) ∧ (j < k → l = (L j).length ∧ IntsAt w A c (L j))
section
variable {w w' : World} {g n k : Nat} {L : Nat → List Int}
theorem SlB.lt (h : SlB w g n k L) : g < w.heap.size := by
  obtain ⟨cur, h1, _⟩ := h
  exact (Array.getElem?_eq_some_iff.1 h1).1
theorem SlB.at (h : SlB w g n k L) {j : Nat} (hj : j < n) : ∃ A l c, w.cell? ⟨g, j, none⟩ = some (.slice A l c) ∧ (j < k → l = (L j).length ∧ IntsAt w A c (L j)) := by
  obtain ⟨cur, h1, h2, h3⟩ := h
  obtain ⟨A, l, c, h4, h5⟩ := h3 j hj
  exact ⟨A, l, c, by simp [World.cell?, h1, h4], h5⟩
theorem SlB.get (h : SlB w g n n L) {j : Nat} (hj : j < n) : ∃ A c, w.cell? ⟨g, j, none⟩ = some (.slice A (L j).length c) ∧ IntsAt w A c (L j) := by
  obtain ⟨A, l, c, h1, h2⟩ := h.at hj
  obtain ⟨rfl, h3⟩ := h2 hj
  exact ⟨A, c, h1, h3⟩
theorem SlB.frozen (h : SlB w g n k L) (j : Nat) : w.frozen? ⟨g, j, none⟩ = false := by
  obtain ⟨cur, h1, _⟩ := h
  exact Lib.frozen_of_heap h1 j
theorem SlB.later (h : SlB w g n k L) (hB : Below w.heap.size w w') : SlB w' g n k L := by
  have hlt := h.lt
  obtain ⟨cur, h1, h2, h3⟩ := h
  refine ⟨cur, (hB.block g hlt).trans h1, h2, fun j hj => ?_⟩
  obtain ⟨A, l, c, h4, h5⟩ := h3 j hj
  exact ⟨A, l, c, h4, fun hk => ⟨(h5 hk).1, (h5 hk).2.later hB⟩⟩
/-- a list that is read lies in another block than a row of slices -/
theorem IntsAt.off {A : Option Addr} {c : Nat} {X : List Int} {cur : Array Value} {T : Nat} (h : IntsAt w A c X) (hg : w.heap[g]? = some (.cells cur T (0, 0))) (hs : ∀ x y, cur[0]? = some (.int x y) → False) (hb : ∀ i, i < w.heap.size → i ≠ g → w'.heap[i]? = w.heap[i]?) (hz : w.heap.size ≤ w'.heap.size) : IntsAt w' A c X := by
  obtain ⟨h1, h2 | ⟨b, h2, h3, h4⟩⟩ := h
  · exact ⟨h1, Or.inl h2⟩
  · by_cases h0 : X.length = 0
    · exact ⟨h1, Or.inl (List.eq_nil_of_length_eq_zero h0)⟩
    · have hne : b ≠ g := fun e => by
        have := h4 0 (by omega)
        rw [e] at this
        simp only [World.cell?, hg] at this
        exact hs _ _ this
      exact ⟨h1, Or.inr ⟨b, h2, Nat.lt_of_lt_of_le h3 hz, fun j hj => (World.cell?_of_block (a := ⟨b, j, none⟩) (hb b h3 hne)).trans (h4 j hj)⟩⟩
theorem SlB.set (h : SlB w g n k L) (hk : k < n) {A : Option Addr} {c : Nat} (hI : IntsAt w A c (L k)) : SlB (w.setCell ⟨g, k, none⟩ (.slice A (L k).length c)) g n (k + 1) L := by
  obtain ⟨cur, h1, h2, h3⟩ := h
  have hs : ∀ x y, cur[0]? = some (.int x y) → False := fun x y e => by
    obtain ⟨A, l, c, h4, -⟩ := h3 0 (by omega)
    rw [h4] at e
    cases e
  have hb : ∀ i, i < w.heap.size → i ≠ g → (w.setCell ⟨g, k, none⟩ (.slice A (L k).length c)).heap[i]? = w.heap[i]? := fun i _ hi => Below.heap_setCell w ⟨g, k, none⟩ _ i hi
  have hz : w.heap.size ≤ (w.setCell ⟨g, k, none⟩ (.slice A (L k).length c)).heap.size := by simp [World.setCell]
  refine ⟨cur.setIfInBounds k (.slice A (L k).length c), by simp [World.setCell, Array.getElem?_modify, h1], by simpa using h2, fun j hj => ?_⟩
  by_cases e : j = k
  · subst e
    exact ⟨A, _, c, by simp [h2, hj], fun _ => ⟨rfl, hI.off h1 hs hb hz⟩⟩
  · obtain ⟨A', l, c', h4, h5⟩ := h3 j hj
    refine ⟨A', l, c', ?_, fun hjk => ⟨(h5 (by omega)).1, (h5 (by omega)).2.off h1 hs hb hz⟩⟩
    rw [Array.getElem?_setIfInBounds_ne (fun h => e h.symm)]
    exact h4
theorem SlB.made (w : World) (n : Nat) (L : Nat → List Int) : SlB (w.alloc (.cells (madeCells #[.slice none 0 0] n) 26)) w.heap.size n 0 L := by
  refine ⟨_, heap_alloc_new w _, by simp [madeCells], fun j hj => ⟨none, 0, 0, ?_, fun h => by cases h⟩⟩
  simp [madeCells, hj, Nat.mod_one]
end
theorem Tryz.infoSl : (Tryz.prog.info? 26).map (fun i => (i.zero, i.size, i.bytes)) = some (some (.slice none 0 0), 1, 24) := by kernel_rfl

/-- what a step of it reads: a dim in a box, and a number -/
def Four (W : World) (q b o : Nat) (v0 v1 v2 x : Value) : Prop := (q < W.heap.size ∧ b < W.heap.size) ∧ W.cell? ⟨q, 0, none⟩ = some v0 ∧ W.cell? ⟨q, 1, none⟩ = some v1 ∧ W.cell? ⟨q, 2, none⟩ = some v2 ∧ W.cell? ⟨b, o, none⟩ = some x
theorem keep4 {W w' : World} {q b o : Nat} {v0 v1 v2 x : Value} (h : Four W q b o v0 v1 v2 x) (hB : Below W.heap.size W w') : Below W.heap.size W w' ∧ w'.cell? ⟨q, 0, none⟩ = some v0 ∧ w'.cell? ⟨q, 1, none⟩ = some v1 ∧ w'.cell? ⟨q, 2, none⟩ = some v2 ∧ w'.cell? ⟨b, o, none⟩ = some x := by
  obtain ⟨⟨h1, h2⟩, c0, c1, c2, c3⟩ := h
  exact ⟨hB, (hB.cell (p := ⟨q, 0, none⟩) h1).trans c0, (hB.cell (p := ⟨q, 1, none⟩) h1).trans c1, (hB.cell (p := ⟨q, 2, none⟩) h1).trans c2, (hB.cell (p := ⟨b, o, none⟩) h2).trans c3⟩

set_option maxHeartbeats 4000000 in
theorem rls_any (A0 : Option Addr) (cap n : Nat) (D : Nat → Dm) (A : Nat → Option Addr) (C : Nat → Nat) (Ap : Option Addr) (cp : Nat) (p : List Int) (w : World) (hp : InO D n p) (hM : DimsV w A0 cap n D A C) (hP : PlAt w Ap cp p) : Calls Tryz.prog 25 #[.agg #[.slice A0 n cap], .slice Ap p.length cp] w fun e w' => (∃ g, e = .returned (.tuple #[.slice (some ⟨g, 0, none⟩) n n, .nilIface]) ∧ SlB w' g n n (lfs D p)) ∧ Below w.heap.size w w' := by
  have hB0 := ownOut_below w A0 n cap 24
  have h := pcheck_any A0 cap n D A C Ap cp p (ownOut w A0 n cap 24) (hM.later hB0) (hP.later hB0)
  have HB0 : Hid (Below w.heap.size w (ownOut w A0 n cap 24)) := hB0
  have HM : Hid (DimsV w A0 cap n D A C) := hM
  have HI : Hid (InO D n p) := hp
  rw [hp.ok, errV_zero] at h
  obtain ⟨hn1, hn4, -, hd⟩ := allErr_some hp.right
  have HD : Hid (∀ i, i < n → (dimErr (D i)).2 = 0) := (allErr_right hp.right).2
  have hl := hp.len
  obtain ⟨hcp, h0 | ⟨bp, op, rfl, hbp, hcell⟩⟩ := hP
  · rw [h0] at hl; simp at hl; omega
  rw [hl] at h hcp
  rw [hl]
  have HC : Hid (∀ j, j < n → w.cell? ⟨bp, op + j, none⟩ = some (.int .i64 (p.getD j 0))) := fun j hj => hcell j (by omega)
  have hn' : (n : Int) ≤ 4 := by omega
  have hmk := run_make_row' (P := Tryz.prog) 57 26 (.slice none 0 0) 24 Tryz.underlying57 Tryz.infoSl rfl .i64 .i64 n (by omega) (by omega)
  clear hB0 hM hp hl hcell hd
  go_enter Tryz.func25, Tryz.ntmps25
  go_wp2_with fail
  refine h.mono ?_
  rintro e w1 ⟨rfl, hb1⟩
  have hB : Below w.heap.size w w1 := onB HB0.out hb1
  have hz : w.heap.size < w1.heap.size := by have := hb1.size; rw [ownOut_size] at this; omega
  have h2 : w1.cell? ⟨w.heap.size, 0, none⟩ = some (.slice A0 n cap) := (hb1.cell (p := ⟨w.heap.size, 0, none⟩) (by show w.heap.size < _; rw [ownOut_size]; omega)).trans (ownOut_at ..)
  obtain ⟨hcap, h0 | ⟨b, o, rfl, hMs⟩⟩ := HM.out.later hB
  · omega
  have HMs : Hid (DimsAt w1 b o n D A C) := hMs
  have HB : Hid (Below w.heap.size w w1) := hB
  have HC1 : Hid (∀ j, j < n → w1.cell? ⟨bp, op + j, none⟩ = some (.int .i64 (p.getD j 0))) := fun j hj => (hB.cell (p := ⟨bp, op + j, none⟩) hbp).trans (HC.out j hj)
  have hbp1 : bp < w1.heap.size := Nat.lt_of_lt_of_le hbp hB.size
  clear hb1 h hMs hB
  go_wp2_with fail
  clear hmk
  go_loopg [25] n (fun g s25 wr => ∃ (k : Nat), k ≤ n ∧ g = n - k ∧ s25 = .int .i64 k ∧ SlB wr w1.heap.size n k (lfs D p) ∧ Below w1.heap.size w1 wr)
  case atStart => exact ⟨0, Nat.zero_le _, rfl, rfl, SlB.made w1 n _, by go_grown⟩
  case round =>
    obtain ⟨k, hk, rfl, rfl, hS, hBw⟩ := hrel
    have HBw : Hid (Below w1.heap.size w1 wr) := hBw
    have HS : Hid (SlB wr w1.heap.size n k (lfs D p)) := hS
    by_cases hlt : k < n
    · have hki : (k : Int) < (n : Int) := by omega
      obtain ⟨d0, d1, d2, h4⟩ := (HMs.out.later hBw).2 k hlt
      have hdk := HD.out k hlt
      have e1 := (hBw.cell (p := ⟨bp, op + k, none⟩) hbp1).trans (HC1.out k hlt)
      have hbq : bp < wr.heap.size := Nat.lt_of_lt_of_le hbp1 hBw.size
      have hte : treeErr (D k) [p.getD k 0] = 0 := by
        have := HI.out.lo k hlt
        have := HI.out.hi k hlt
        rw [treeErr_one hdk, if_neg (by omega)]
      have HLf : Hid (∀ w', Below wr.heap.size wr w' → Calls Tryz.prog 41 #[dimV (D k) (A k) (C k), .int .i64 (p.getD k 0)] w' fun e w'' => (∃ A' c', e = .returned (.tuple #[.slice A' (lfs D p k).length c', .nilIface]) ∧ IntsAt w'' A' c' (lfs D p k)) ∧ Below w'.heap.size w' w'') := fun w' hw' => by
        have := leafs_any (D k) (A k) (C k) (p.getD k 0) w' (h4.later hw')
        rw [hte, errV_zero] at this
        exact this
      unfold dimV at HLf
      have hBx : Below wr.heap.size wr (ownDim wr (D k) (A k) (C k) 55) := ownDim_below ..
      have hFo : Four (ownDim wr (D k) (A k) (C k) 55) wr.heap.size bp (op + k) (.string (D k).name) (.int .i64 (D k).solve) (.slice (A k) (D k).n (C k)) (.int .i64 (p.getD k 0)) := by
        obtain ⟨x0, x1, x2⟩ := ownDim_at wr (D k) (A k) (C k) 55
        exact ⟨⟨by rw [ownDim_size]; omega, Nat.lt_of_lt_of_le hbq hBx.size⟩, x0, x1, x2, (hBx.cell (p := ⟨bp, op + k, none⟩) hbq).trans e1⟩
      obtain ⟨Wx, hWx⟩ : ∃ W, ownDim wr (D k) (A k) (C k) 55 = W := ⟨_, rfl⟩
      rw [hWx] at hFo hBx
      unfold ownDim at hWx
      have HFo : Hid (Four Wx wr.heap.size bp (op + k) (.string (D k).name) (.int .i64 (D k).solve) (.slice (A k) (D k).n (C k)) (.int .i64 (p.getD k 0))) := hFo
      have HBx : Hid (Below wr.heap.size wr Wx) := hBx
      generalize p.getD k 0 = x at HLf HFo e1
      generalize (D k).name = dn at HLf HFo d0 hWx
      generalize (D k).solve = ds at HLf HFo d1 hWx
      generalize A k = Ak at HLf HFo d2 hWx
      generalize C k = Ck at HLf HFo d2 hWx
      generalize (D k).n = dk at HLf HFo d2 hWx
      obtain ⟨X, hX⟩ : ∃ X, lfs D p k = X := ⟨_, rfl⟩
      have HX : Hid (lfs D p k = X) := hX
      rw [hX] at HLf
      clear hFo hBx hS hBw h4 hdk hte hX
      go_wp2_with fail
      clear hWx
      go_cut [10, 11] (fun s10 s11 wx => ∃ A' c', s10 = .slice A' X.length c' ∧ s11 = .nilIface ∧ IntsAt wx A' c' X ∧ Below Wx.heap.size Wx wx)
      case first => as_aux_lemma =>
        go_region_held3 (fun w' => Below Wx.heap.size Wx w' ∧ w'.cell? ⟨wr.heap.size, 0, none⟩ = some (.string dn) ∧ w'.cell? ⟨wr.heap.size, 1, none⟩ = some (.int .i64 ds) ∧ w'.cell? ⟨wr.heap.size, 2, none⟩ = some (.slice Ak dk Ck) ∧ w'.cell? ⟨bp, op + k, none⟩ = some (.int .i64 x))
          ((refine keep4 HFo.out ?_; go_grown; done))
          (first | (go_at_call 41; refine (HLf.out _ (onB HBx.out (by go_grown))).mono ?_; rintro e w3 ⟨⟨A', c', rfl, hI⟩, hb3⟩; have hN3 := onB (W0 := Wx) (by go_grown) hb3; have hy3 := hN3.size; clear hb3))
        all_goals go_wp2_with fail
        all_goals go_meet
        all_goals exact ⟨_, _, rfl, rfl, by first | assumption | (refine IntsAt.later (by assumption) ?_; go_grown), by go_grown⟩
      case rest => as_aux_lemma =>
      obtain ⟨A', c', rfl, rfl, hI, hb⟩ := hcut
      obtain ⟨w2, rfl⟩ : ∃ w2 : World, w2 = wc := ⟨_, rfl⟩
      have hB2 : Below wr.heap.size wr w2 := onB HBx.out hb
      have hS2 := HS.out.later hB2
      obtain ⟨A1, l1, c1, hc1, -⟩ := hS2.at hlt
      have hfr := hS2.frozen k
      have HB2 : Hid (Below w1.heap.size w1 w2) := onB HBw.out hB2
      have HS2 : Hid (SlB w2 w1.heap.size n k (lfs D p)) := hS2
      have HI2 : Hid (IntsAt w2 A' c' X) := hI
      clear hb hB2 hS2 hI HLf HFo d0 d1 d2 e1
      go_wp2_with fail
      go_roundg (n - (k + 1))
      case measure => omega
      case rel =>
        refine ⟨k + 1, by omega, rfl, by go_num, ?_, HB2.out.setCell (by show w1.heap.size ≤ w1.heap.size; omega) _⟩
        have := HS2.out.set hlt (A := A') (c := c') (by rw [HX.out]; exact HI2.out)
        rw [HX.out] at this
        exact this
    · have hke : k = n := by omega
      subst hke
      clear hBw hS
      go_wp2_with fail
      go_ret2
      exact ⟨⟨_, rfl, HS.out⟩, onB HB.out HBw.out⟩

theorem rls_bad (A0 : Option Addr) (cap n : Nat) (D : Nat → Dm) (A : Nat → Option Addr) (C : Nat → Nat) (Ap : Option Addr) (cp : Nat) (p : List Int) (w : World) (hp : placeErr D n p ≠ 0) (hM : DimsV w A0 cap n D A C) (hP : PlAt w Ap cp p) : Calls Tryz.prog 25 #[.agg #[.slice A0 n cap], .slice Ap p.length cp] w fun e w' => e = .returned (.tuple #[.slice none 0 0, .iface 62 (.int .i64 (placeErr D n p))]) ∧ Below w.heap.size w w' := by
  have hB0 := ownOut_below w A0 n cap 24
  have h := pcheck_any A0 cap n D A C Ap cp p (ownOut w A0 n cap 24) (hM.later hB0) (hP.later hB0)
  have HB0 : Hid (Below w.heap.size w (ownOut w A0 n cap 24)) := hB0
  rw [errV_some hp] at h
  clear hB0 hM hP hp
  generalize placeErr D n p = c at h
  generalize p.length = m at h
  go_enter Tryz.func25, Tryz.ntmps25
  go_wp2_with fail
  refine h.mono ?_
  rintro e w1 ⟨rfl, hb1⟩
  go_wp2_with fail
  go_ret2
  exact ⟨rfl, onB HB0.out hb1⟩
end Go.Proofs.YtmjcnlpjnbcfjacGreatDoor

namespace Go.Proofs.YtmjcnlpjnbcfjacGreatDoor
open Go.ChangeShapes Go.WideShapes Go.ChangeAt Go.RowKit
set_option maxRecDepth 20000

/-- a row of slices with one more laid, whatever has been done to that one -/
theorem SlB.row {w w' : World} {g n k l c : Nat} {A : Option Addr} {L : Nat → List Int} (h : SlB w g n k L) (hk : k < n) (hb : ∀ i, i < w.heap.size → i ≠ g → w'.heap[i]? = w.heap[i]?) (hg : w'.heap[g]? = (w.setCell ⟨g, k, none⟩ (.slice A l c)).heap[g]?) (hz : w.heap.size ≤ w'.heap.size) (hl : l = (L k).length) (hI : IntsAt w' A c (L k)) : SlB w' g n (k + 1) L := by
  obtain ⟨cur, h1, h2, h3⟩ := h
  have hs : ∀ x y, cur[0]? = some (.int x y) → False := fun x y e => by
    obtain ⟨A, l, c, h4, -⟩ := h3 0 (by omega)
    rw [h4] at e
    cases e
  refine ⟨cur.setIfInBounds k (.slice A l c), by rw [hg]; simp [World.setCell, Array.getElem?_modify, h1], by simpa using h2, fun j hj => ?_⟩
  by_cases e : j = k
  · subst e
    exact ⟨A, _, c, by simp [h2, hj], fun _ => ⟨hl, hI⟩⟩
  · obtain ⟨A', l', c', h4, h5⟩ := h3 j hj
    refine ⟨A', l', c', ?_, fun hjk => ⟨(h5 (by omega)).1, (h5 (by omega)).2.off h1 hs hb hz⟩⟩
    rw [Array.getElem?_setIfInBounds_ne (fun h => e h.symm)]
    exact h4

theorem SlB.off {w w' : World} {g n k c : Nat} {A : Option Addr} {L : Nat → List Int} {X : List Int} (h : SlB w g n k L) (hn : 0 < n) (hI : IntsAt w A c X) (hb : ∀ i, i < w.heap.size → i ≠ g → w'.heap[i]? = w.heap[i]?) (hz : w.heap.size ≤ w'.heap.size) : IntsAt w' A c X := by
  obtain ⟨cur, h1, h2, h3⟩ := h
  refine hI.off h1 (fun x y e => ?_) hb hz
  obtain ⟨A, l, c, h4, -⟩ := h3 0 hn
  rw [h4] at e
  cases e
theorem setCell_same {w w' : World} {g k : Nat} {v : Value} (h : w.heap[g]? = w'.heap[g]?) : (w.setCell ⟨g, k, none⟩ v).heap[g]? = (w'.setCell ⟨g, k, none⟩ v).heap[g]? := by
  simp [World.setCell, Array.getElem?_modify, h]
/-- while a row of ints is written: all else is as it was, but for the one that leads to it -/
def Inn (W wi : World) (g k : Nat) (v : Value) : Prop := (∀ i, i < W.heap.size → i ≠ g → wi.heap[i]? = W.heap[i]?) ∧ wi.heap[g]? = (W.setCell ⟨g, k, none⟩ v).heap[g]? ∧ W.heap.size ≤ wi.heap.size
section
variable {W wi w' : World} {g k : Nat} {v : Value}
theorem Inn.start (o : Obj) (hg : g < W.heap.size) : Inn W ((W.setCell ⟨g, k, none⟩ v).alloc o) g k v := by
  have hz : (W.setCell ⟨g, k, none⟩ v).heap.size = W.heap.size := by simp [World.setCell]
  refine ⟨fun i hi hne => ?_, ?_, ?_⟩
  · rw [Below.heap_alloc _ _ _ (by rw [hz]; exact hi), Below.heap_setCell _ ⟨g, k, none⟩ v i hne]
  · rw [Below.heap_alloc _ _ _ (by rw [hz]; exact hg)]
  · simp [World.setCell]
theorem Inn.later (h : Inn W wi g k v) (hg : g < W.heap.size) (hB : Below wi.heap.size wi w') : Inn W w' g k v :=
  ⟨fun i hi hne => (hB.block i (Nat.lt_of_lt_of_le hi h.2.2)).trans (h.1 i hi hne), (hB.block g (Nat.lt_of_lt_of_le hg h.2.2)).trans h.2.1, Nat.le_trans h.2.2 hB.size⟩
theorem Inn.store (h : Inn W wi g k v) (hg : g < W.heap.size) {q : Nat} (hq : W.heap.size ≤ q) (j : Nat) (x : Value) : Inn W (wi.setCell ⟨q, j, none⟩ x) g k v :=
  ⟨fun i hi hne => (Below.heap_setCell _ ⟨q, j, none⟩ x i (by show i ≠ q; omega)).trans (h.1 i hi hne), (Below.heap_setCell _ ⟨q, j, none⟩ x g (by show g ≠ q; omega)).trans h.2.1, by have := h.2.2; simpa [World.setCell] using this⟩
theorem Inn.cell (h : Inn W wi g k v) {b o : Nat} (hb : b < W.heap.size) (hne : b ≠ g) : wi.cell? ⟨b, o, none⟩ = W.cell? ⟨b, o, none⟩ := World.cell?_of_block (a := ⟨b, o, none⟩) (h.1 b hb hne)
theorem Inn.at (h : Inn W wi g k v) {u : Value} (hu : W.cell? ⟨g, k, none⟩ = some u) : wi.cell? ⟨g, k, none⟩ = some v := by
  rw [World.cell?_of_block (a := ⟨g, k, none⟩) h.2.1]
  exact World.cell?_setCell_same _ _ _ hu
end

set_option maxHeartbeats 4000000 in
theorem rws_any (A0 : Option Addr) (cap n : Nat) (D : Nat → Dm) (A : Nat → Option Addr) (C : Nat → Nat) (Ap : Option Addr) (cp : Nat) (p : List Int) (w : World) (hp : InO D n p) (hM : DimsV w A0 cap n D A C) (hP : PlAt w Ap cp p) : Calls Tryz.prog 18 #[.agg #[.slice A0 n cap], .slice Ap p.length cp] w fun e w' => (∃ g, e = .returned (.tuple #[.slice (some ⟨g, 0, none⟩) n n, .nilIface]) ∧ SlB w' g n n (wts D p)) ∧ Below w.heap.size w w' := by
  have hB0 := ownOut_below w A0 n cap 24
  have h := rls_any A0 cap n D A C Ap cp p (ownOut w A0 n cap 24) hp (hM.later hB0) (hP.later hB0)
  have HB0 : Hid (Below w.heap.size w (ownOut w A0 n cap 24)) := hB0
  have HM : Hid (DimsV w A0 cap n D A C) := hM
  have HI : Hid (InO D n p) := hp
  obtain ⟨hn1, hn4, -, hd⟩ := allErr_some hp.right
  have HD : Hid (∀ i, i < n → (dimErr (D i)).2 = 0) := (allErr_right hp.right).2
  have HD2 : Hid (∀ i, i < n → 1 ≤ (D i).n ∧ (D i).n ≤ 12) := hd
  have hl := hp.len
  obtain ⟨hcp, h0 | ⟨bp, op, rfl, hbp, hcell⟩⟩ := hP
  · rw [h0] at hl; simp at hl; omega
  rw [hl] at h hcp
  rw [hl]
  have HC : Hid (∀ j, j < n → w.cell? ⟨bp, op + j, none⟩ = some (.int .i64 (p.getD j 0))) := fun j hj => hcell j (by omega)
  have hn' : (n : Int) ≤ 4 := by omega
  have hmk := run_make_row' (P := Tryz.prog) 57 26 (.slice none 0 0) 24 Tryz.underlying57 Tryz.infoSl rfl .i64 .i64 n (by omega) (by omega)
  clear hB0 hM hp hl hcell hd
  go_enter Tryz.func18, Tryz.ntmps18
  go_wp2_with fail
  refine h.mono ?_
  rintro e w1 ⟨⟨gb, rfl, hS⟩, hb1⟩
  have hB : Below w.heap.size w w1 := onB HB0.out hb1
  have hz : w.heap.size < w1.heap.size := by have := hb1.size; rw [ownOut_size] at this; omega
  have h2 : w1.cell? ⟨w.heap.size, 0, none⟩ = some (.slice A0 n cap) := (hb1.cell (p := ⟨w.heap.size, 0, none⟩) (by show w.heap.size < _; rw [ownOut_size]; omega)).trans (ownOut_at ..)
  obtain ⟨hcap, h0 | ⟨b, o, rfl, hMs⟩⟩ := HM.out.later hB
  · omega
  have HMs : Hid (DimsAt w1 b o n D A C) := hMs
  have HB : Hid (Below w.heap.size w w1) := hB
  have HS1 : Hid (SlB w1 gb n n (lfs D p)) := hS
  have HC1 : Hid (∀ j, j < n → w1.cell? ⟨bp, op + j, none⟩ = some (.int .i64 (p.getD j 0))) := fun j hj => (hB.cell (p := ⟨bp, op + j, none⟩) hbp).trans (HC.out j hj)
  have hbp1 : bp < w1.heap.size := Nat.lt_of_lt_of_le hbp hB.size
  clear hb1 h hMs hB hS
  go_wp2_with fail
  clear hmk
  go_loopg [31] n (fun g s31 wr => ∃ (k : Nat), k ≤ n ∧ g = n - k ∧ s31 = .int .i64 k ∧ SlB wr w1.heap.size n k (wts D p) ∧ Below w1.heap.size w1 wr)
  case atStart => exact ⟨0, Nat.zero_le _, rfl, rfl, SlB.made w1 n _, by go_grown⟩
  case round =>
    obtain ⟨wo, rfl⟩ : ∃ w2 : World, w2 = wr := ⟨_, rfl⟩
    obtain ⟨k, hk, rfl, rfl, hS, hBw⟩ := hrel
    have HBw : Hid (Below w1.heap.size w1 wo) := hBw
    have HS : Hid (SlB wo w1.heap.size n k (wts D p)) := hS
    by_cases hlt : k < n
    · have hki : (k : Int) < (n : Int) := by omega
      obtain ⟨d0, d1, d2, h4⟩ := (HMs.out.later hBw).2 k hlt
      have hdk := HD.out k hlt
      obtain ⟨hdn1, hdn2⟩ := HD2.out k hlt
      have e1 := (hBw.cell (p := ⟨bp, op + k, none⟩) hbp1).trans (HC1.out k hlt)
      have hbq : bp < wo.heap.size := Nat.lt_of_lt_of_le hbp1 hBw.size
      have hlo := HI.out.lo k hlt
      have hhi := HI.out.hi k hlt
      obtain ⟨x, hx⟩ : ∃ x : Nat, p.getD k 0 = x := ⟨(p.getD k 0).toNat, by omega⟩
      have HWt : Hid (∀ j ∈ lfs D p k, ∀ w', Below w1.heap.size w1 w' → Calls Tryz.prog 37 #[dimV (D k) (A k) (C k), .int .i64 x, .int .i64 j] w' fun e w'' => e = .returned (.tuple #[.int .i64 (weightOf (D k).mem x j), .nilIface]) ∧ Below w'.heap.size w' w'') := fun j hj w' hw' => by
        obtain ⟨m, rfl, hm, hlf⟩ := lfs_mem j hj
        have ht := tweight_any (D k) (A k) (C k) x m w' ((HMs.out.later hw').2 k hlt).2.2.2
        have he : wErr (D k) x m = 0 := wErr_ok (by rw [treeErr_two hdk, if_neg (by omega)]) (by unfold leafIn at hlf; rw [Bool.and_eq_true] at hlf; simpa using hlf.1)
        rw [he, errV_zero, wVal_ok he] at ht
        exact ht
      have HLm : Hid (∀ j ∈ lfs D p k, ∃ m : Nat, j = m ∧ m < (D k).n) := fun j hj => by
        obtain ⟨m, h1, h2, -⟩ := lfs_mem j hj
        exact ⟨m, h1, h2⟩
      have hLl : (lfs D p k).length ≤ 12 := Nat.le_trans (lfs_len D p k) hdn2
      obtain ⟨AL, cL, hcL, hIL⟩ := (HS1.out.later hBw).get hlt
      have hgbw : gb < wo.heap.size := (HS1.out.later hBw).lt
      have HIL : Hid (IntsAt wo AL cL (lfs D p k)) := hIL
      have HWT : Hid (wts D p k = cnts (D k) x (lfs D p k)) := by show _ = _; unfold wts; rw [hx]
      have HCL : Hid (∀ X, (cnts (D k) x X).length = (D k).n) := fun X => cnts_len ..
      have HCN : Hid (cnts (D k) x [] = List.replicate (D k).n 0) := cnts_nil ..
      have HCS : Hid (∀ X (j : Nat), (cnts (D k) x X).set j (weightOf (D k).mem x j) = cnts (D k) x (X ++ [(j : Int)])) := fun X j => cnts_set
      have hmk := run_make_row' (P := Tryz.prog) 26 3 (.int .i64 0) 8 Tryz.underlying26 Tryz.infoIntP rfl .i64 .i64 (D k).n (by omega) (by omega)
      unfold dimV at HWt
      have hBx : Below wo.heap.size wo (ownDim wo (D k) (A k) (C k) 55) := ownDim_below ..
      have hFo : Four (ownDim wo (D k) (A k) (C k) 55) wo.heap.size bp (op + k) (.string (D k).name) (.int .i64 (D k).solve) (.slice (A k) (D k).n (C k)) (.int .i64 x) := by
        obtain ⟨x0, x1, x2⟩ := ownDim_at wo (D k) (A k) (C k) 55
        exact ⟨⟨by rw [ownDim_size]; omega, Nat.lt_of_lt_of_le hbq hBx.size⟩, x0, x1, x2, (hBx.cell (p := ⟨bp, op + k, none⟩) hbq).trans (by rw [e1, hx])⟩
      have hzx := ownDim_size wo (D k) (A k) (C k) 55
      obtain ⟨Wx, hWx⟩ : ∃ W, ownDim wo (D k) (A k) (C k) 55 = W := ⟨_, rfl⟩
      rw [hWx] at hFo hBx hzx
      unfold ownDim at hWx
      have HFo : Hid (Four Wx wo.heap.size bp (op + k) (.string (D k).name) (.int .i64 (D k).solve) (.slice (A k) (D k).n (C k)) (.int .i64 x)) := hFo
      have HBx : Hid (Below wo.heap.size wo Wx) := hBx
      generalize (cnts (D k) x) = cn at HWT HCL HCN HCS
      generalize weightOf (D k).mem (x : Int) = wt at HWt HCS
      obtain ⟨-, f0, f1, f2, f3⟩ := hFo
      generalize (D k).name = dn at HWt HFo d0 hWx f0
      generalize (D k).solve = ds at HWt HFo d1 hWx f1
      generalize A k = Ak at HWt HFo d2 hWx f2
      generalize C k = Ck at HWt HFo d2 hWx f2
      generalize (D k).n = dk at HWt HFo d2 hWx HLm HCL HCN f2 hmk hdn1 hdn2
      obtain ⟨X, hX⟩ : ∃ X, lfs D p k = X := ⟨_, rfl⟩
      have HX : Hid (lfs D p k = X) := hX
      rw [hX] at HWt HLm hLl HIL HWT hcL
      have hSx := HS.out.later hBx
      obtain ⟨A1, l1, c1, hc1, -⟩ := hSx.at hlt
      have hfr := hSx.frozen k
      have hcLx := (hBx.cell (p := ⟨gb, k, none⟩) hgbw).trans hcL
      have hdk' : (dk : Int) ≤ 12 := by omega
      have hg1 : w1.heap.size < wo.heap.size := HS.out.lt
      have hgx : w1.heap.size < Wx.heap.size := by omega
      have hgb1 : gb < w1.heap.size := HS1.out.lt
      have hgbx : gb < Wx.heap.size := by omega
      have HZX : Hid (Wx.heap.size = wo.heap.size + 1) := hzx
      clear hBx hS hBw h4 hdk hX hIL hSx hlo hhi hx hzx
      go_wp2_with fail
      have HIn0 : Hid (Inn Wx ((Wx.setCell ⟨w1.heap.size, k, none⟩ (.slice (some ⟨Wx.heap.size, 0, none⟩) dk dk)).alloc (.cells (madeCells #[.int .i64 0] dk) 3)) w1.heap.size k (.slice (some ⟨Wx.heap.size, 0, none⟩) dk dk)) := Inn.start _ hgx
      have HIB0 : Hid (IntB ((Wx.setCell ⟨w1.heap.size, k, none⟩ (.slice (some ⟨Wx.heap.size, 0, none⟩) dk dk)).alloc (.cells (madeCells #[.int .i64 0] dk) 3)) Wx.heap.size (cn [])) := by
        show IntB _ _ _
        rw [HCN.out]
        have hh := IntB.made (Wx.setCell ⟨w1.heap.size, k, none⟩ (.slice (some ⟨Wx.heap.size, 0, none⟩) dk dk)) dk
        rw [show (Wx.setCell ⟨w1.heap.size, k, none⟩ (.slice (some ⟨Wx.heap.size, 0, none⟩) dk dk)).heap.size = Wx.heap.size by simp [World.setCell]] at hh
        exact hh
      clear hWx hmk d0 d1 d2 e1 f0 f1 f2 f3 hcL hcLx
      go_loopg [48] X.length (fun g s48 wi => ∃ (m : Nat), m ≤ X.length ∧ g = X.length - m ∧ s48 = .int .i64 m ∧ IntB wi Wx.heap.size (cn (X.take m)) ∧ Inn Wx wi w1.heap.size k (.slice (some ⟨Wx.heap.size, 0, none⟩) dk dk) ∧ Below w1.heap.size w1 wi)
      case atStart => exact ⟨0, Nat.zero_le _, rfl, rfl, HIB0.out, HIn0.out, ((onB HBw.out HBx.out).setCell (p := ⟨w1.heap.size, k, none⟩) (Nat.le_refl _) _).alloc (by simp [World.setCell]; omega) _⟩
      case round =>
        obtain ⟨wi, rfl⟩ : ∃ w2 : World, w2 = wr := ⟨_, rfl⟩
        obtain ⟨m, hm, rfl, rfl, hIB, hIn, hBi⟩ := hrel
        have HBi : Hid (Below w1.heap.size w1 wi) := hBi
        have HIn : Hid (Inn Wx wi w1.heap.size k (.slice (some ⟨Wx.heap.size, 0, none⟩) dk dk)) := hIn
        have HIB : Hid (IntB wi Wx.heap.size (cn (X.take m))) := hIB
        have hoff : ∀ i, i < wo.heap.size → i ≠ w1.heap.size → wi.heap[i]? = wo.heap[i]? := fun i hi hne => (hIn.1 i (by have := HZX.out; omega) hne).trans (HBx.out.block i hi)
        have hoz : wo.heap.size ≤ wi.heap.size := by have := HZX.out; have := hIn.2.2; omega
        by_cases hmt : m < X.length
        · have hmi : (m : Int) < (X.length : Int) := by omega
          obtain ⟨hcL, h0 | ⟨bL, rfl, hbL, hLc⟩⟩ := HS.out.off (by omega) HIL.out hoff hoz
          · rw [h0] at hmt; cases hmt
          have c0 := hLc m hmt
          obtain ⟨j, hj, hjd⟩ := HLm.out (X.getD m 0) (by rw [List.getD_eq_getElem?_getD, List.getElem?_eq_getElem hmt]; exact List.getElem_mem hmt)
          have HWj : Hid (∀ w', Below w1.heap.size w1 w' → _) := HWt.out (X.getD m 0) (by rw [List.getD_eq_getElem?_getD, List.getElem?_eq_getElem hmt]; exact List.getElem_mem hmt)
          rw [hj] at c0 HWj
          have HTk : Hid ((cn (X.take m)).set j (wt j) = cn (X.take (m + 1))) := by
            show _ = _
            rw [HCS.out]
            congr 1
            rw [List.take_succ_eq_append_getElem hmt]
            congr 2
            rw [← hj, List.getD_eq_getElem?_getD, List.getElem?_eq_getElem hmt]; rfl
          obtain ⟨-, f0, f1, f2, f3⟩ := HFo.out
          have hFi : Four wi wo.heap.size bp (op + k) (.string dn) (.int .i64 ds) (.slice Ak dk Ck) (.int .i64 x) :=
            ⟨⟨by have := HZX.out; have := hIn.2.2; omega, by omega⟩, (hIn.cell (by have := HZX.out; omega) (by omega)).trans f0, (hIn.cell (by have := HZX.out; omega) (by omega)).trans f1, (hIn.cell (by have := HZX.out; omega) (by omega)).trans f2, (hIn.cell (by have := HZX.out; omega) (by omega)).trans f3⟩
          have HFi : Hid (Four wi wo.heap.size bp (op + k) (.string dn) (.int .i64 ds) (.slice Ak dk Ck) (.int .i64 x)) := hFi
          have hji : (j : Int) < (dk : Int) := by omega
          clear f0 f1 f2 f3 hLc hIB hIn hBi hoff hoz hj hFi
          go_wp2_with fail
          go_cut [13, 14] (fun s13 s14 wx => s13 = .int .i64 (wt j) ∧ s14 = .nilIface ∧ Below wi.heap.size wi wx)
          case first => as_aux_lemma =>
            go_region_held3 (fun w' => Below wi.heap.size wi w' ∧ w'.cell? ⟨wo.heap.size, 0, none⟩ = some (.string dn) ∧ w'.cell? ⟨wo.heap.size, 1, none⟩ = some (.int .i64 ds) ∧ w'.cell? ⟨wo.heap.size, 2, none⟩ = some (.slice Ak dk Ck) ∧ w'.cell? ⟨bp, op + k, none⟩ = some (.int .i64 x))
              ((refine keep4 HFi.out ?_; go_grown; done))
              (first | (go_at_call 37; refine (HWj.out _ (onB HBi.out (by go_grown))).mono ?_; rintro e w3 ⟨rfl, hb3⟩; have hN3 := onB (W0 := wi) (by go_grown) hb3; have hy3 := hN3.size; clear hb3))
            all_goals go_wp2_with fail
            all_goals go_meet
            all_goals exact ⟨rfl, rfl, by go_grown⟩
          case rest => as_aux_lemma =>
          obtain ⟨rfl, rfl, hb⟩ := hcut
          obtain ⟨w2, rfl⟩ : ∃ w2 : World, w2 = wc := ⟨_, rfl⟩
          have hI2 := HIn.out.later hgx hb
          have hB2 := HIB.out.later hb
          have HI2 : Hid (Inn Wx w2 w1.heap.size k (.slice (some ⟨Wx.heap.size, 0, none⟩) dk dk)) := hI2
          have HIB2 : Hid (IntB w2 Wx.heap.size (cn (X.take m))) := hB2
          have HB2 : Hid (Below w1.heap.size w1 w2) := onB HBi.out hb
          have g0 := hI2.at hc1
          have g1 := hB2.cell (j := j) (by rw [HCL.out]; exact hjd)
          have g2 := hB2.frozen j
          have hsz := hB2.lt
          generalize (cn (X.take m)).getD j 0 = old at g1
          clear hI2 hB2 hb HFi HWj c0
          go_wp2_with fail
          go_roundg (X.length - (m + 1))
          case measure => omega
          case rel =>
            refine ⟨m + 1, by omega, rfl, by go_num, ?_, HI2.out.store hgx (Nat.le_refl _) j _, HB2.out.setCell (by show w1.heap.size ≤ Wx.heap.size; omega) _⟩
            have := HIB2.out.set j (wt j)
            rw [HTk.out] at this
            exact this
        · have hme : m = X.length := by omega
          have HOff : Hid (∀ i, i < wo.heap.size → i ≠ w1.heap.size → wi.heap[i]? = wo.heap[i]?) := hoff
          have HOz : Hid (wo.heap.size ≤ wi.heap.size) := hoz
          have HFin : Hid (IntB wi Wx.heap.size (wts D p k)) := by
            show IntB _ _ _
            rw [HWT.out]
            rw [hme, List.take_length] at hIB
            exact hIB
          have hmi : ¬ ((m : Int) < (X.length : Int)) := by omega
          clear hIB hIn hBi hoff hoz hme
          go_wp2_with fail
          go_roundg (n - (k + 1))
          case measure => omega
          case rel =>
            have hl : (wts D p k).length = dk := by rw [HWT.out, HCL.out]
            refine ⟨k + 1, by omega, rfl, by go_num, ?_, HBi.out⟩
            refine HS.out.row hlt HOff.out (HIn.out.2.1.trans (setCell_same (HBx.out.block _ hg1))) HOz.out hl.symm ?_
            refine ⟨by rw [hl]; exact Nat.le_refl _, Or.inr ⟨Wx.heap.size, rfl, HFin.out.lt, fun j hj => HFin.out.cell hj⟩⟩
    · have hke : k = n := by omega
      subst hke
      clear hBw hS
      go_wp2_with fail
      go_ret2
      exact ⟨⟨_, rfl, HS.out⟩, onB HB.out HBw.out⟩

theorem rws_bad (A0 : Option Addr) (cap n : Nat) (D : Nat → Dm) (A : Nat → Option Addr) (C : Nat → Nat) (Ap : Option Addr) (cp : Nat) (p : List Int) (w : World) (hp : placeErr D n p ≠ 0) (hM : DimsV w A0 cap n D A C) (hP : PlAt w Ap cp p) : Calls Tryz.prog 18 #[.agg #[.slice A0 n cap], .slice Ap p.length cp] w fun e w' => e = .returned (.tuple #[.slice none 0 0, .iface 62 (.int .i64 (placeErr D n p))]) ∧ Below w.heap.size w w' := by
  have hB0 := ownOut_below w A0 n cap 24
  have h := rls_bad A0 cap n D A C Ap cp p (ownOut w A0 n cap 24) hp (hM.later hB0) (hP.later hB0)
  have HB0 : Hid (Below w.heap.size w (ownOut w A0 n cap 24)) := hB0
  clear hB0 hM hP hp
  generalize placeErr D n p = c at h
  generalize p.length = m at h
  go_enter Tryz.func18, Tryz.ntmps18
  go_wp2_with fail
  refine h.mono ?_
  rintro e w1 ⟨rfl, hb1⟩
  go_wp2_with fail
  go_ret2
  exact ⟨rfl, onB HB0.out hb1⟩
end Go.Proofs.YtmjcnlpjnbcfjacGreatDoor

namespace Go.Proofs.YtmjcnlpjnbcfjacGreatDoor
open Go.ChangeShapes Go.WideShapes Go.ChangeAt Go.RowKit
set_option maxRecDepth 20000

set_option maxHeartbeats 2000000 in
theorem rprod_any (g n : Nat) (D : Nat → Dm) (p : List Int) (Aq : Option Addr) (cq : Nat) (q : List Int) (w : World) (hq : InO D n q) (hS : SlB w g n n (wts D p)) (hQ : PlAt w Aq cq q) : Calls Tryz.prog 19 #[.slice (some ⟨g, 0, none⟩) n n, .slice Aq q.length cq] w fun e w' => e = .returned (.int .i64 (prTo (wts D p) q n)) ∧ Below w.heap.size w w' := by
  obtain ⟨hn1, hn4, -, hd⟩ := allErr_some hq.right
  have hl := hq.len
  obtain ⟨hcp, h0 | ⟨bq, oq, rfl, hbq, hcell⟩⟩ := hQ
  · rw [h0] at hl; simp at hl; omega
  rw [hl] at hcp hcell ⊢
  have HC : Hid (∀ j, j < n → w.cell? ⟨bq, oq + j, none⟩ = some (.int .i64 (q.getD j 0))) := hcell
  have HS : Hid (SlB w g n n (wts D p)) := hS
  have HQ : Hid (InO D n q) := hq
  have hn' : (n : Int) ≤ 4 := by omega
  clear hcell hS hq hl
  go_enter Tryz.func19, Tryz.ntmps19
  go_wp2_with fail
  go_loopg [5, 10] n (fun g' s5 s10 wr => ∃ (k : Nat), k ≤ n ∧ g' = n - k ∧ s10 = .int .i64 k ∧ s5 = .int .i64 (prTo (wts D p) q k) ∧ Below w.heap.size w wr)
  case atStart => exact ⟨0, Nat.zero_le _, rfl, rfl, rfl, Below.refl _ _⟩
  case round =>
    obtain ⟨k, hk, rfl, rfl, rfl, hBw⟩ := hrel
    have HBw : Hid (Below w.heap.size w wr) := hBw
    by_cases hlt : k < n
    · have hki : (k : Int) < (n : Int) := by omega
      obtain ⟨AL, cL, hcL, hcl, hIL⟩ := (HS.out.later hBw).get hlt
      have hlen : (wts D p k).length = (D k).n := cnts_len ..
      have e1 := (hBw.cell (p := ⟨bq, oq + k, none⟩) hbq).trans (HC.out k hlt)
      obtain ⟨x, hx⟩ : ∃ x : Nat, q.getD k 0 = x := ⟨(q.getD k 0).toNat, by have := HQ.out.lo k hlt; omega⟩
      have hxn : x < (D k).n := by have := HQ.out.hi k hlt; omega
      obtain ⟨hdn1, hdn2⟩ := hd k hlt
      rcases hIL with h0 | ⟨bL, rfl, hbL, hLc⟩
      · rw [h0] at hlen; simp at hlen; omega
      have e2 := hLc x (by omega)
      rw [hlen] at hcL hcl
      rw [hx] at e1
      have HPr : Hid (prTo (wts D p) q (k + 1) = prTo (wts D p) q k * (wts D p k).getD x 0) := by show _ = _; rw [prTo, hx, Int.toNat_natCast]
      have hs1 := prTo_small HQ.out.right p q (k + 1) (by omega)
      rw [HPr.out] at hs1
      obtain ⟨hs1, hs2⟩ := hs1
      generalize (wts D p k).getD x 0 = y at e2 HPr hs1 hs2
      generalize (D k).n = dk at hcL hcl hdn1 hdn2 hxn
      generalize prTo (wts D p) q k = z at HPr hs1 hs2
      have hxi : (x : Int) < (dk : Int) := by omega
      have hdi : (dk : Int) ≤ 12 := by omega
      clear hBw hLc hlen hx
      go_wp2_with fail
      first | go_quiet (fail) | skip
      go_wp2_with fail
      go_roundg (n - (k + 1))
      case measure => omega
      case rel => exact ⟨k + 1, by omega, rfl, by go_num, by rw [HPr.out], by first | exact HBw.out | exact below_drewN HBw.out _⟩
    · have hke : k = n := by omega
      subst hke
      clear hBw
      go_wp2_with fail
      go_ret
      exact ⟨rfl, HBw.out⟩

/-- what is wrong with entries, or with a place; what comes of them there -/
def rvErr (D : Nat → Dm) (n : Nat) (l : List En) (p : List Int) : Int := if entsErr D n l ≠ 0 then entsErr D n l else placeErr D n p
def rvV (D : Nat → Dm) (n : Nat) (l : List En) (p : List Int) : Int × Int := if rvErr D n l p = 0 then rollV D n l p else (0, 0)
theorem rvErr_ents {D : Nat → Dm} {n : Nat} {l : List En} {p : List Int} (h : entsErr D n l ≠ 0) : rvErr D n l p = entsErr D n l := by unfold rvErr; rw [if_pos h]
theorem rvErr_place {D : Nat → Dm} {n : Nat} {l : List En} {p : List Int} (h : entsErr D n l = 0) : rvErr D n l p = placeErr D n p := by unfold rvErr; rw [if_neg (by simpa using h)]
theorem rvV_bad {D : Nat → Dm} {n : Nat} {l : List En} {p : List Int} (h : rvErr D n l p ≠ 0) : rvV D n l p = (0, 0) := by unfold rvV; rw [if_neg h]
theorem rvV_ok {D : Nat → Dm} {n : Nat} {l : List En} {p : List Int} (h : rvErr D n l p = 0) : rvV D n l p = rollV D n l p := by unfold rvV; rw [if_pos h]
theorem rvErr_in {D : Nat → Dm} {n : Nat} {l : List En} {p : List Int} (h : rvErr D n l p = 0) : Ens D n l ∧ InO D n p := by
  by_cases h1 : entsErr D n l = 0
  · rw [rvErr_place h1] at h
    exact ⟨ens_of h1, inO_of h⟩
  · rw [rvErr_ents h1] at h
    exact absurd h h1

set_option maxHeartbeats 4000000 in
theorem rvalue_any (A0 : Option Addr) (cap n : Nat) (D : Nat → Dm) (A : Nat → Option Addr) (C : Nat → Nat) (AE : Option Addr) (ce : Nat) (xs : List EnL) (Ap : Option Addr) (cp : Nat) (p : List Int) (w : World) (hEs : Ens D n (lE xs)) (hp : InO D n p) (hM : DimsV w A0 cap n D A C) (hE : EnsV w AE ce xs) (hP : PlAt w Ap cp p) :
    Calls Tryz.prog 7 #[.agg #[.slice A0 n cap], .slice AE xs.length ce, .slice Ap p.length cp] w fun e w' => e = .returned (.tuple #[.agg #[.int .i64 (rollV D n (lE xs) p).1, .int .i64 (rollV D n (lE xs) p).2], .nilIface]) ∧ Below w.heap.size w w' := by
  have hB0 := ownOC_below w A0 n cap
  have h := icheck_any A0 cap n D A C AE ce xs (ownOC w A0 n cap) (hM.later hB0) (hE.later hB0)
  rw [hEs.ok, errV_zero] at h
  have HB0 : Hid (Below w.heap.size w (ownOC w A0 n cap)) := hB0
  have HWs : Hid (∀ w', Below w.heap.size w w' → Calls Tryz.prog 18 #[.agg #[.slice A0 n cap], .slice Ap p.length cp] w' fun e w'' => (∃ g, e = .returned (.tuple #[.slice (some ⟨g, 0, none⟩) n n, .nilIface]) ∧ SlB w'' g n n (wts D p)) ∧ Below w'.heap.size w' w'') := fun w' hw' => rws_any A0 cap n D A C Ap cp p w' hp (hM.later hw') (hP.later hw')
  have HE : Hid (EnsV w AE ce xs) := hE
  have HEs : Hid (Ens D n (lE xs)) := hEs
  have hfew : xs.length ≤ 3000 := by have := hEs.few; rw [lE_len] at this; exact this
  have HFin : Hid (((lE xs).take xs.length).foldl (rollStep D n p) (0, 0) = rollV D n (lE xs) p) := by show _ = _; rw [List.take_of_length_le (by rw [lE_len]; exact Nat.le_refl _)]; exact roll_fold ..
  obtain ⟨N, hN⟩ : ∃ N, xs.length = N := ⟨_, rfl⟩
  have HN : Hid (xs.length = N) := hN
  rw [hN] at h hfew HFin
  rw [hN]
  generalize p.length = np at HWs
  have hNi : (N : Int) ≤ 3000 := by omega
  clear hB0 hM hE hP hN hEs hp
  go_enter Tryz.func7, Tryz.ntmps7
  go_wp2_with fail
  refine h.mono ?_
  rintro e w1 ⟨rfl, hb1⟩
  have hB : Below w.heap.size w w1 := onB HB0.out hb1
  have hz1 : w.heap.size + 1 < w1.heap.size := by have := hb1.size; rw [ownOC_size] at this; omega
  have c1 : w1.cell? ⟨w.heap.size, 0, none⟩ = some (.slice A0 n cap) := (hb1.cell (p := ⟨w.heap.size, 0, none⟩) (by show w.heap.size < _; rw [ownOC_size]; omega)).trans (ownOC_o ..)
  have HK1 : Hid (w1.heap[w.heap.size + 1]? = some (.cells #[.int .i64 0, .int .i64 0] 31)) := (hb1.block (w.heap.size + 1) (by rw [ownOC_size]; omega)).trans (ownOC_b ..)
  have hws := HWs.out w1 hB
  have HB : Hid (Below w.heap.size w w1) := hB
  clear hb1 h hB
  go_wp2_with fail
  refine hws.mono ?_
  rintro e w2 ⟨⟨g, rfl, hS⟩, hb2⟩
  have HB2 : Hid (Below w.heap.size w w2) := onB HB.out hb2
  have HS : Hid (SlB w2 g n n (wts D p)) := hS
  have HK2 : Hid (w2.heap[w.heap.size + 1]? = some (.cells #[.int .i64 0, .int .i64 0] 31)) := (hb2.block _ hz1).trans HK1.out
  have hz2 : w.heap.size + 1 < w2.heap.size := Nat.lt_of_lt_of_le hz1 hb2.size
  clear hb2 hS hws c1 HK1 HB hz1
  go_wp2_with fail
  go_loopg [11, 12, 35] N (fun g' s11 s12 s35 wr => ∃ (k : Nat), k ≤ N ∧ g' = N - k ∧ s35 = .int .i64 k ∧ s11 = .int .i64 (rollN D n p ((lE xs).take k)) ∧ s12 = .bool (((lE xs).take k).any (cntR D n p)) ∧ Below w2.heap.size w2 wr)
  case atStart => exact ⟨0, Nat.zero_le _, rfl, rfl, rfl, rfl, Below.refl _ _⟩
  case round =>
    obtain ⟨k, hk, rfl, rfl, rfl, rfl, hBw⟩ := hrel
    have HBw : Hid (Below w2.heap.size w2 wr) := hBw
    by_cases hlt : k < N
    · have hki : (k : Int) < (N : Int) := by omega
      have hkx : k < xs.length := by rw [HN.out]; exact hlt
      have hkl : k < (lE xs).length := by rw [lE_len]; exact hkx
      obtain ⟨hce, -, h0 | ⟨b, o, rfl, hA⟩⟩ := HE.out.later (onB HB2.out hBw)
      · rw [h0] at hkx; cases hkx
      obtain ⟨c0, c1⟩ := hA.at hkx
      have hpl := hA.pl hkx
      have hel : (lE xs)[k] = (xs.getD k noL).e := by rw [← lE_at, List.getD_eq_getElem?_getD, List.getElem?_eq_getElem hkl]; rfl
      obtain ⟨hqO, hqL, hqN⟩ := HEs.out.each (lE xs)[k] (List.getElem_mem hkl)
      rw [hel] at hqO hqL hqN
      have hw0 := pwTo_small hqO p n (Nat.le_refl _)
      have hpr := pr_wts hqO hqL p n (Nat.le_refl _)
      have HPd : Hid (∀ w', Below wr.heap.size wr w' → Calls Tryz.prog 19 #[.slice (some ⟨g, 0, none⟩) n n, .slice (xs.getD k noL).A (xs.getD k noL).e.pl.length (xs.getD k noL).c] w' fun e w'' => e = .returned (.int .i64 (pwTo D p (xs.getD k noL).e.pl n)) ∧ Below w'.heap.size w' w'') := fun w' hw' => by
        have := rprod_any g n D p _ _ _ w' hqO (HS.out.later (onB hBw hw')) (hpl.later hw')
        rw [hpr] at this
        exact this
      have hn1 : -1000000 ≤ (xs.getD k noL).e.n ∧ (xs.getD k noL).e.n ≤ 1000000 := by simpa [numOk] using hqN
      have hbd := roll_bound p ((lE xs).take k) fun e he => HEs.out.each e (List.mem_of_mem_take he)
      have hlk : (((lE xs).take k).length : Int) ≤ 3000 := by
        have := List.length_take_le k (lE xs)
        omega
      have HT : Hid ((lE xs).take (k + 1) = (lE xs).take k ++ [(xs.getD k noL).e]) := by show _ = _; rw [List.take_succ_eq_append_getElem hkl, hel]
      have HCn : Hid (cntR D n p (xs.getD k noL).e = !(pwTo D p (xs.getD k noL).e.pl n == 0)) := cnt_pw
      have HVr : Hid (valR D n p (xs.getD k noL).e = pwTo D p (xs.getD k noL).e.pl n * (xs.getD k noL).e.n) := rfl
      generalize hlen : ((lE xs).take k).length = lk at hbd hlk
      obtain ⟨RS, hRS⟩ : ∃ v, rollN D n p ((lE xs).take k) = v := ⟨_, rfl⟩
      have HRS : Hid (rollN D n p ((lE xs).take k) = RS) := hRS
      rw [hRS] at hbd ⊢
      obtain ⟨an, han⟩ : ∃ v, ((lE xs).take k).any (cntR D n p) = v := ⟨_, rfl⟩
      have HAN : Hid (((lE xs).take k).any (cntR D n p) = an) := han
      rw [han]
      generalize (xs.getD k noL).e = en at *
      generalize (xs.getD k noL).A = Ae at *
      generalize (xs.getD k noL).c = ke at *
      generalize pwTo D p en.pl n = pw at HPd HCn HVr hw0
      obtain ⟨en1, en2⟩ := en
      simp only at *
      generalize en1.length = me at c0 HPd
      have hRS1 : -3000000000 ≤ RS := by omega
      have hRS2 : RS ≤ 3000000000 := by omega
      have hcs : pw = 0 ∨ pw = 1 ∨ pw = -1 := by omega
      clear hBw hA hpl hqO hqL hqN hpr hbd hlk hlen hRS han hel hw0
      obtain ⟨hn1, hn2⟩ := hn1
      rcases hcs with rfl | rfl | rfl
      · have HC0 : Hid (cntR D n p ⟨en1, en2⟩ = false) := HCn.out
        go_wp2_with fail
        refine (HPd.out _ (by go_grown)).mono ?_
        rintro e w3 ⟨rfl, hb3⟩
        have HB3 : Hid (Below wr.heap.size wr w3) := onB (by go_grown) hb3
        clear hb3
        go_wp2_with fail
        go_roundg (N - (k + 1))
        case measure => omega
        case rel =>
          refine ⟨k + 1, by omega, rfl, by go_num, ?_, ?_, onB HBw.out HB3.out⟩
          · rw [HT.out, rollN_append, HRS.out, rollN, rollN, if_neg (by rw [HC0.out]; simp)]
            simp
          · rw [HT.out, List.any_append, HAN.out]; simp [HC0.out]
      · have HC0 : Hid (cntR D n p ⟨en1, en2⟩ = true) := HCn.out
        have HV0 : Hid (valR D n p ⟨en1, en2⟩ = en2) := by show _ = _; rw [HVr.out]; simp
        go_wp2_with fail
        refine (HPd.out _ (by go_grown)).mono ?_
        rintro e w3 ⟨rfl, hb3⟩
        have HB3 : Hid (Below wr.heap.size wr w3) := onB (by go_grown) hb3
        have c3 : w3.cell? ⟨wr.heap.size, 1, none⟩ = some (.int .i64 en2) := (hb3.cell (p := ⟨wr.heap.size, 1, none⟩) (by simp)).trans (by simp)
        clear hb3
        go_wp2_with fail
        go_roundg (N - (k + 1))
        case measure => omega
        case rel =>
          refine ⟨k + 1, by omega, rfl, by go_num, ?_, ?_, onB HBw.out HB3.out⟩
          · rw [HT.out, rollN_append, HRS.out, rollN, rollN, if_pos HC0.out, HV0.out]
            first | rfl | (congr 1; omega) | go_num
          · rw [HT.out, List.any_append, HAN.out]; simp [HC0.out]
      · have HC0 : Hid (cntR D n p ⟨en1, en2⟩ = true) := HCn.out
        have HV0 : Hid (valR D n p ⟨en1, en2⟩ = -en2) := by show _ = _; rw [HVr.out]; simp
        go_wp2_with fail
        refine (HPd.out _ (by go_grown)).mono ?_
        rintro e w3 ⟨rfl, hb3⟩
        have HB3 : Hid (Below wr.heap.size wr w3) := onB (by go_grown) hb3
        have c3 : w3.cell? ⟨wr.heap.size, 1, none⟩ = some (.int .i64 en2) := (hb3.cell (p := ⟨wr.heap.size, 1, none⟩) (by simp)).trans (by simp)
        clear hb3
        go_wp2_with fail
        go_roundg (N - (k + 1))
        case measure => omega
        case rel =>
          refine ⟨k + 1, by omega, rfl, by go_num, ?_, ?_, onB HBw.out HB3.out⟩
          · rw [HT.out, rollN_append, HRS.out, rollN, rollN, if_pos HC0.out, HV0.out]
            first | rfl | (congr 1; omega) | go_num
          · rw [HT.out, List.any_append, HAN.out]; simp [HC0.out]
    · have hke : k = N := by omega
      subst hke
      have hz3 : w.heap.size + 1 < wr.heap.size := Nat.lt_of_lt_of_le hz2 hBw.size
      have HK3 : Hid (wr.heap[w.heap.size + 1]? = some (.cells #[.int .i64 0, .int .i64 0] 31)) := (hBw.block _ hz2).trans HK2.out
      have HAll : Hid ((lE xs).take k = lE xs) := by show _ = _; rw [List.take_of_length_le (by rw [lE_len, HN.out]; exact Nat.le_refl _)]
      rw [HAll.out]
      have hbd := roll_bound p (lE xs) HEs.out.each
      have hlk : ((lE xs).length : Int) ≤ 3000 := by rw [lE_len, HN.out]; omega
      have hR1 : -3000000000 ≤ rollN D n p (lE xs) := by omega
      have hR2 : rollN D n p (lE xs) ≤ 3000000000 := by omega
      cases han : (lE xs).any (cntR D n p)
      · have HV1 : Hid (rollV D n (lE xs) p = (0, 0)) := by show _ = _; unfold rollV rollK; rw [roll_none han, han]; rfl
        have d0 : wr.cell? ⟨w.heap.size + 1, 0, none⟩ = some (.int .i64 0) := by rw [Lib.cell_of_heap HK3.out]; rfl
        have d1 : wr.cell? ⟨w.heap.size + 1, 1, none⟩ = some (.int .i64 0) := by rw [Lib.cell_of_heap HK3.out]; rfl
        have f0 : wr.frozen? ⟨w.heap.size + 1, 0, none⟩ = false := Lib.frozen_of_heap HK3.out 0
        have f1 : wr.frozen? ⟨w.heap.size + 1, 1, none⟩ = false := Lib.frozen_of_heap HK3.out 1
        generalize rollN D n p (lE xs) = RS
        clear hBw han hbd hlk hR1 hR2
        go_wp2_with fail
        refine bodyPost_ret (v := .tuple #[.agg #[.int .i64 0, .int .i64 0], .nilIface]) (by simp [results, Tryz.results7, go_sem, d0, d1]) rfl ⟨by rw [HV1.out], ?_⟩
        exact ((onB HB2.out HBw.out).setCell (by show w.heap.size ≤ w.heap.size + 1; omega) _).setCell (by show w.heap.size ≤ w.heap.size + 1; omega) _
      · have HV1 : Hid (rollV D n (lE xs) p = (1, rollN D n p (lE xs))) := by show _ = _; unfold rollV rollK; rw [han]; rfl
        generalize rollN D n p (lE xs) = RS at HV1 hR1 hR2
        have hof := fun w' => of_any RS w'
        have hofp : ofP RS = (1, RS) := ofP_in (by omega) (by omega)
        rw [hofp] at hof
        clear hBw han hbd hlk hofp
        go_wp2_with fail
        refine (hof _).mono ?_
        rintro e w4 ⟨rfl, hb4⟩
        have k4 : w4.heap[w.heap.size + 1]? = some (.cells #[.int .i64 0, .int .i64 0] 31) := (hb4.block _ hz3).trans HK3.out
        have d0 : w4.cell? ⟨w.heap.size + 1, 0, none⟩ = some (.int .i64 0) := by rw [Lib.cell_of_heap k4]; rfl
        have d1 : w4.cell? ⟨w.heap.size + 1, 1, none⟩ = some (.int .i64 0) := by rw [Lib.cell_of_heap k4]; rfl
        have f0 : w4.frozen? ⟨w.heap.size + 1, 0, none⟩ = false := Lib.frozen_of_heap k4 0
        have f1 : w4.frozen? ⟨w.heap.size + 1, 1, none⟩ = false := Lib.frozen_of_heap k4 1
        have HB4 : Hid (Below w.heap.size w w4) := onB (onB HB2.out HBw.out) hb4
        clear hb4 k4 hof
        go_wp2_with fail
        refine bodyPost_ret (v := .tuple #[.agg #[.int .i64 1, .int .i64 RS], .nilIface]) (by simp [results, Tryz.results7, go_sem, d0, d1]) rfl ⟨by rw [HV1.out], ?_⟩
        exact (HB4.out.setCell (by show w.heap.size ≤ w.heap.size + 1; omega) _).setCell (by show w.heap.size ≤ w.heap.size + 1; omega) _

set_option maxHeartbeats 2000000 in
/-- what Value answers, whatever it is called with -/
theorem rval_any (A0 : Option Addr) (cap n : Nat) (D : Nat → Dm) (A : Nat → Option Addr) (C : Nat → Nat) (AE : Option Addr) (ce : Nat) (xs : List EnL) (Ap : Option Addr) (cp : Nat) (p : List Int) (w : World) (hM : DimsV w A0 cap n D A C) (hE : EnsV w AE ce xs) (hP : PlAt w Ap cp p) :
    Calls Tryz.prog 7 #[.agg #[.slice A0 n cap], .slice AE xs.length ce, .slice Ap p.length cp] w fun e w' => e = .returned (.tuple #[.agg #[.int .i64 (rvV D n (lE xs) p).1, .int .i64 (rvV D n (lE xs) p).2], errV (rvErr D n (lE xs) p)]) ∧ Below w.heap.size w w' := by
  by_cases hr : rvErr D n (lE xs) p = 0
  · obtain ⟨hEs, hp⟩ := rvErr_in hr
    rw [rvV_ok hr, hr, errV_zero]
    exact rvalue_any A0 cap n D A C AE ce xs Ap cp p w hEs hp hM hE hP
  · have HV : Hid (rvV D n (lE xs) p = (0, 0)) := rvV_bad hr
    have HEr : Hid (errV (rvErr D n (lE xs) p) = .iface 62 (.int .i64 (rvErr D n (lE xs) p))) := errV_some hr
    have hB0 := ownOC_below w A0 n cap
    have h := icheck_any A0 cap n D A C AE ce xs (ownOC w A0 n cap) (hM.later hB0) (hE.later hB0)
    have HB0 : Hid (Below w.heap.size w (ownOC w A0 n cap)) := hB0
    by_cases he : entsErr D n (lE xs) = 0
    · have hpe := rvErr_place (p := p) he
      rw [hpe] at hr HEr
      rw [he, errV_zero] at h
      have HWs : Hid (∀ w', Below w.heap.size w w' → Calls Tryz.prog 18 #[.agg #[.slice A0 n cap], .slice Ap p.length cp] w' fun e w'' => e = .returned (.tuple #[.slice none 0 0, .iface 62 (.int .i64 (placeErr D n p))]) ∧ Below w'.heap.size w' w'') := fun w' hw' => rws_bad A0 cap n D A C Ap cp p w' hr (hM.later hw') (hP.later hw')
      have HPE : Hid (rvErr D n (lE xs) p = placeErr D n p) := hpe
      clear hB0 hM hE hP hr he hpe
      generalize placeErr D n p = E at HWs HEr HPE
      generalize p.length = np at HWs
      generalize xs.length = N at h
      go_enter Tryz.func7, Tryz.ntmps7
      go_wp2_with fail
      refine h.mono ?_
      rintro e w1 ⟨rfl, hb1⟩
      have hB : Below w.heap.size w w1 := onB HB0.out hb1
      have hz1 : w.heap.size + 1 < w1.heap.size := by have := hb1.size; rw [ownOC_size] at this; omega
      have c1 : w1.cell? ⟨w.heap.size, 0, none⟩ = some (.slice A0 n cap) := (hb1.cell (p := ⟨w.heap.size, 0, none⟩) (by show w.heap.size < _; rw [ownOC_size]; omega)).trans (ownOC_o ..)
      have HK1 : Hid (w1.heap[w.heap.size + 1]? = some (.cells #[.int .i64 0, .int .i64 0] 31)) := (hb1.block (w.heap.size + 1) (by rw [ownOC_size]; omega)).trans (ownOC_b ..)
      have hws := HWs.out w1 hB
      have HB : Hid (Below w.heap.size w w1) := hB
      clear hb1 h hB
      go_wp2_with fail
      refine hws.mono ?_
      rintro e w2 ⟨rfl, hb2⟩
      have HB2 : Hid (Below w.heap.size w w2) := onB HB.out hb2
      have k4 : w2.heap[w.heap.size + 1]? = some (.cells #[.int .i64 0, .int .i64 0] 31) := (hb2.block _ hz1).trans HK1.out
      have d0 : w2.cell? ⟨w.heap.size + 1, 0, none⟩ = some (.int .i64 0) := by rw [Lib.cell_of_heap k4]; rfl
      have d1 : w2.cell? ⟨w.heap.size + 1, 1, none⟩ = some (.int .i64 0) := by rw [Lib.cell_of_heap k4]; rfl
      have f0 : w2.frozen? ⟨w.heap.size + 1, 0, none⟩ = false := Lib.frozen_of_heap k4 0
      have f1 : w2.frozen? ⟨w.heap.size + 1, 1, none⟩ = false := Lib.frozen_of_heap k4 1
      clear hb2 hws c1 HK1 HB hz1 k4
      go_wp2_with fail
      refine bodyPost_ret (v := .tuple #[.agg #[.int .i64 0, .int .i64 0], .iface 62 (.int .i64 E)]) (by simp [results, Tryz.results7, go_sem, d0, d1]) rfl ⟨by rw [HV.out, HPE.out, HEr.out], ?_⟩
      exact (HB2.out.setCell (by show w.heap.size ≤ w.heap.size + 1; omega) _).setCell (by show w.heap.size ≤ w.heap.size + 1; omega) _
    · have hpe := rvErr_ents (p := p) he
      rw [hpe] at hr HEr
      rw [errV_some he] at h
      have HPE : Hid (rvErr D n (lE xs) p = entsErr D n (lE xs)) := hpe
      clear hB0 hM hE hP hr he hpe
      generalize entsErr D n (lE xs) = E at h HEr HPE
      generalize p.length = np
      generalize xs.length = N at h
      go_enter Tryz.func7, Tryz.ntmps7
      go_wp2_with fail
      refine h.mono ?_
      rintro e w2 ⟨rfl, hb2⟩
      have HB2 : Hid (Below w.heap.size w w2) := onB HB0.out hb2
      have k4 : w2.heap[w.heap.size + 1]? = some (.cells #[.int .i64 0, .int .i64 0] 31) := (hb2.block (w.heap.size + 1) (by rw [ownOC_size]; omega)).trans (ownOC_b ..)
      have d0 : w2.cell? ⟨w.heap.size + 1, 0, none⟩ = some (.int .i64 0) := by rw [Lib.cell_of_heap k4]; rfl
      have d1 : w2.cell? ⟨w.heap.size + 1, 1, none⟩ = some (.int .i64 0) := by rw [Lib.cell_of_heap k4]; rfl
      have f0 : w2.frozen? ⟨w.heap.size + 1, 0, none⟩ = false := Lib.frozen_of_heap k4 0
      have f1 : w2.frozen? ⟨w.heap.size + 1, 1, none⟩ = false := Lib.frozen_of_heap k4 1
      clear hb2 h k4
      go_wp2_with fail
      refine bodyPost_ret (v := .tuple #[.agg #[.int .i64 0, .int .i64 0], .iface 62 (.int .i64 E)]) (by simp [results, Tryz.results7, go_sem, d0, d1]) rfl ⟨by rw [HV.out, HPE.out, HEr.out], ?_⟩
      exact (HB2.out.setCell (by show w.heap.size ≤ w.heap.size + 1; omega) _).setCell (by show w.heap.size ≤ w.heap.size + 1; omega) _
end Go.Proofs.YtmjcnlpjnbcfjacGreatDoor

namespace Go.Proofs.YtmjcnlpjnbcfjacGreatDoor
open Go.ChangeShapes Go.WideShapes Go.ChangeAt Go.RowKit
set_option maxRecDepth 20000

set_option maxHeartbeats 2000000 in
theorem ranyof_any (fn q r : Nat) (he : EntersO fn) (A0 : Option Addr) (n cap : Nat) (p : Nat → Bool) (w : World) (hn : n ≤ 4) (hp : AskP fn q r w n p) : Calls Tryz.prog 31 #[.slice A0 n cap, .func (.func fn) #[] #[.pointer (some ⟨q, 0, none⟩), .pointer (some ⟨r, 0, none⟩)]] w fun e w' => e = .returned (.bool (decide (0 ≤ findFrom p n 0))) ∧ Below w.heap.size w w' := by
  have HP : Hid (AskP fn q r w n p) := hp
  have hn' : (n : Int) ≤ 4 := by omega
  clear hp
  unfold EntersO at he
  go_enter Tryz.func31, Tryz.ntmps31
  go_wp2_with fail
  go_loopg [8] n (fun g s8 wr => ∃ (k : Nat), k ≤ n ∧ g = n - k ∧ s8 = .int .i64 k ∧ findFrom p (n - k) k = findFrom p n 0 ∧ Below w.heap.size w wr)
  case atStart => exact ⟨0, Nat.zero_le _, rfl, rfl, rfl, by go_grown⟩
  case round =>
    obtain ⟨k, hk, rfl, rfl, hf, hBw⟩ := hrel
    have HF : Hid (findFrom p (n - k) k = findFrom p n 0) := hf
    have HW : Hid (Below w.heap.size w wr) := hBw
    by_cases hlt : k < n
    · have hki : (k : Int) < (n : Int) := by omega
      have HSK : Hid (n - k = (n - (k + 1)) + 1) := by show _ = _; omega
      have hbd := HP.out k wr hlt hBw
      clear hf hBw
      cases hb : p k
      · rw [hb] at hbd
        have HK : Hid (p k = false) := hb
        clear hb
        go_wp2_with fail
        refine hbd.mono ?_
        rintro e w1 ⟨rfl, hb1⟩
        go_wp2_with fail
        go_roundg (n - (k + 1))
        case measure => omega
        case rel => exact ⟨k + 1, by omega, rfl, by go_num, by rw [← HF.out, HSK.out, findFrom_miss _ HK.out], onB HW.out hb1⟩
      · rw [hb] at hbd
        have HK : Hid (p k = true) := hb
        clear hb
        go_wp2_with fail
        refine hbd.mono ?_
        rintro e w1 ⟨rfl, hb1⟩
        go_wp2_with fail
        go_ret
        exact ⟨by rw [← HF.out, HSK.out, findFrom_hit _ HK.out, decide_eq_true (by omega)]; rfl, onB HW.out hb1⟩
    · have hke : k = n := by omega
      subst hke
      clear hf hBw
      go_wp2_with fail
      go_ret
      exact ⟨by rw [← HF.out, Nat.sub_self]; rfl, HW.out⟩

theorem rw1_in : EntersO 32 := fun args w => by simp [callFunc, Tryz.func32]; rfl
/-- what the question reads -/
def Quad (W : World) (q g k r b o : Nat) (v0 v1 v2 x : Value) : Prop := (q < W.heap.size ∧ g < W.heap.size ∧ r < W.heap.size ∧ b < W.heap.size) ∧ W.cell? ⟨q, 0, none⟩ = some v0 ∧ W.cell? ⟨g, k, none⟩ = some v1 ∧ W.cell? ⟨r, 0, none⟩ = some v2 ∧ W.cell? ⟨b, o, none⟩ = some x
theorem keepQ {W w' : World} {q g k r b o : Nat} {v0 v1 v2 x : Value} (h : Quad W q g k r b o v0 v1 v2 x) (hB : Below W.heap.size W w') : Below W.heap.size W w' ∧ w'.cell? ⟨q, 0, none⟩ = some v0 ∧ w'.cell? ⟨g, k, none⟩ = some v1 ∧ w'.cell? ⟨r, 0, none⟩ = some v2 ∧ w'.cell? ⟨b, o, none⟩ = some x := by
  obtain ⟨⟨h1, h2, h3, h4⟩, c0, c1, c2, c3⟩ := h
  exact ⟨hB, (hB.cell (p := ⟨q, 0, none⟩) h1).trans c0, (hB.cell (p := ⟨g, k, none⟩) h2).trans c1, (hB.cell (p := ⟨r, 0, none⟩) h3).trans c2, (hB.cell (p := ⟨b, o, none⟩) h4).trans c3⟩
set_option maxHeartbeats 2000000 in
theorem rw1_any (g n k q r b o c : Nat) (L : Nat → List Int) (x : Int) (w : World) (hk : k < n) (hn : n ≤ 4) (hL : (L k).length ≤ 12) (hS : SlB w g n n L) (hq : q < w.heap.size) (hr : r < w.heap.size) (hb : b < w.heap.size) (h0 : w.cell? ⟨q, 0, none⟩ = some (.slice (some ⟨g, 0, none⟩) n n)) (h1 : w.cell? ⟨r, 0, none⟩ = some (.slice (some ⟨b, o, none⟩) n c)) (hx : w.cell? ⟨b, o + k, none⟩ = some (.int .i64 x)) :
    Calls Tryz.prog 32 #[.int .i64 k, .pointer (some ⟨q, 0, none⟩), .pointer (some ⟨r, 0, none⟩)] w fun e w' => e = .returned (.bool (!inB (L k) x)) ∧ Below w.heap.size w w' := by
  obtain ⟨AL, cL, hcL, hIL⟩ := hS.get hk
  have HQd : Hid (Quad w q g k r b (o + k) (.slice (some ⟨g, 0, none⟩) n n) (.slice AL (L k).length cL) (.slice (some ⟨b, o, none⟩) n c) (.int .i64 x)) := ⟨⟨hq, hS.lt, hr, hb⟩, h0, hcL, h1, hx⟩
  have HC : Hid (∀ w', Below w.heap.size w w' → Calls Tryz.prog 33 #[.slice AL (L k).length cL, .int .i64 x] w' fun e w'' => e = .returned (.bool (inB (L k) x)) ∧ Below w'.heap.size w' w'') := fun w' hw' => contains_ints AL cL (L k) x w' hL (hIL.later hw')
  have hki : (k : Int) < (n : Int) := by omega
  have hn' : (n : Int) ≤ 4 := by omega
  generalize L k = X at HQd HC
  generalize inB X x = t at HC
  clear hS hIL hcL h0 h1 hx hL
  go_enter Tryz.func32, Tryz.ntmps32
  go_wp2_with fail
  go_region_held3 (fun w' => Below w.heap.size w w' ∧ w'.cell? ⟨q, 0, none⟩ = some (.slice (some ⟨g, 0, none⟩) n n) ∧ w'.cell? ⟨g, k, none⟩ = some (.slice AL X.length cL) ∧ w'.cell? ⟨r, 0, none⟩ = some (.slice (some ⟨b, o, none⟩) n c) ∧ w'.cell? ⟨b, o + k, none⟩ = some (.int .i64 x))
    ((refine keepQ HQd.out ?_; go_grown; done))
    (first | (go_at_call 33; refine (HC.out _ (by go_grown)).mono ?_; rintro e w6 ⟨rfl, hb6⟩; have hN6 := onB (W0 := w) (by go_grown) hb6; have hy6 := hN6.size; clear hb6))
  all_goals go_wp2_with fail
  all_goals go_ret
  all_goals exact ⟨rfl, by go_grown⟩

/-- what is wrong with a place, or with leafs in it; how they count -/
def rwErr (D : Nat → Dm) (n : Nat) (p q : List Int) : Int := if placeErr D n p ≠ 0 then placeErr D n p else if placeErr D n q ≠ 0 then placeErr D n q else if (leafV D n q && inTo D p q n) = true then 0 else 3
def rwV (D : Nat → Dm) (n : Nat) (p q : List Int) : Int := if rwErr D n p q = 0 then pwTo D p q n else 0
def noneW (D : Nat → Dm) (p q : List Int) (i : Nat) : Bool := !inB (lfs D p i) (q.getD i 0)
theorem lfs_in {D : Nat → Dm} {p : List Int} {i m : Nat} (hm : m < (D i).n) : inB (lfs D p i) (m : Int) = leafIn (D i).mem (D i).n (p.getD i 0) m := by
  cases h : leafIn (D i).mem (D i).n (p.getD i 0) m
  · unfold inB
    refine decide_eq_false fun h1 => ?_
    obtain ⟨m', e, -, h2⟩ := lfs_mem _ h1
    have : m = m' := by omega
    subst this
    rw [h] at h2
    cases h2
  · unfold inB
    exact decide_eq_true (sel_in hm h)
theorem noneW_find {D : Nat → Dm} {n : Nat} {p q : List Int} (hq : InO D n q) : decide (0 ≤ findFrom (noneW D p q) n 0) = !(leafV D n q && inTo D p q n) := by
  rw [← ok_is hq]
  have h1 : ∀ m i, i + m = n → okTo D p q i = true → (decide (0 ≤ findFrom (noneW D p q) m i) = !okTo D p q n) := by
    intro m
    induction m with
    | zero => intro i hi ho; have : i = n := by omega
              subst this; rw [ho]; simp [findFrom]
    | succ m ih =>
      intro i hi ho
      have hlo := hq.lo i (by omega)
      have hhi := hq.hi i (by omega)
      have e : inB (lfs D p i) (q.getD i 0) = leafIn (D i).mem (D i).n (p.getD i 0) (q.getD i 0).toNat := by
        have := lfs_in (D := D) (p := p) (i := i) (m := (q.getD i 0).toNat) (by omega)
        rw [show ((q.getD i 0).toNat : Int) = q.getD i 0 by omega] at this
        exact this
      cases hb : leafIn (D i).mem (D i).n (p.getD i 0) (q.getD i 0).toNat
      · have hn : noneW D p q i = true := by unfold noneW; rw [e, hb]; rfl
        rw [findFrom_hit _ hn, decide_eq_true (by omega)]
        have h2 : ∀ j, i + 1 ≤ j → okTo D p q j = false := by
          intro j hj
          induction j with
          | zero => omega
          | succ j ihj =>
            by_cases h5 : i + 1 = j + 1
            · have : i = j := by omega
              subst this
              rw [okTo, hb, Bool.and_false]
            · rw [okTo, ihj (by omega), Bool.false_and]
        rw [h2 n (by omega)]; rfl
      · have hn : noneW D p q i = false := by unfold noneW; rw [e, hb]; rfl
        rw [findFrom_miss _ hn]
        exact ih (i + 1) (by omega) (by rw [okTo, ho, hb]; rfl)
  exact h1 n 0 (by omega) rfl

set_option maxHeartbeats 4000000 in
theorem rweight_ok (A0 : Option Addr) (cap n : Nat) (D : Nat → Dm) (A : Nat → Option Addr) (C : Nat → Nat) (Ap : Option Addr) (cp : Nat) (p : List Int) (Aq : Option Addr) (cq : Nat) (q : List Int) (w : World) (hp : InO D n p) (hq : InO D n q) (hM : DimsV w A0 cap n D A C) (hP : PlAt w Ap cp p) (hQ : PlAt w Aq cq q) :
    Calls Tryz.prog 15 #[.agg #[.slice A0 n cap], .slice Ap p.length cp, .slice Aq q.length cq] w fun e w' => e = .returned (.tuple #[.int .i64 (rwV D n p q), errV (rwErr D n p q)]) ∧ Below w.heap.size w w' := by
  have HLs : Hid (∀ w', Below w.heap.size w w' → Calls Tryz.prog 25 #[.agg #[.slice A0 n cap], .slice Ap p.length cp] w' fun e w'' => (∃ g, e = .returned (.tuple #[.slice (some ⟨g, 0, none⟩) n n, .nilIface]) ∧ SlB w'' g n n (lfs D p)) ∧ Below w'.heap.size w' w'') := fun w' hw' => rls_any A0 cap n D A C Ap cp p w' hp (hM.later hw') (hP.later hw')
  have HWs : Hid (∀ w', Below w.heap.size w w' → Calls Tryz.prog 18 #[.agg #[.slice A0 n cap], .slice Ap p.length cp] w' fun e w'' => (∃ g, e = .returned (.tuple #[.slice (some ⟨g, 0, none⟩) n n, .nilIface]) ∧ SlB w'' g n n (wts D p)) ∧ Below w'.heap.size w' w'') := fun w' hw' => rws_any A0 cap n D A C Ap cp p w' hp (hM.later hw') (hP.later hw')
  have HCh : Hid (∀ w', Below w.heap.size w w' → Calls Tryz.prog 30 #[.agg #[.slice A0 n cap], .slice Aq q.length cq] w' fun e w'' => e = .returned .nilIface ∧ Below w'.heap.size w' w'') := fun w' hw' => by
    have h1 := pcheck_any A0 cap n D A C Aq cq q w' (hM.later hw') (hQ.later hw')
    rw [hq.ok, errV_zero] at h1
    exact h1
  have HPd : Hid (∀ g w', Below w.heap.size w w' → SlB w' g n n (wts D p) → Calls Tryz.prog 19 #[.slice (some ⟨g, 0, none⟩) n n, .slice Aq q.length cq] w' fun e w'' => e = .returned (.int .i64 (prTo (wts D p) q n)) ∧ Below w'.heap.size w' w'') := fun g w' hw' hS => rprod_any g n D p Aq cq q w' hq hS (hQ.later hw')
  have HQ : Hid (InO D n q) := hq
  obtain ⟨hn1, hn4, -, hd⟩ := allErr_some hp.right
  have HFd : Hid (decide (0 ≤ findFrom (noneW D p q) n 0) = !(leafV D n q && inTo D p q n)) := noneW_find hq
  have HRE : Hid (rwErr D n p q = if (leafV D n q && inTo D p q n) = true then 0 else 3) := by show _ = _; unfold rwErr; rw [hp.ok, hq.ok]; rfl
  have HLn : Hid (∀ i, i < n → (lfs D p i).length ≤ 12) := fun i hi => Nat.le_trans (lfs_len D p i) (hd i hi).2
  have HRV : Hid ((leafV D n q && inTo D p q n) = true → prTo (wts D p) q n = pwTo D p q n) := fun h => pr_wts hq (by rw [Bool.and_eq_true] at h; exact h.1) p n (Nat.le_refl _)
  have hl := hq.len
  obtain ⟨hcq, h0 | ⟨bq, oq, rfl, hbq, hcell⟩⟩ := hQ
  · rw [h0] at hl; simp at hl; omega
  rw [hl] at HCh HPd hcq
  rw [hl]
  have HC : Hid (∀ j, j < n → w.cell? ⟨bq, oq + j, none⟩ = some (.int .i64 (q.getD j 0))) := fun j hj => hcell j (by omega)
  generalize p.length = np at HLs HWs
  have hn' : (n : Int) ≤ 4 := by omega
  clear hp hq hM hP hcell hl hd
  go_enter Tryz.func15, Tryz.ntmps15
  go_wp2_with fail
  have HB0 : Hid (Below w.heap.size w (ownOP w A0 n cap (some ⟨bq, oq, none⟩) n cq 24 27)) := ownOP_below ..
  refine (HLs.out _ HB0.out).mono ?_
  rintro e w1 ⟨⟨g, rfl, hS⟩, hb1⟩
  have hB : Below w.heap.size w w1 := onB HB0.out hb1
  have hz : w.heap.size + 1 < w1.heap.size := by have := hb1.size; change (ownOP w A0 n cap (some ⟨bq, oq, none⟩) n cq 24 27).heap.size ≤ _ at this; rw [ownOP_size] at this; omega
  have c1 : w1.cell? ⟨w.heap.size, 0, none⟩ = some (.slice A0 n cap) := (hb1.cell (p := ⟨w.heap.size, 0, none⟩) (by show w.heap.size < (ownOP w A0 n cap (some ⟨bq, oq, none⟩) n cq 24 27).heap.size; rw [ownOP_size]; omega)).trans (ownOP_o ..)
  have c2 : w1.cell? ⟨w.heap.size + 1, 0, none⟩ = some (.slice (some ⟨bq, oq, none⟩) n cq) := (hb1.cell (p := ⟨w.heap.size + 1, 0, none⟩) (by show w.heap.size + 1 < (ownOP w A0 n cap (some ⟨bq, oq, none⟩) n cq 24 27).heap.size; rw [ownOP_size]; omega)).trans (ownOP_p ..)
  have HB1 : Hid (Below w.heap.size w w1) := hB
  have HS1 : Hid (SlB w1 g n n (lfs D p)) := hS
  have hz1 : w.heap.size < w1.heap.size := by omega
  clear hb1 hB hS
  go_wp2_with fail
  obtain ⟨W, hW⟩ : ∃ W, w1.alloc (.cells #[.slice (some ⟨g, 0, none⟩) n n] 57) = W := ⟨_, rfl⟩
  have hBW : Below w1.heap.size w1 W := by rw [← hW]; go_grown
  have hzW : W.heap.size = w1.heap.size + 1 := by rw [← hW]; simp
  have cW : W.cell? ⟨w1.heap.size, 0, none⟩ = some (.slice (some ⟨g, 0, none⟩) n n) := by rw [← hW]; simp
  rw [hW]
  refine (HCh.out _ (onB HB1.out hBW)).mono ?_
  rintro e w2 ⟨rfl, hb2⟩
  have hB2 : Below w1.heap.size w1 w2 := onB hBW hb2
  have d1 := (hB2.cell (p := ⟨w.heap.size, 0, none⟩) hz1).trans c1
  have d2 := (hB2.cell (p := ⟨w.heap.size + 1, 0, none⟩) hz).trans c2
  have d3 : w2.cell? ⟨w1.heap.size, 0, none⟩ = some (.slice (some ⟨g, 0, none⟩) n n) := (hb2.cell (p := ⟨w1.heap.size, 0, none⟩) (by show w1.heap.size < _; omega)).trans cW
  have hS2 := HS1.out.later hB2
  have hz2 : w1.heap.size < w2.heap.size := by have := hb2.size; omega
  have HB2 : Hid (Below w.heap.size w w2) := onB HB1.out hB2
  have hany := ranyof_any 32 w1.heap.size (w.heap.size + 1) rw1_in (some ⟨g, 0, none⟩) n n (noneW D p q) w2 hn4 (fun j w' hj hw' => rw1_any g n j w1.heap.size (w.heap.size + 1) bq oq cq (lfs D p) (q.getD j 0) w' hj hn4 (HLn.out j hj) (hS2.later hw') (Nat.lt_of_lt_of_le hz2 hw'.size) (Nat.lt_of_lt_of_le (by omega) hw'.size) (Nat.lt_of_lt_of_le hbq (onB HB2.out hw').size) ((hw'.cell (p := ⟨w1.heap.size, 0, none⟩) hz2).trans d3) ((hw'.cell (p := ⟨w.heap.size + 1, 0, none⟩) (by show w.heap.size + 1 < _; omega)).trans d2) (((onB HB2.out hw').cell (p := ⟨bq, oq + j, none⟩) hbq).trans (HC.out j hj)))
  rw [HFd.out] at hany
  have HZ2 : Hid (w.heap.size + 1 < w2.heap.size ∧ w.heap.size < w2.heap.size) := ⟨by omega, by omega⟩
  clear hW hBW hzW cW hb2 hB2 hS2 c1 c2 hz hz1 hz2
  cases ht : (leafV D n q && inTo D p q n)
  · rw [ht] at hany
    have HE3 : Hid (errV (rwErr D n p q) = .iface 62 (.int .i64 3)) := by show _ = _; rw [HRE.out, ht]; rfl
    have HV0 : Hid (rwV D n p q = 0) := by show _ = _; unfold rwV; rw [HRE.out, ht]; rfl
    clear ht
    go_wp2_with fail
    refine hany.mono ?_
    rintro e w3 ⟨rfl, hb3⟩
    go_wp2_with fail
    go_ret2
    rw [HE3.out, HV0.out]
    exact ⟨rfl, onB HB2.out hb3⟩
  · rw [ht] at hany
    have HE3 : Hid (errV (rwErr D n p q) = .nilIface) := by show _ = _; rw [HRE.out, ht]; rfl
    have HV0 : Hid (rwV D n p q = prTo (wts D p) q n) := by show _ = _; unfold rwV; rw [HRE.out, ht, HRV.out ht]; rfl
    clear ht
    go_wp2_with fail
    refine hany.mono ?_
    rintro e w3 ⟨rfl, hb3⟩
    have f1 := (hb3.cell (p := ⟨w.heap.size, 0, none⟩) HZ2.out.2).trans d1
    have f2 := (hb3.cell (p := ⟨w.heap.size + 1, 0, none⟩) HZ2.out.1).trans d2
    have HB3 : Hid (Below w.heap.size w w3) := onB HB2.out hb3
    have hz3 : w.heap.size + 1 < w3.heap.size := Nat.lt_of_lt_of_le HZ2.out.1 hb3.size
    clear hb3 d1 d2 d3 hany
    go_wp2_with fail
    refine (HWs.out _ HB3.out).mono ?_
    rintro e w4 ⟨⟨g4, rfl, hS4⟩, hb4⟩
    have HS4 : Hid (SlB w4 g4 n n (wts D p)) := hS4
    have f3 := (hb4.cell (p := ⟨w.heap.size + 1, 0, none⟩) hz3).trans f2
    have HB4 : Hid (Below w.heap.size w w4) := onB HB3.out hb4
    clear hb4 hS4 f1 f2
    go_wp2_with fail
    refine (HPd.out _ _ HB4.out HS4.out).mono ?_
    rintro e w5 ⟨rfl, hb5⟩
    have HB5 : Hid (Below w.heap.size w w5) := onB HB4.out hb5
    clear hb5 f3
    go_wp2_with fail
    go_ret2
    rw [HE3.out, HV0.out]
    exact ⟨rfl, HB5.out⟩

set_option maxHeartbeats 4000000 in
/-- what Weight answers, whatever it is called with -/
theorem rwt_any (A0 : Option Addr) (cap n : Nat) (D : Nat → Dm) (A : Nat → Option Addr) (C : Nat → Nat) (Ap : Option Addr) (cp : Nat) (p : List Int) (Aq : Option Addr) (cq : Nat) (q : List Int) (w : World) (hM : DimsV w A0 cap n D A C) (hP : PlAt w Ap cp p) (hQ : PlAt w Aq cq q) :
    Calls Tryz.prog 15 #[.agg #[.slice A0 n cap], .slice Ap p.length cp, .slice Aq q.length cq] w fun e w' => e = .returned (.tuple #[.int .i64 (rwV D n p q), errV (rwErr D n p q)]) ∧ Below w.heap.size w w' := by
  by_cases hp : placeErr D n p = 0
  · by_cases hq : placeErr D n q = 0
    · exact rweight_ok A0 cap n D A C Ap cp p Aq cq q w (inO_of hp) (inO_of hq) hM hP hQ
    · have HRE : Hid (rwErr D n p q = placeErr D n q) := by show _ = _; unfold rwErr; rw [if_neg (by simpa using hp), if_pos hq]
      have HRV : Hid (rwV D n p q = 0) := by show _ = _; unfold rwV; rw [if_neg (by rw [HRE.out]; exact hq)]
      have HER : Hid (errV (placeErr D n q) = .iface 62 (.int .i64 (placeErr D n q))) := errV_some hq
      have HLs : Hid (∀ w', Below w.heap.size w w' → Calls Tryz.prog 25 #[.agg #[.slice A0 n cap], .slice Ap p.length cp] w' fun e w'' => (∃ g, e = .returned (.tuple #[.slice (some ⟨g, 0, none⟩) n n, .nilIface]) ∧ SlB w'' g n n (lfs D p)) ∧ Below w'.heap.size w' w'') := fun w' hw' => rls_any A0 cap n D A C Ap cp p w' (inO_of hp) (hM.later hw') (hP.later hw')
      have HCh : Hid (∀ w', Below w.heap.size w w' → Calls Tryz.prog 30 #[.agg #[.slice A0 n cap], .slice Aq q.length cq] w' fun e w'' => e = .returned (.iface 62 (.int .i64 (placeErr D n q))) ∧ Below w'.heap.size w' w'') := fun w' hw' => by
        have h1 := pcheck_any A0 cap n D A C Aq cq q w' (hM.later hw') (hQ.later hw')
        rw [errV_some hq] at h1
        exact h1
      generalize placeErr D n q = E at HRE HER HCh
      generalize p.length = np at HLs
      generalize q.length = nq at HCh
      clear hp hq hM hP hQ
      go_enter Tryz.func15, Tryz.ntmps15
      go_wp2_with fail
      have HB0 : Hid (Below w.heap.size w (ownOP w A0 n cap Aq nq cq 24 27)) := ownOP_below ..
      refine (HLs.out _ HB0.out).mono ?_
      rintro e w1 ⟨⟨g, rfl, hS⟩, hb1⟩
      have hB : Below w.heap.size w w1 := onB HB0.out hb1
      have hz : w.heap.size + 1 < w1.heap.size := by have := hb1.size; change (ownOP w A0 n cap Aq nq cq 24 27).heap.size ≤ _ at this; rw [ownOP_size] at this; omega
      have c1 : w1.cell? ⟨w.heap.size, 0, none⟩ = some (.slice A0 n cap) := (hb1.cell (p := ⟨w.heap.size, 0, none⟩) (by show w.heap.size < (ownOP w A0 n cap Aq nq cq 24 27).heap.size; rw [ownOP_size]; omega)).trans (ownOP_o ..)
      have c2 : w1.cell? ⟨w.heap.size + 1, 0, none⟩ = some (.slice Aq nq cq) := (hb1.cell (p := ⟨w.heap.size + 1, 0, none⟩) (by show w.heap.size + 1 < (ownOP w A0 n cap Aq nq cq 24 27).heap.size; rw [ownOP_size]; omega)).trans (ownOP_p ..)
      have HB1 : Hid (Below w.heap.size w w1) := hB
      have hz1 : w.heap.size < w1.heap.size := by omega
      clear hb1 hB hS
      go_wp2_with fail
      refine (HCh.out _ (onB HB1.out (by go_grown))).mono ?_
      rintro e w2 ⟨rfl, hb2⟩
      have HB2 : Hid (Below w.heap.size w w2) := onB (onB HB1.out (by go_grown)) hb2
      clear hb2 c1 c2
      go_wp2_with fail
      go_ret2
      rw [HRV.out, HRE.out, HER.out]
      exact ⟨rfl, HB2.out⟩
  · have HRE : Hid (rwErr D n p q = placeErr D n p) := by show _ = _; unfold rwErr; rw [if_pos hp]
    have HRV : Hid (rwV D n p q = 0) := by show _ = _; unfold rwV; rw [if_neg (by rw [HRE.out]; exact hp)]
    have HER : Hid (errV (placeErr D n p) = .iface 62 (.int .i64 (placeErr D n p))) := errV_some hp
    have HLs : Hid (∀ w', Below w.heap.size w w' → Calls Tryz.prog 25 #[.agg #[.slice A0 n cap], .slice Ap p.length cp] w' fun e w'' => e = .returned (.tuple #[.slice none 0 0, .iface 62 (.int .i64 (placeErr D n p))]) ∧ Below w'.heap.size w' w'') := fun w' hw' => rls_bad A0 cap n D A C Ap cp p w' hp (hM.later hw') (hP.later hw')
    generalize placeErr D n p = E at HRE HER HLs
    generalize p.length = np at HLs
    generalize q.length = nq
    clear hp hM hP hQ
    go_enter Tryz.func15, Tryz.ntmps15
    go_wp2_with fail
    have HB0 : Hid (Below w.heap.size w (ownOP w A0 n cap Aq nq cq 24 27)) := ownOP_below ..
    refine (HLs.out _ HB0.out).mono ?_
    rintro e w1 ⟨rfl, hb1⟩
    have HB1 : Hid (Below w.heap.size w w1) := onB HB0.out hb1
    clear hb1
    go_wp2_with fail
    go_ret2
    rw [HRV.out, HRE.out, HER.out]
    exact ⟨rfl, HB1.out.alloc HB1.out.size _⟩
end Go.Proofs.YtmjcnlpjnbcfjacGreatDoor

namespace Go.Proofs.YtmjcnlpjnbcfjacGreatDoor
open Go Go.ChangeShapes Go.WideShapes Go.ChangeAt Go.RowKit
set_option maxRecDepth 20000

set_option maxHeartbeats 4000000 in
theorem grow_any (n : Nat) (w : World) (h1 : 1 ≤ n) (h8 : n ≤ 8) : Calls Tryz.prog 66 #[.slice none 0 0, .int .i64 n] w fun e w' => (∃ v, e = .returned v ∧ w'.ownsRow w.heap.size 3 1 v 0 []) ∧ Below w.heap.size w w' := by
  obtain ⟨i0, hi0, hz0, hz1, hz2⟩ := info_parts Tryz.infoIntP
  have hn0 : ¬ ((n : Int) < 0) := by omega
  have hn1 : (n : Int) > 0 := by omega
  have hn8 : (n : Int) ≤ 8 := by omega
  have hold : (Builtin.firstCells i0.size 0 (.slice none 0 0)).run Tryz.prog w.drew = .ok (([] : List Value).toArray) w.drew := by rw [hz1]; exact run_firstCells_none w.drew 1 0 0 0
  have hrz : ∀ ty, (Builtin.append_ #[27, 3] ty #[.slice none 0 0, .int .i64 (n : Int)]).run Tryz.prog w = _ := fun ty => Lib.run_append_grow_zeros w 27 3 ty 3 i0 (.int .i64 0) .i64 .i64 Tryz.underlying27 Tryz.underlying3 hi0 hz0 none 0 0 [] hold n (by omega) (by omega) (by omega) (by omega) (by rw [hz2]; omega) (by rw [hz2, Nat.zero_add]; exact growslice_fits (by omega) (by omega))
  rw [Nat.zero_add] at hrz
  have hGn : n ≤ grownCap w n 0 3 := grownCap_ge w _ _ _
  have hGm := grownCap_le_maxLen w n 0 3 (by unfold maxLen; omega)
  obtain ⟨G, hG⟩ : ∃ G, G = grownCap w n 0 3 := ⟨_, rfl⟩
  rw [← hG] at hrz hGn hGm
  have hG63 : G ≤ 9223372036854775807 := by unfold maxLen at hGm; omega
  obtain ⟨cs, hcs⟩ : ∃ cs, cs = ([] : List Value).toArray ++ Builtin.zeroCells (Value.int .i64 0).cells n ++ Builtin.zeroCells (Value.int .i64 0).cells (G - n) := ⟨_, rfl⟩
  have hsz : cs.size = G := by rw [hcs]; simp [Builtin.zeroCells, Value.cells]; omega
  rw [← hcs] at hrz
  have HO : Hid ((w.drew.alloc (.cells cs 3)).ownsRow w.heap.size 3 1 (.slice (some ⟨w.heap.size, 0, none⟩) 0 G) 0 []) := ⟨rfl, Or.inr ⟨w.heap.size, G, cs, rfl, Nat.le_refl _, heap_alloc_new w.drew _, Nat.zero_le _, hGm, by rw [hsz]; omega, by simp⟩⟩
  have HB : Hid (Below w.heap.size w (w.drew.alloc (.cells cs 3))) := by show Below _ _ _; go_grown
  clear hold hG hcs hsz hGm
  go_enter Tryz.func66, Tryz.ntmps66
  go_wp2_with (at_builtin; refine Lib.wpList_append_run _ rfl _ _ _ _ rfl _ _ rfl rfl _ _ (hrz _) ?_)
  all_goals go_ret
  all_goals exact ⟨⟨_, rfl, HO.out⟩, HB.out⟩

/-- a place as a part of a longer one: nothing, or numbers in a block of ints -/
def HeadV (w : World) (A : Option Addr) (c : Nat) (L : List Int) : Prop := (A = none ∧ c = 0 ∧ L = []) ∨ (L ≠ [] ∧ PlTy w A c L)
theorem HeadV.pl {w : World} {A : Option Addr} {c : Nat} {L : List Int} (h : HeadV w A c L) : PlAt w A c L := by
  rcases h with ⟨rfl, rfl, rfl⟩ | ⟨-, h⟩
  · exact PlAt.nil _ _ _
  · exact h.pl
theorem HeadV.later {w w' : World} {A : Option Addr} {c : Nat} {L : List Int} (h : HeadV w A c L) (hB : Below w.heap.size w w') : HeadV w' A c L := by
  rcases h with h | ⟨h1, h⟩
  · exact Or.inl h
  · exact Or.inr ⟨h1, h.later hB⟩
theorem HeadV.cells {w : World} {b o c : Nat} {L : List Int} (h : HeadV w (some ⟨b, o, none⟩) c L) : ∀ j u, (L.map (Value.int .i64))[j]? = some u → w.cell? ((⟨b, o, none⟩ : Addr).add j) = some u := by
  intro j u hj
  obtain ⟨-, h0 | ⟨b', o', h0, -, hcell⟩⟩ := h.pl
  · subst h0; simp at hj
  · cases h0
    have hlt : j < L.length := by have := (List.getElem?_eq_some_iff.1 hj).1; simpa using this
    rw [plain_add, hcell j hlt]
    simp only [List.getElem?_map, List.getElem?_eq_getElem hlt, Option.map_some, Option.some.injEq] at hj
    rw [← hj, List.getD_eq_getElem?_getD, List.getElem?_eq_getElem hlt]
    rfl

theorem one_at {w : World} {q : Nat} {x : Value} (h : w.cell? ⟨q, 0, none⟩ = some x) : ∀ j u, [x][j]? = some u → w.cell? ((⟨q, 0, none⟩ : Addr).add j) = some u := by
  intro j u hj
  cases j with
  | zero =>
    simp at hj
    rw [plain_add, ← hj]
    exact h
  | succ j => simp at hj

set_option maxHeartbeats 8000000 in
theorem concat_any (b bk : Nat) (Ah : Option Addr) (ch : Nat) (h : List Int) (k : Int) (w : World) (h3 : h.length ≤ 3) (hH : HeadV w Ah ch h) (c0 : w.cell? ⟨b, 0, none⟩ = some (.slice Ah h.length ch)) (c1 : w.cell? ⟨b, 1, none⟩ = some (.slice (some ⟨bk, 0, none⟩) 1 1)) (ck : w.cell? ⟨bk, 0, none⟩ = some (.int .i64 k)) :
    Calls Tryz.prog 42 #[.slice (some ⟨b, 0, none⟩) 2 2] w fun e w' => (∃ A' c', e = .returned (.slice A' (h ++ [k]).length c') ∧ PlTy w' A' c' (h ++ [k])) ∧ Below w.heap.size w w' := by
  obtain ⟨i0, hi0, hz0, hz1, hz2⟩ := info_parts Tryz.infoIntP
  have HH : Hid (HeadV w Ah ch h) := hH
  have zb := World.block_lt_of_cell? _ _ c0
  have zk := World.block_lt_of_cell? _ _ ck
  have HCells : Hid (w.cell? ⟨b, 0, none⟩ = some (.slice Ah h.length ch) ∧ w.cell? ⟨b, 1, none⟩ = some (.slice (some ⟨bk, 0, none⟩) 1 1) ∧ w.cell? ⟨bk, 0, none⟩ = some (.int .i64 k)) := ⟨c0, c1, ck⟩
  obtain ⟨nh, hnh⟩ : ∃ nh, h.length = nh := ⟨_, rfl⟩
  have HNH : Hid (h.length = nh) := hnh
  have hgr := grow_any (nh + 1) w (by omega) (by omega)
  have hnh3 : (nh : Int) ≤ 3 := by omega
  have hcast : ((nh + 1 : Nat) : Int) = (nh : Int) + 1 := by omega
  rw [hcast] at hgr
  rw [hnh] at c0
  have HF : Hid (∀ (w' : World) (v : Value), w'.ownsRow w.heap.size 3 1 v (nh + 1) ((h ++ [k]).map (Value.int .i64)) → ∃ A' c', v = .slice A' (h ++ [k]).length c' ∧ PlTy w' A' c' (h ++ [k])) := fun w' v hv => plty_own (by rw [List.length_append, HNH.out]; exact hv)
  clear hH hnh hcast
  go_enter Tryz.func42, Tryz.ntmps42
  go_wp2_with fail
  refine wp_loop_rounds 3 ?_
  rw [rounds_succ]
  go_wp2_with fail
  rw [rounds_succ]
  go_wp2_with fail
  rw [rounds_succ]
  go_wp2_with fail
  refine hgr.mono ?_
  rintro e w1 ⟨⟨v, rfl, hown⟩, hb1⟩
  have HB1 : Hid (Below w.heap.size w w1) := hb1
  have HO1 : Hid (w1.ownsRow w.heap.size 3 1 v 0 []) := hown
  have x0 := (hb1.cell (p := ⟨b, 0, none⟩) zb).trans HCells.out.1
  have x1 := (hb1.cell (p := ⟨b, 1, none⟩) zb).trans HCells.out.2.1
  rw [HNH.out] at x0
  clear hb1 hown hgr c0 c1 ck
  go_wp2_with fail
  refine wp_loop_rounds 3 ?_
  rw [rounds_succ]
  cases Ah with
  | none =>
    have h0 : h = [] ∧ ch = 0 := by
      rcases HH.out with ⟨-, h2, h1⟩ | ⟨h1, h2⟩
      · exact ⟨h1, h2⟩
      · obtain ⟨-, h4 | ⟨b', o', cs, fr, h4, -⟩⟩ := h2
        · exact absurd h4 h1
        · cases h4
    obtain ⟨rfl, rfl⟩ := h0
    have hn0 : nh = 0 := by have := HNH.out; simp at this; exact this.symm
    subst hn0
    go_wp2_with (at_builtin; refine wpList_append_own_none rfl _ _ 27 rfl w.heap.size 3 i0 1 Tryz.underlying27 hi0 _ 0 _ rfl HO1.out rfl ?_)
    rw [rounds_succ]
    have ck1 := (HB1.out.cell (p := ⟨bk, 0, none⟩) zk).trans HCells.out.2.2
    have hsz := HB1.out.size
    clear x0
    go_wp2_with (at_builtin; refine wpList_append_own _ rfl _ _ 27 rfl w.heap.size 3 i0 (.int .i64 0) 1 8 Tryz.underlying27 hi0 hz0 hz1 hz2 rfl (by decide) _ _ _ rfl HO1.out ⟨bk, 0, none⟩ 1 1 [.int .i64 k] rfl rfl ?qc2 one_one ?qc4 ?qc5 ?qc6 ?_)
    case qc2 => exact one_at ck1
    case qc4 => simp only [maxLen]; omega
    case qc5 => omega
    case qc6 => exact hsz
    intro v' w2 hown hgrow hnil
    obtain ⟨A', c', rfl, hT⟩ := HF.out _ _ hown
    have HT : Hid (PlTy w2 A' c' ([] ++ [k])) := hT
    have HB : Hid (Below w.heap.size w w2) := HB1.out.grown hgrow hsz (fun j hj => (HO1.out.lt j hj).1)
    clear hown hgrow hnil hT
    go_wp2_with fail
    rw [rounds_succ]
    go_wp2_with fail
    go_ret
    exact ⟨⟨A', c', rfl, HT.out⟩, HB.out⟩
  | some a =>
    obtain ⟨b', o', rfl⟩ : ∃ b' o', a = ⟨b', o', none⟩ := by
      rcases HH.out with ⟨h1, -⟩ | ⟨h1, -, h4 | ⟨b', o', cs, fr, h4, -⟩⟩
      · cases h1
      · exact absurd h4 h1
      · cases h4; exact ⟨b', o', rfl⟩
    have hsz := HB1.out.size
    have HHc := (HH.out.later HB1.out).cells
    go_wp2_with (at_builtin; refine wpList_append_own _ rfl _ _ 27 rfl w.heap.size 3 i0 (.int .i64 0) 1 8 Tryz.underlying27 hi0 hz0 hz1 hz2 rfl (by decide) _ _ _ rfl HO1.out ⟨b', o', none⟩ nh ch (h.map (Value.int .i64)) rfl ?qc1 ?qc2 ?qc3 ?qc4 ?qc5 ?qc6 ?_)
    case qc1 => simp [HNH.out]
    case qc2 => exact HHc
    case qc3 => intro u hu; simp at hu; obtain ⟨x, -, rfl⟩ := hu; rfl
    case qc4 => simp only [maxLen]; omega
    case qc5 => omega
    case qc6 => exact hsz
    intro v2 w2 hown hgrow hnil
    have HO2 : Hid (w2.ownsRow w.heap.size 3 1 v2 nh (h.map (Value.int .i64))) := by
      show World.ownsRow ..
      simpa using hown
    have hne : ∀ q, q < w.heap.size → some q ≠ v.ownBlock := fun q hq e => by have := (HO1.out.lt q e.symm).1; omega
    have y1 := (World.cell?_of_block (a := ⟨b, 1, none⟩) (hgrow.block b (Nat.lt_of_lt_of_le zb hsz) (hne b zb))).trans x1
    have yk := (World.cell?_of_block (a := ⟨bk, 0, none⟩) (hgrow.block bk (Nat.lt_of_lt_of_le zk hsz) (hne bk zk))).trans ((HB1.out.cell (p := ⟨bk, 0, none⟩) zk).trans HCells.out.2.2)
    have HB2 : Hid (Below w.heap.size w w2) := HB1.out.grown hgrow hsz (fun j hj => (HO1.out.lt j hj).1)
    have hsz2 := HB2.out.size
    clear hown hgrow hnil hne HHc x0 x1
    go_wp2_with fail
    rw [rounds_succ]
    go_wp2_with (at_builtin; refine wpList_append_own _ rfl _ _ 27 rfl w.heap.size 3 i0 (.int .i64 0) 1 8 Tryz.underlying27 hi0 hz0 hz1 hz2 rfl (by decide) _ _ _ rfl HO2.out ⟨bk, 0, none⟩ 1 1 [.int .i64 k] rfl rfl ?qd2 one_one ?qd4 ?qd5 ?qd6 ?_)
    case qd2 => exact one_at yk
    case qd4 => simp only [maxLen]; omega
    case qd5 => omega
    case qd6 => exact hsz2
    intro v' w3 hown hgrow hnil
    obtain ⟨A', c', rfl, hT⟩ := HF.out w3 v' (by rw [List.map_append]; simpa using hown)
    have HT : Hid (PlTy w3 A' c' (h ++ [k])) := hT
    have HB : Hid (Below w.heap.size w w3) := HB2.out.grown hgrow hsz2 (fun j hj => (HO2.out.lt j hj).1)
    clear hown hgrow hnil hT
    go_wp2_with fail
    rw [rounds_succ]
    go_wp2_with fail
    go_ret
    exact ⟨⟨A', c', rfl, HT.out⟩, HB.out⟩
end Go.Proofs.YtmjcnlpjnbcfjacGreatDoor

namespace Go.Proofs.YtmjcnlpjnbcfjacGreatDoor
open Go Go.ChangeShapes Go.WideShapes Go.ChangeAt Go.RowKit
set_option maxRecDepth 20000

/-- a place, and where it lies -/
structure PL where
  p : List Int
  A : Option Addr
  c : Nat
def noP : PL := ⟨[], none, 0⟩
def lP (xs : List PL) : List (List Int) := xs.map PL.p
theorem lP_len (xs : List PL) : (lP xs).length = xs.length := by simp [lP]
theorem lP_append (a b : List PL) : lP (a ++ b) = lP a ++ lP b := by simp [lP]
def cellsP (xs : List PL) : List Value := xs.map fun x => .slice x.A x.p.length x.c
theorem cellsP_append (a b : List PL) : cellsP (a ++ b) = cellsP a ++ cellsP b := by simp [cellsP]
theorem pl_mem {xs : List PL} {k : Nat} (h : k < xs.length) : xs.getD k noP ∈ xs := by
  rw [List.getD_eq_getElem?_getD, List.getElem?_eq_getElem h]
  exact List.getElem_mem h
theorem lP_at (xs : List PL) (k : Nat) : (lP xs).getD k [] = (xs.getD k noP).p := by
  rw [List.getD_eq_getElem?_getD, List.getD_eq_getElem?_getD, lP, List.getElem?_map]
  cases xs[k]? <;> rfl
theorem cellsP_at {xs : List PL} {k : Nat} (h : k < xs.length) : (cellsP xs)[k]? = some (.slice (xs.getD k noP).A (xs.getD k noP).p.length (xs.getD k noP).c) := by
  simp [cellsP, List.getD, h]
/-- a slice of places: none, or laid -/
def PlsV (w : World) (A : Option Addr) (cap : Nat) (xs : List PL) : Prop := xs.length ≤ cap ∧ (xs = [] ∨ ∃ b o, A = some ⟨b, o, none⟩ ∧ b < w.heap.size ∧ ∀ k, k < xs.length → w.cell? ⟨b, o + k, none⟩ = some (.slice (xs.getD k noP).A (xs.getD k noP).p.length (xs.getD k noP).c)) ∧ ∀ x ∈ xs, HeadV w x.A x.c x.p
theorem PlsV.later {w w' : World} {A : Option Addr} {cap : Nat} {xs : List PL} (h : PlsV w A cap xs) (hB : Below w.heap.size w w') : PlsV w' A cap xs := by
  obtain ⟨h1, h2, h3⟩ := h
  refine ⟨h1, ?_, fun x hx => (h3 x hx).later hB⟩
  rcases h2 with h2 | ⟨b, o, h2, h4, h5⟩
  · exact Or.inl h2
  · exact Or.inr ⟨b, o, h2, Nat.lt_of_lt_of_le h4 hB.size, fun k hk => (hB.cell (p := ⟨b, o + k, none⟩) h4).trans (h5 k hk)⟩
theorem PlsV.nil (w : World) (A : Option Addr) (cap : Nat) : PlsV w A cap [] := ⟨Nat.zero_le _, Or.inl rfl, fun x hx => by cases hx⟩
theorem pls_own {w : World} {base : Nat} {v : Value} {xs : List PL} (h : w.ownsRow base 27 1 v xs.length (cellsP xs)) (hp : ∀ x ∈ xs, x.p ≠ [] ∧ PlTy w x.A x.c x.p) : ∃ A c, v = .slice A xs.length c ∧ PlsV w A c xs := by
  rcases h.2 with ⟨rfl, h0⟩ | ⟨g, cap, cur, rfl, hb, hg, hc, _, _, _⟩
  · have : xs = [] := List.eq_nil_of_length_eq_zero h0
    subst this
    exact ⟨none, 0, rfl, PlsV.nil _ _ _⟩
  · refine ⟨_, cap, rfl, hc, Or.inr ⟨g, 0, rfl, (Array.getElem?_eq_some_iff.1 hg).1, fun k hk => ?_⟩, fun x hx => Or.inr (hp x hx)⟩
    have y := h.cells (g := g) rfl k _ (cellsP_at hk)
    rw [plain_add] at y
    exact y
theorem place_ne_int : (3 : Nat) ≠ 27 := by decide
theorem plty_row {w w' : World} {base : Nat} {v : Value} {n : Nat} {zs : List Value} {A : Option Addr} {c : Nat} {L : List Int} (h : PlTy w A c L) (hown : w.ownsRow base 27 1 v n zs) (hG : w.grownBy w' v.ownBlock) : PlTy w' A c L := by
  obtain ⟨h1, h2 | ⟨b, o, cs, fr', h2, h3, h4⟩⟩ := h
  · exact ⟨h1, Or.inl h2⟩
  · have hne : some b ≠ v.ownBlock := by
      intro e
      rcases hown.2 with ⟨rfl, -⟩ | ⟨g, cap, cur, rfl, -, hg, -⟩
      · cases e
      · simp only [Value.ownBlock, Option.some.injEq] at e
        rw [e, hg] at h3
        simp only [Option.some.injEq, Obj.cells.injEq] at h3
        exact place_ne_int h3.2.1.symm
    have hb : w'.heap[b]? = w.heap[b]? := hG.block b (Array.getElem?_eq_some_iff.1 h3).1 hne
    exact ⟨h1, Or.inr ⟨b, o, cs, fr', h2, hb.trans h3, fun j hj => (World.cell?_of_block (a := ⟨b, o + j, none⟩) hb).trans (h4 j hj)⟩⟩
theorem Tryz.infoPla : (Tryz.prog.info? 27).map (fun i => (i.zero, i.size, i.bytes)) = some (some (.slice none 0 0), 1, 24) := by kernel_rfl

/-- a world with a number in a block, and a head and that number in the next one -/
def catW (w : World) (A : Option Addr) (l c : Nat) (k : Int) : World := (w.alloc (.cells #[.int .i64 k] 3)).alloc (.cells #[.slice A l c, .slice (some ⟨w.heap.size, 0, none⟩) 1 1] 27)
theorem catW_below (w : World) (A : Option Addr) (l c : Nat) (k : Int) : Below w.heap.size w (catW w A l c k) := by unfold catW; go_grown
theorem catW_1 (w : World) (A : Option Addr) (l c : Nat) (k : Int) : (catW w A l c k).cell? ⟨w.heap.size + 1, 0, none⟩ = some (.slice A l c) ∧ (catW w A l c k).cell? ⟨w.heap.size + 1, 1, none⟩ = some (.slice (some ⟨w.heap.size, 0, none⟩) 1 1) ∧ (catW w A l c k).cell? ⟨w.heap.size, 0, none⟩ = some (.int .i64 k) := by
  have h := heap_alloc_new (w.alloc (.cells #[.int .i64 k] 3)) (.cells #[.slice A l c, .slice (some ⟨w.heap.size, 0, none⟩) 1 1] 27)
  rw [show (w.alloc (.cells #[.int .i64 k] 3)).heap.size = w.heap.size + 1 by simp] at h
  have h0 : (catW w A l c k).heap[w.heap.size]? = some (.cells #[.int .i64 k] 3) := by
    unfold catW
    rw [Below.heap_alloc _ _ _ (by simp)]
    exact heap_alloc_new w _
  refine ⟨?_, ?_, ?_⟩
  · exact (Lib.cell_of_heap h 0).trans rfl
  · exact (Lib.cell_of_heap h 1).trans rfl
  · rw [Lib.cell_of_heap h0]; rfl
theorem longL_take {Ps : List (List Int)} {X : List Int} {k : Nat} (h : k < Ps.length) : longL (Ps.take (k + 1)) X = longL (Ps.take k) X ++ X.map fun x => Ps.getD k [] ++ [x] := by
  rw [List.take_succ_eq_append_getElem h, longL_snoc, List.getD_eq_getElem?_getD, List.getElem?_eq_getElem h]
  rfl
theorem map_take {X : List Int} {h : List Int} {j : Nat} (hj : j < X.length) : (X.take (j + 1)).map (fun x => h ++ [x]) = (X.take j).map (fun x => h ++ [x]) ++ [h ++ [X.getD j 0]] := by
  rw [List.take_succ_eq_append_getElem hj, List.map_append, List.getD_eq_getElem?_getD, List.getElem?_eq_getElem hj]
  rfl

set_option maxHeartbeats 8000000 in
theorem longer_any (A : Option Addr) (cap : Nat) (xs : List PL) (AM : Option Addr) (cM : Nat) (X : List Int) (w : World) (hN : xs.length ≤ 20736) (hX : X.length ≤ 12) (h3 : ∀ x ∈ xs, x.p.length ≤ 3) (hP : PlsV w A cap xs) (hI : IntsAt w AM cM X) :
    Calls Tryz.prog 26 #[.slice A xs.length cap, .slice AM X.length cM] w fun e w' => (∃ A' c' ys, e = .returned (.slice A' ys.length c') ∧ PlsV w' A' c' ys ∧ lP ys = longL (lP xs) X) ∧ Below w.heap.size w w' := by
  obtain ⟨i0, hi0, hz0, hz1, hz2⟩ := info_parts Tryz.infoPla
  have HP : Hid (PlsV w A cap xs) := hP
  have HI : Hid (IntsAt w AM cM X) := hI
  have H3 : Hid (∀ x ∈ xs, x.p.length ≤ 3) := h3
  obtain ⟨N, hNe⟩ : ∃ N, xs.length = N := ⟨_, rfl⟩
  have HN : Hid (xs.length = N) := hNe
  obtain ⟨M, hMe⟩ : ∃ M, X.length = M := ⟨_, rfl⟩
  have HM : Hid (X.length = M) := hMe
  rw [hNe] at hN
  rw [hMe] at hX
  rw [hNe, hMe]
  have hN' : (N : Int) ≤ 20736 := by omega
  have hX' : (M : Int) ≤ 12 := by omega
  clear hP hI h3 hNe hMe
  go_enter Tryz.func26, Tryz.ntmps26
  go_wp2_with fail
  go_loopg [5, 12] N (fun g s5 s12 wr => ∃ (i : Nat) (ys : List PL), i ≤ N ∧ g = N - i ∧ s12 = .int .i64 i ∧ Hid (lP ys = longL ((lP xs).take i) X ∧ ∀ y ∈ ys, y.p ≠ [] ∧ PlTy wr y.A y.c y.p) ∧ wr.ownsRow w.heap.size 27 1 s5 ys.length (cellsP ys) ∧ Below w.heap.size w wr)
  case atStart => exact ⟨0, [], Nat.zero_le _, rfl, rfl, (⟨rfl, fun y hy => by cases hy⟩ : _ ∧ _), World.ownsRow_nil _ _ _ _, Below.refl _ _⟩
  case round =>
    obtain ⟨i, ys, hi, rfl, rfl, HY, hown, hBw⟩ := hrel
    have HBw : Hid (Below w.heap.size w wr) := hBw
    have HOw : Hid (wr.ownsRow w.heap.size 27 1 u5 ys.length (cellsP ys)) := hown
    have HYL : Hid (ys.length = i * M) := by
      show _ = _
      rw [← lP_len, HY.out.1, longL_len, HM.out, List.length_take, lP_len, HN.out, Nat.min_eq_left hi]
    by_cases hlt : i < N
    · have hii : (i : Int) < (N : Int) := by omega
      have hix : i < xs.length := by rw [HN.out]; exact hlt
      obtain ⟨hcap, h0 | ⟨b, o, rfl, hbz, hcell⟩, hhead⟩ := HP.out.later hBw
      · rw [h0] at hix; simp at hix
      have ch := hcell i hix
      have hhd := hhead _ (pl_mem hix)
      have hh3 := H3.out _ (pl_mem hix)
      rw [HN.out] at hcap
      have HNx : Hid (longL ((lP xs).take (i + 1)) X = longL ((lP xs).take i) X ++ X.map fun x => (xs.getD i noP).p ++ [x]) := by
        show _ = _
        rw [longL_take (by rw [lP_len]; exact hix), lP_at]
      obtain ⟨h, hhe⟩ : ∃ h, (xs.getD i noP).p = h := ⟨_, rfl⟩
      rw [hhe] at ch hhd hh3 HNx
      generalize (xs.getD i noP).A = Ah at ch hhd
      generalize (xs.getD i noP).c = chh at ch hhd
      have HHd : Hid (HeadV wr Ah chh h) := hhd
      have HH3 : Hid (h.length ≤ 3) := hh3
      obtain ⟨nh, hnh⟩ : ∃ nh, h.length = nh := ⟨_, rfl⟩
      have HNH : Hid (h.length = nh) := hnh
      rw [hnh] at ch
      clear hcell hhead hhd hh3 hown hBw hhe hnh
      go_wp2_with fail
      go_loopg [5, 18] M (fun gg s5 s18 wi => ∃ (j : Nat) (zs : List PL), j ≤ M ∧ gg = M - j ∧ s18 = .int .i64 j ∧ Hid (lP zs = longL ((lP xs).take i) X ++ (X.take j).map (fun x => h ++ [x]) ∧ ∀ y ∈ zs, y.p ≠ [] ∧ PlTy wi y.A y.c y.p) ∧ wi.ownsRow w.heap.size 27 1 s5 zs.length (cellsP zs) ∧ Below w.heap.size w wi ∧ HeadV wi Ah chh h)
      case atStart => exact ⟨0, ys, Nat.zero_le _, rfl, rfl, (⟨by rw [HY.out.1]; simp, HY.out.2⟩ : _ ∧ _), HOw.out, HBw.out, HHd.out⟩
      case round =>
        obtain ⟨wj, rfl⟩ : ∃ wj : World, wj = wr := ⟨_, rfl⟩
        obtain ⟨j, zs, hj, rfl, rfl, HZ, hown, hBj, hHj⟩ := hrel
        have HBj : Hid (Below w.heap.size w wj) := hBj
        have HHj : Hid (HeadV wj Ah chh h) := hHj
        have HO : Hid (wj.ownsRow w.heap.size 27 1 u5 zs.length (cellsP zs)) := hown
        have hZL : zs.length = i * M + j := by
          have h1 : zs.length = (lP zs).length := (lP_len zs).symm
          rw [h1, HZ.out.1, List.length_append, longL_len, HM.out, List.length_take, lP_len, HN.out, Nat.min_eq_left (by omega), List.length_map, List.length_take, HM.out, Nat.min_eq_left hj]
        have hiM : i * M ≤ 20736 * 12 := Nat.mul_le_mul (by omega) hX
        by_cases hjl : j < M
        · have hji : (j : Int) < (M : Int) := by omega
          have hjX : j < X.length := by rw [HM.out]; exact hjl
          obtain ⟨hcM, h0 | ⟨bm, rfl, hbm, hcellm⟩⟩ := HI.out.later hBj
          · rw [h0] at hjX; simp at hjX
          have cx := hcellm j hjX
          rw [HM.out] at hcM
          have HNj : Hid ((X.take (j + 1)).map (fun x => h ++ [x]) = (X.take j).map (fun x => h ++ [x]) ++ [h ++ [X.getD j 0]]) := map_take hjX
          generalize X.getD j 0 = x at cx HNj
          have hbw := catW_below wj Ah nh chh x
          obtain ⟨k0, k1, k2⟩ := catW_1 wj Ah nh chh x
          have hcat := concat_any (wj.heap.size + 1) wj.heap.size Ah chh h x (catW wj Ah nh chh x) HH3.out (hHj.later hbw) (by rw [HNH.out]; exact k0) k1 k2
          have HBc : Hid (Below wj.heap.size wj (catW wj Ah nh chh x)) := hbw
          rw [List.length_append, HNH.out, List.length_singleton] at hcat
          have HZL : Hid (zs.length = i * M + j ∧ i * M ≤ 248832) := ⟨hZL, by omega⟩
          unfold catW at hcat
          clear hcellm hjX hown hBj hHj hbw k0 k1 k2 hZL hiM
          go_wp2_with fail
          refine hcat.mono ?_
          rintro e w1 ⟨⟨A', c', rfl, hT⟩, hb1⟩
          have hB1 : Below wj.heap.size wj w1 := onB HBc.out (by unfold catW; exact hb1)
          have HB1 : Hid (Below w.heap.size w w1) := onB HBj.out hB1
          have HO1 : Hid (w1.ownsRow w.heap.size 27 1 u5 zs.length (cellsP zs)) := own_later HO.out hB1
          have HZ1 : Hid (∀ y ∈ zs, y.p ≠ [] ∧ PlTy w1 y.A y.c y.p) := fun y hy => ⟨(HZ.out.2 y hy).1, (HZ.out.2 y hy).2.later hB1⟩
          have HT1 : Hid (PlTy w1 A' c' (h ++ [x])) := hT
          have HH1 : Hid (HeadV w1 Ah chh h) := HHj.out.later hB1
          have hsz := HB1.out.size
          clear hb1 hT hB1 hcat cx
          go_wp2_with (at_builtin; refine wpList_append_own _ rfl _ _ 39 rfl w.heap.size 27 i0 (.slice none 0 0) 1 24 Tryz.underlying39 hi0 hz0 hz1 hz2 rfl (by decide) _ _ _ rfl (HO1.out.alloc _) ⟨w1.heap.size, 0, none⟩ 1 1 [.slice A' (nh + 1) c'] rfl rfl one_cell ?qe3 ?qe4 ?qe5 ?qe6 ?_)
          case qe3 => intro u hu; simp at hu; subst hu; rfl
          case qe4 => have := HZL.out; simp only [maxLen]; omega
          case qe5 => have := HZL.out; omega
          case qe6 => simp; omega
          intro v' w2 hown' hgrow hnil
          have HB2 : Hid (Below w.heap.size w w2) := grown_own HB1.out HO1.out hgrow
          have hal : ∀ {B : Option Addr} {d : Nat} {Y : List Int}, PlTy w1 B d Y → PlTy w2 B d Y := fun hY => plty_row (hY.later (by go_grown)) (HO1.out.alloc _) hgrow
          have HZ2 : Hid (lP (zs ++ [(⟨h ++ [x], A', c'⟩ : PL)]) = longL ((lP xs).take i) X ++ (X.take (j + 1)).map (fun x => h ++ [x]) ∧ ∀ y ∈ zs ++ [(⟨h ++ [x], A', c'⟩ : PL)], y.p ≠ [] ∧ PlTy w2 y.A y.c y.p) := by
            refine ⟨by rw [lP_append, HZ.out.1, HNj.out, List.append_assoc]; rfl, fun y hy => ?_⟩
            rcases List.mem_append.1 hy with hy | hy
            · exact ⟨(HZ1.out y hy).1, hal (HZ1.out y hy).2⟩
            · rw [List.mem_singleton.1 hy]
              exact ⟨by simp, hal HT1.out⟩
          have HO2 : Hid (w2.ownsRow w.heap.size 27 1 v' (zs ++ [(⟨h ++ [x], A', c'⟩ : PL)]).length (cellsP (zs ++ [(⟨h ++ [x], A', c'⟩ : PL)]))) := by
            show World.ownsRow ..
            rw [cellsP_append, List.length_append]
            have e : cellsP [(⟨h ++ [x], A', c'⟩ : PL)] = [.slice A' (nh + 1) c'] := by simp [cellsP, HNH.out]
            rw [e]
            exact hown'
          have HH2 : Hid (HeadV w2 Ah chh h) := by
            rcases HH1.out with hh | ⟨h1, hh⟩
            · exact Or.inl hh
            · exact Or.inr ⟨h1, hal hh⟩
          clear hown' hgrow hnil hal
          go_wp2_with fail
          go_roundg (M - (j + 1))
          case measure => omega
          case rel => exact ⟨j + 1, _, by omega, rfl, by go_num, HZ2, HO2.out, HB2.out, HH2.out⟩
        · have hje : j = M := by omega
          subst hje
          have HY2 : Hid (lP zs = longL ((lP xs).take (i + 1)) X ∧ ∀ y ∈ zs, y.p ≠ [] ∧ PlTy wj y.A y.c y.p) := by
            refine ⟨?_, HZ.out.2⟩
            have e : X.take j = X := List.take_of_length_le (by rw [HM.out]; exact Nat.le_refl _)
            rw [HZ.out.1, HNx.out, e]
          clear hBj hHj hown hZL hiM
          go_wp2_with fail
          go_roundg (N - (i + 1))
          case measure => omega
          case rel => exact ⟨i + 1, zs, by omega, rfl, by go_num, HY2, HO.out, HBj.out⟩
    · have hie : i = N := by omega
      subst hie
      have HFin : Hid (lP ys = longL (lP xs) X) := by show _ = _; rw [HY.out.1, List.take_of_length_le (by rw [lP_len, HN.out]; exact Nat.le_refl _)]
      clear hown hBw
      go_wp2_with fail
      go_ret
      obtain ⟨A', c', h1, h2⟩ := pls_own HOw.out HY.out.2
      exact ⟨⟨A', c', ys, by rw [← h1]; rfl, h2, HFin.out⟩, HBw.out⟩

set_option maxHeartbeats 8000000 in
theorem rlfs_any (A0 : Option Addr) (cap n : Nat) (D : Nat → Dm) (A : Nat → Option Addr) (C : Nat → Nat) (Ap : Option Addr) (cp : Nat) (p : List Int) (w : World) (hp : InO D n p) (hM : DimsV w A0 cap n D A C) (hP : PlAt w Ap cp p) :
    Calls Tryz.prog 11 #[.agg #[.slice A0 n cap], .slice Ap p.length cp] w fun e w' => (∃ A' c' ys, e = .returned (.tuple #[.slice A' ys.length c', .nilIface]) ∧ PlsV w' A' c' ys ∧ lP ys = lfTo D p n) ∧ Below w.heap.size w w' := by
  obtain ⟨hn1, hn4, -, hd⟩ := allErr_some hp.right
  have hB0 := ownOut_below w A0 n cap 24
  have h := rls_any A0 cap n D A C Ap cp p (ownOut w A0 n cap 24) hp (hM.later hB0) (hP.later hB0)
  have HB0 : Hid (Below w.heap.size w (ownOut w A0 n cap 24)) := hB0
  have hn' : (n : Int) ≤ 4 := by omega
  have HD : Hid (∀ i, i < n → 1 ≤ (D i).n ∧ (D i).n ≤ 12) := hd
  generalize p.length = np at h
  clear hM hP hB0 hp hd
  go_enter Tryz.func11, Tryz.ntmps11
  go_wp2_with fail
  refine h.mono ?_
  rintro e w1 ⟨⟨g, rfl, hS⟩, hb1⟩
  have HB1 : Hid (Below w.heap.size w w1) := onB HB0.out hb1
  obtain ⟨v1, hv1⟩ : ∃ v, w1.alloc (.cells #[.slice none 0 0] 27) = v := ⟨_, rfl⟩
  have hBv : Below w1.heap.size w1 v1 := by rw [← hv1]; go_grown
  have HBv : Hid (Below w.heap.size w v1) := onB HB1.out hBv
  have HSv : Hid (SlB v1 g n n (lfs D p)) := hS.later hBv
  have HPv : Hid (PlsV v1 (some ⟨w1.heap.size, 0, none⟩) 1 [noP]) := by
    have hc : v1.heap[w1.heap.size]? = some (.cells #[.slice none 0 0] 27 (0, 0)) := by rw [← hv1]; exact heap_alloc_new ..
    refine ⟨Nat.le_refl _, Or.inr ⟨w1.heap.size, 0, rfl, (Array.getElem?_eq_some_iff.1 hc).1, fun k hk => ?_⟩, fun x hx => ?_⟩
    · have hk0 : k = 0 := by simpa using hk
      subst hk0
      rw [Lib.cell_of_heap hc]
      rfl
    · rw [List.mem_singleton.1 hx]
      exact Or.inl ⟨rfl, rfl, rfl⟩
  clear hb1 h hS hBv
  go_wp2_with fail
  clear hv1
  go_loopg [8, 23] n (fun gg s8 s23 wr => ∃ (k : Nat) (Ac : Option Addr) (cc : Nat) (xs : List PL), k ≤ n ∧ gg = n - k ∧ s23 = .int .i64 k ∧ s8 = .slice Ac xs.length cc ∧ Hid (PlsV wr Ac cc xs ∧ lP xs = lfTo D p k) ∧ Below v1.heap.size v1 wr)
  case atStart => exact ⟨0, some ⟨w1.heap.size, 0, none⟩, 1, [noP], Nat.zero_le _, rfl, rfl, rfl, (⟨HPv.out, rfl⟩ : _ ∧ _), Below.refl _ _⟩
  case round =>
    obtain ⟨k, Ac, cc, xs, hk, rfl, rfl, rfl, HX, hBw⟩ := hrel
    have HBw : Hid (Below v1.heap.size v1 wr) := hBw
    by_cases hlt : k < n
    · have hki : (k : Int) < (n : Int) := by omega
      obtain ⟨Al, cl, hcl, hIl⟩ := (HSv.out.later hBw).get hlt
      have hlen : xs.length ≤ 20736 := by rw [← lP_len, HX.out.2]; exact Nat.le_trans (lfTo_len p k) (prod_small (fun j hj => (HD.out j (by omega)).2) (by omega))
      have hl3 : ∀ x ∈ xs, x.p.length ≤ 3 := fun x hx => by
        have : x.p ∈ lfTo D p k := by rw [← HX.out.2]; exact List.mem_map.2 ⟨x, hx, rfl⟩
        rw [lfTo_each p k _ this]
        omega
      have hlg := longer_any Ac cc xs Al cl (lfs D p k) wr hlen (Nat.le_trans (lfs_len D p k) (HD.out k hlt).2) hl3 HX.out.1 hIl
      have HNx : Hid (longL (lP xs) (lfs D p k) = lfTo D p (k + 1)) := by show _ = _; rw [HX.out.2]; rfl
      generalize (lfs D p k).length = nl at hcl hlg
      generalize xs.length = N at hlg
      clear hIl hlen hl3 hBw
      go_wp2_with fail
      refine hlg.mono ?_
      rintro e w2 ⟨⟨A2, c2, ys, rfl, hP2, hl2⟩, hb2⟩
      have HX2 : Hid (PlsV w2 A2 c2 ys ∧ lP ys = lfTo D p (k + 1)) := ⟨hP2, by rw [hl2, HNx.out]⟩
      have HB2 : Hid (Below v1.heap.size v1 w2) := onB HBw.out hb2
      clear hP2 hl2 hb2 hlg
      go_wp2_with fail
      go_roundg (n - (k + 1))
      case measure => omega
      case rel => exact ⟨k + 1, A2, c2, ys, by omega, rfl, by go_num, rfl, HX2, HB2.out⟩
    · have hke : k = n := by omega
      subst hke
      clear hBw
      go_wp2_with fail
      go_ret2
      exact ⟨⟨Ac, cc, xs, rfl, HX.out.1, HX.out.2⟩, onB HBv.out HBw.out⟩

theorem rlfs_bad (A0 : Option Addr) (cap n : Nat) (D : Nat → Dm) (A : Nat → Option Addr) (C : Nat → Nat) (Ap : Option Addr) (cp : Nat) (p : List Int) (w : World) (hp : placeErr D n p ≠ 0) (hM : DimsV w A0 cap n D A C) (hP : PlAt w Ap cp p) :
    Calls Tryz.prog 11 #[.agg #[.slice A0 n cap], .slice Ap p.length cp] w fun e w' => e = .returned (.tuple #[.slice none 0 0, .iface 62 (.int .i64 (placeErr D n p))]) ∧ Below w.heap.size w w' := by
  have hB0 := ownOut_below w A0 n cap 24
  have h := rls_bad A0 cap n D A C Ap cp p (ownOut w A0 n cap 24) hp (hM.later hB0) (hP.later hB0)
  have HB0 : Hid (Below w.heap.size w (ownOut w A0 n cap 24)) := hB0
  generalize p.length = np at h
  generalize placeErr D n p = c at h
  clear hM hP hB0 hp
  go_enter Tryz.func11, Tryz.ntmps11
  go_wp2_with fail
  refine h.mono ?_
  rintro e w1 ⟨rfl, hb1⟩
  go_wp2_with fail
  go_ret2
  exact ⟨rfl, onB HB0.out hb1⟩
end Go.Proofs.YtmjcnlpjnbcfjacGreatDoor

namespace Go.Proofs.YtmjcnlpjnbcfjacGreatDoor
open Go.ChangeShapes Go.WideShapes Go.ChangeAt Go.RowKit
set_option maxRecDepth 20000

theorem in_cons {i x : Int} {t : List Int} (h : x ≠ i) : inB (x :: t) i = inB t i := by
  unfold inB; rw [decide_eq_decide, List.mem_cons]
  exact ⟨fun h1 => h1.resolve_left fun e => h e.symm, Or.inr⟩
theorem in_head {i : Int} {t : List Int} : inB (i :: t) i = true := by simp [inB]

set_option maxHeartbeats 2000000 in
theorem rweight_any (d : Dm) (b o cap i j : Nat) (w : World) (hn : d.n ≤ 12) (hj : j < d.n) (ht : Tr d.mem d.n) (hs : Sg d.mem d.n) (hM : MemsAt w b o d.n d.mem) : Calls Tryz.prog 28 #[.agg #[.string d.name, .int .i64 d.solve, .slice (some ⟨b, o, none⟩) d.n cap], .int .i64 i, .int .i64 j] w fun e w' => e = .returned (.tuple #[.int .i64 (weightOf d.mem i j), .bool (inB (pathOf d.mem j) i)]) ∧ Below w.heap.size w w' := by
  have hS := ownDim_size w d (some ⟨b, o, none⟩) cap 55
  have hB0 := ownDim_below w d (some ⟨b, o, none⟩) cap 55
  have hA := (ownDim_at w d (some ⟨b, o, none⟩) cap 55).2.2
  obtain ⟨W, hW⟩ : ∃ W, W = ownDim w d (some ⟨b, o, none⟩) cap 55 := ⟨_, rfl⟩
  rw [← hW] at hS hB0 hA
  have HW : Hid (W = ownDim w d (some ⟨b, o, none⟩) cap 55) := hW
  have HB0 : Hid (Below w.heap.size w W) := hB0
  have HM : Hid (MemsAt W b o d.n d.mem) := hM.later hB0
  have HA : Hid (W.cell? ⟨w.heap.size, 2, none⟩ = some (.slice (some ⟨b, o, none⟩) d.n cap)) := hA
  have hsz : w.heap.size < W.heap.size := by omega
  have hn' : (d.n : Int) ≤ 12 := by omega
  have HT : Hid (Tr d.mem d.n) := ht
  have HS : Hid (Sg d.mem d.n) := hs
  obtain ⟨wv, hwv⟩ : ∃ x, weightOf d.mem i j = x := ⟨_, rfl⟩
  obtain ⟨wi, hwi⟩ : ∃ x, inB (pathOf d.mem j) i = x := ⟨_, rfl⟩
  have HV : Hid (wgt d.mem i (pathOf d.mem j) 1 = wv) := hwv
  have HI : Hid (inB (pathOf d.mem j) i = wi) := hwi
  rw [hwv, hwi]
  clear hM hW hB0 hA hS ht hs hwv hwi
  go_enter Tryz.func28, Tryz.ntmps28
  go_wp2_with fail
  go_loopg [2, 8] (j + 1) (fun g s2 s8 wr => ∃ (x a : Int), -1 ≤ x ∧ x < d.n ∧ g = (x + 1).toNat ∧ s2 = .int .i64 x ∧ s8 = .int .i64 a ∧ (-1 ≤ a ∧ a ≤ 1) ∧ wgt d.mem i (pathOf d.mem x) a = wv ∧ inB (pathOf d.mem x) i = wi ∧ wr = W)
  case atStart => exact ⟨j, 1, by omega, by omega, by omega, rfl, rfl, by omega, HV.out, HI.out, HW.out.symm⟩
  case round =>
    obtain ⟨x, a, hx1, hx2, rfl, rfl, rfl, ha, hf1, hf2, rfl⟩ := hrel
    have HF1 : Hid (wgt d.mem i (pathOf d.mem x) a = wv) := hf1
    have HF2 : Hid (inB (pathOf d.mem x) i = wi) := hf2
    have hA := HA.out
    clear hf1 hf2
    by_cases h0 : 0 ≤ x
    · obtain ⟨m, rfl⟩ : ∃ m : Nat, x = m := ⟨x.toNat, by omega⟩
      have hmn : m < d.n := by omega
      have HC : Hid (pathOf d.mem m = (m : Int) :: pathOf d.mem (d.mem m).parent) := pathOf_cons HT.out hmn
      by_cases hq : m = i
      · subst hq
        have HR : Hid (a = wv ∧ true = wi) := ⟨by rw [← HF1.out, HC.out, wgt_hit], by rw [← HF2.out, HC.out, in_head]⟩
        go_wp2_with fail
        go_ret2
        rw [← HR.out.1, ← HR.out.2]
        exact ⟨rfl, HB0.out⟩
      · have hq' : ((m : Int) == (i : Int)) = false := beq_eq_false_iff_ne.2 (by omega)
        obtain ⟨-, p1, p2, -⟩ := HM.out.2 m hmn
        have hsm := HS.out m hmn
        have htm := HT.out m hmn
        have hmul := small_mul ha hsm
        have HMul : Hid (-1 ≤ a * (d.mem m).sign ∧ a * (d.mem m).sign ≤ 1) := hmul
        have HR1 : Hid (wgt d.mem i (pathOf d.mem (d.mem m).parent) (a * (d.mem m).sign) = wv) := by show _ = _; rw [← HF1.out, HC.out, wgt_miss (by omega)]; rfl
        have HR2 : Hid (inB (pathOf d.mem (d.mem m).parent) i = wi) := by show _ = _; rw [← HF2.out, HC.out, in_cons (by omega)]
        have hmi : (m : Int) < (d.n : Int) := by omega
        have HTm : Hid (-1 ≤ (d.mem m).parent ∧ (d.mem m).parent < (m : Int)) := htm
        clear hq htm
        go_wp2_with fail
        go_roundg ((d.mem m).parent + 1).toNat
        case measure => have := HTm.out; omega
        case rel => exact ⟨(d.mem m).parent, a * (d.mem m).sign, HTm.out.1, by have := HTm.out; omega, rfl, rfl, by go_num, HMul.out, HR1.out, HR2.out, rfl⟩
    · have hk : x < 0 := by omega
      have hq' : (x == (i : Int)) = false := beq_eq_false_iff_ne.2 (by omega)
      have HR : Hid (0 = wv ∧ false = wi) := ⟨by rw [← HF1.out, pathOf_neg hk]; rfl, by rw [← HF2.out, pathOf_neg hk]; rfl⟩
      go_wp2_with fail
      go_ret2
      rw [← HR.out.1, ← HR.out.2]
      exact ⟨rfl, HB0.out⟩

end Go.Proofs.YtmjcnlpjnbcfjacGreatDoor

namespace Go.Proofs.YtmjcnlpjnbcfjacGreatDoor
open Go.ChangeShapes Go.WideShapes Go.ChangeAt Go.RowKit
set_option maxRecDepth 20000

/-- what a step of it reads -/
def Six (W : World) (q b o k b1 o1 b2 o2 : Nat) (u v0 v1 v2 x y : Value) : Prop :=
  (q < W.heap.size ∧ b < W.heap.size ∧ b1 < W.heap.size ∧ b2 < W.heap.size) ∧ W.cell? ⟨q, 0, none⟩ = some u ∧ W.cell? ⟨b, o + k * 3, none⟩ = some v0 ∧ W.cell? ⟨b, o + k * 3 + 1, none⟩ = some v1 ∧ W.cell? ⟨b, o + k * 3 + 2, none⟩ = some v2 ∧ W.cell? ⟨b1, o1 + k, none⟩ = some x ∧ W.cell? ⟨b2, o2 + k, none⟩ = some y
theorem keep6 {W w' : World} {q b o k b1 o1 b2 o2 : Nat} {u v0 v1 v2 x y : Value} (h : Six W q b o k b1 o1 b2 o2 u v0 v1 v2 x y) (hB : Below W.heap.size W w') : Below W.heap.size W w' ∧ w'.cell? ⟨q, 0, none⟩ = some u ∧ w'.cell? ⟨b, o + k * 3, none⟩ = some v0 ∧ w'.cell? ⟨b, o + k * 3 + 1, none⟩ = some v1 ∧ w'.cell? ⟨b, o + k * 3 + 2, none⟩ = some v2 ∧ w'.cell? ⟨b1, o1 + k, none⟩ = some x ∧ w'.cell? ⟨b2, o2 + k, none⟩ = some y := by
  obtain ⟨⟨h1, h2, h3, h4⟩, c0, c1, c2, c3, c4, c5⟩ := h
  exact ⟨hB, (hB.cell (p := ⟨q, 0, none⟩) h1).trans c0, (hB.cell (p := ⟨b, o + k * 3, none⟩) h2).trans c1, (hB.cell (p := ⟨b, o + k * 3 + 1, none⟩) h2).trans c2, (hB.cell (p := ⟨b, o + k * 3 + 2, none⟩) h2).trans c3, (hB.cell (p := ⟨b1, o1 + k, none⟩) h3).trans c4, (hB.cell (p := ⟨b2, o2 + k, none⟩) h4).trans c5⟩

set_option maxHeartbeats 8000000 in
theorem rpw_any (A0 : Option Addr) (cap n : Nat) (D : Nat → Dm) (A : Nat → Option Addr) (C : Nat → Nat) (Ap : Option Addr) (cp : Nat) (p : List Int) (Aq : Option Addr) (cq : Nat) (q : List Int) (w : World) (hp : InO D n p) (hq : InO D n q) (hM : DimsV w A0 cap n D A C) (hP : PlAt w Ap cp p) (hQ : PlAt w Aq cq q) :
    Calls Tryz.prog 13 #[.agg #[.slice A0 n cap], .slice Ap p.length cp, .slice Aq q.length cq] w fun e w' => e = .returned (.tuple #[.int .i64 (pwTo D p q n), .bool (inTo D p q n)]) ∧ Below w.heap.size w w' := by
  obtain ⟨hn1, hn4, -, hd⟩ := allErr_some hp.right
  have hl := hp.len
  have hl2 := hq.len
  obtain ⟨hcp, h0 | ⟨b1, o1, rfl, hb1, hc1⟩⟩ := hP
  · rw [h0] at hl; simp at hl; omega
  obtain ⟨hcq, h0 | ⟨b2, o2, rfl, hb2, hc2⟩⟩ := hQ
  · rw [h0] at hl2; simp at hl2; omega
  obtain ⟨hcap, h0 | ⟨b, o, rfl, hMs⟩⟩ := hM
  · omega
  rw [hl] at hcp hc1 ⊢
  rw [hl2] at hcq hc2 ⊢
  have hB0 := ownOut_below w (some ⟨b, o, none⟩) n cap 24
  obtain ⟨W, hW⟩ : ∃ W, w.alloc (.cells #[.slice (some ⟨b, o, none⟩) n cap] 24) = W := ⟨_, rfl⟩
  have hWo : ownOut w (some ⟨b, o, none⟩) n cap 24 = W := hW
  rw [hWo] at hB0
  have cW : W.cell? ⟨w.heap.size, 0, none⟩ = some (.slice (some ⟨b, o, none⟩) n cap) := by rw [← hWo]; exact ownOut_at ..
  have hzW : w.heap.size < W.heap.size := by rw [← hWo, ownOut_size]; omega
  have HB0 : Hid (Below w.heap.size w W) := hB0
  have HMs : Hid (DimsAt W b o n D A C) := hMs.later hB0
  have HC1 : Hid (∀ j, j < n → W.cell? ⟨b1, o1 + j, none⟩ = some (.int .i64 (p.getD j 0))) := fun j hj => (hB0.cell (p := ⟨b1, o1 + j, none⟩) hb1).trans (hc1 j hj)
  have HC2 : Hid (∀ j, j < n → W.cell? ⟨b2, o2 + j, none⟩ = some (.int .i64 (q.getD j 0))) := fun j hj => (hB0.cell (p := ⟨b2, o2 + j, none⟩) hb2).trans (hc2 j hj)
  have hz1 : b1 < W.heap.size := Nat.lt_of_lt_of_le hb1 hB0.size
  have hz2 : b2 < W.heap.size := Nat.lt_of_lt_of_le hb2 hB0.size
  have HIp : Hid (InO D n p) := hp
  have HIq : Hid (InO D n q) := hq
  have hn' : (n : Int) ≤ 4 := by omega
  clear hWo hMs hc1 hc2 hb1 hb2 hB0 hp hq hl hl2
  go_enter Tryz.func13, Tryz.ntmps13
  go_wp2_with fail
  clear hW
  go_loopg [8, 9] n (fun g s8 s9 wr => ∃ (k : Nat), k ≤ n ∧ g = n - k ∧ s9 = .int .i64 k ∧ s8 = .int .i64 (pwTo D p q k) ∧ Hid (inTo D p q k = true) ∧ Below W.heap.size W wr)
  case atStart => exact ⟨0, Nat.zero_le _, rfl, rfl, rfl, (rfl : inTo D p q 0 = true), Below.refl _ _⟩
  case round =>
    obtain ⟨k, hk, rfl, rfl, rfl, HIn, hBw⟩ := hrel
    have HBw : Hid (Below W.heap.size W wr) := hBw
    by_cases hlt : k < n
    · have hki : (k : Int) < (n : Int) := by omega
      obtain ⟨d0, d1, d2, h4⟩ := (HMs.out.later hBw).2 k hlt
      have hdk := (allErr_right HIp.out.right).2 k hlt
      obtain ⟨hdn1, hdn2⟩ := hd k hlt
      have hbr := (HMs.out.later hBw).1
      obtain ⟨hcm, h0 | ⟨bm, om, hAk, hMm⟩⟩ := h4
      · omega
      rw [hAk] at d2
      have e1 := (hBw.cell (p := ⟨b1, o1 + k, none⟩) hz1).trans (HC1.out k hlt)
      have e2 := (hBw.cell (p := ⟨b2, o2 + k, none⟩) hz2).trans (HC2.out k hlt)
      have cr := (hBw.cell (p := ⟨w.heap.size, 0, none⟩) hzW).trans cW
      obtain ⟨x, hx⟩ : ∃ x : Nat, p.getD k 0 = x := ⟨(p.getD k 0).toNat, by have := HIp.out.lo k hlt; omega⟩
      obtain ⟨y, hy⟩ : ∃ y : Nat, q.getD k 0 = y := ⟨(q.getD k 0).toNat, by have := HIq.out.lo k hlt; omega⟩
      have hyn : y < (D k).n := by have := HIq.out.hi k hlt; omega
      rw [hx] at e1
      rw [hy] at e2
      have HWt : Hid (∀ w', Below wr.heap.size wr w' → Calls Tryz.prog 28 #[.agg #[.string (D k).name, .int .i64 (D k).solve, .slice (some ⟨bm, om, none⟩) (D k).n (C k)], .int .i64 x, .int .i64 y] w' fun e w'' => e = .returned (.tuple #[.int .i64 (weightOf (D k).mem x y), .bool (inB (pathOf (D k).mem y) x)]) ∧ Below w'.heap.size w' w'') := fun w' hw' => rweight_any (D k) bm om (C k) x y w' hdn2 hyn (Tr.of hdk) (Sg.of hdk) (hMm.later hw')
      have HIn2 : Hid (inTo D p q (k + 1) = inB (pathOf (D k).mem y) x) := by show _ = _; rw [inTo, HIn.out, hx, hy, Bool.true_and]
      have HPw2 : Hid (pwTo D p q (k + 1) = pwTo D p q k * weightOf (D k).mem x y) := by show _ = _; rw [pwTo, hx, hy]
      have hsm := pwTo_small HIq.out p (k + 1) (by omega)
      rw [HPw2.out] at hsm
      have HOut : Hid (inTo D p q (k + 1) = false → inTo D p q n = false ∧ pwTo D p q n = 0) := fun h => by
        have hi : ∀ m, k + 1 ≤ m → inTo D p q m = false := by
          intro m hm
          induction m with
          | zero => omega
          | succ m ih =>
            by_cases h5 : k + 1 = m + 1
            · rw [← h5]; exact h
            · rw [inTo, ih (by omega), Bool.false_and]
        have := hi n (by omega)
        exact ⟨this, pwTo_out this⟩
      have HSix : Hid (Six wr w.heap.size b o k b1 o1 b2 o2 (.slice (some ⟨b, o, none⟩) n cap) (.string (D k).name) (.int .i64 (D k).solve) (.slice (some ⟨bm, om, none⟩) (D k).n (C k)) (.int .i64 x) (.int .i64 y)) := ⟨⟨Nat.lt_of_lt_of_le hzW hBw.size, hbr, Nat.lt_of_lt_of_le hz1 hBw.size, Nat.lt_of_lt_of_le hz2 hBw.size⟩, cr, d0, d1, d2, e1, e2⟩
      generalize weightOf (D k).mem x y = wt at HWt HPw2 hsm
      generalize inB (pathOf (D k).mem y) x = tI at HWt HIn2
      generalize (D k).name = dn at HWt HSix
      generalize (D k).solve = ds at HWt HSix
      generalize (D k).n = dk at HWt HSix hdn1 hdn2 hyn
      obtain ⟨pk, hpk⟩ : ∃ v, pwTo D p q k = v := ⟨_, rfl⟩
      have HPK : Hid (pwTo D p q k = pk) := hpk
      rw [hpk] at hsm ⊢
      obtain ⟨hs1, hs2⟩ := hsm
      clear hBw hMm hx hy d0 d1 d2 e1 e2 cr hAk hdk hpk
      go_wp2_with fail
      go_cut [10, 11] (fun s10 s11 wx => s10 = .int .i64 wt ∧ s11 = .bool tI ∧ Below wr.heap.size wr wx)
      case first => as_aux_lemma =>
        go_region_held3 (fun w' => Below wr.heap.size wr w' ∧ w'.cell? ⟨w.heap.size, 0, none⟩ = some (.slice (some ⟨b, o, none⟩) n cap) ∧ w'.cell? ⟨b, o + k * 3, none⟩ = some (.string dn) ∧ w'.cell? ⟨b, o + k * 3 + 1, none⟩ = some (.int .i64 ds) ∧ w'.cell? ⟨b, o + k * 3 + 2, none⟩ = some (.slice (some ⟨bm, om, none⟩) dk (C k)) ∧ w'.cell? ⟨b1, o1 + k, none⟩ = some (.int .i64 x) ∧ w'.cell? ⟨b2, o2 + k, none⟩ = some (.int .i64 y))
          ((refine keep6 HSix.out ?_; go_grown; done))
          (first | (go_at_call 28; refine (HWt.out _ (by go_grown)).mono ?_; rintro e w3 ⟨rfl, hb3⟩; have hN3 := onB (W0 := wr) (by go_grown) hb3; have hy3 := hN3.size; clear hb3))
        all_goals go_wp2_with fail
        all_goals go_meet
        all_goals exact ⟨rfl, rfl, by go_grown⟩
      case rest => as_aux_lemma =>
      obtain ⟨rfl, rfl, hb⟩ := hcut
      obtain ⟨w2, rfl⟩ : ∃ w2 : World, w2 = wc := ⟨_, rfl⟩
      have HB2 : Hid (Below W.heap.size W w2) := onB HBw.out hb
      clear hb HSix HWt
      cases tI
      · obtain ⟨r1, r2⟩ := HOut.out HIn2.out
        have HR : Hid (inTo D p q n = false ∧ pwTo D p q n = 0) := ⟨r1, r2⟩
        clear r1 r2
        go_wp2_with fail
        go_ret2
        rw [HR.out.1, HR.out.2]
        exact ⟨rfl, onB HB0.out HB2.out⟩
      · go_wp2_with fail
        go_roundg (n - (k + 1))
        case measure => omega
        case rel => exact ⟨k + 1, by omega, rfl, by go_num, by rw [HPw2.out, HPK.out], HIn2, HB2.out⟩
    · have hke : k = n := by omega
      subst hke
      have HR : Hid (inTo D p q k = true) := HIn
      clear hBw
      go_wp2_with fail
      go_ret2
      rw [HR.out]
      exact ⟨rfl, onB HB0.out HBw.out⟩
end Go.Proofs.YtmjcnlpjnbcfjacGreatDoor

namespace Go.Proofs.YtmjcnlpjnbcfjacGreatDoor
open Go.ChangeShapes Go.WideShapes Go.ChangeAt Go.RowKit
set_option maxRecDepth 20000

theorem samepl_end {a b : List Int} (hl : a.length = b.length) {k : Nat} (hk : a.length ≤ k) (h : ∀ j, j < k → a.getD j 0 = b.getD j 0) : a = b := by
  apply List.ext_getElem hl
  intro i h1 h2
  have := h i (by omega)
  simpa [List.getD, h1, h2] using this

set_option maxHeartbeats 1000000 in
theorem samepl_any (A B : Option Addr) (ca cb : Nat) (a b : List Int) (w : World) (hn : a.length ≤ 4) (hA : PlAt w A ca a) (hB : PlAt w B cb b) : Calls Tryz.prog 27 #[.slice A a.length ca, .slice B b.length cb] w fun e w' => e = .returned (.bool (decide (a = b))) ∧ Below w.heap.size w w' := by
  by_cases hl : a.length = b.length
  · obtain ⟨hc, h0 | ⟨g, o, rfl, hbw, hcell⟩⟩ := hA
    · subst h0
      have h1 : b = [] := List.eq_nil_of_length_eq_zero hl.symm
      subst h1
      simp only [List.length_nil]
      go_enter Tryz.func27, Tryz.ntmps27
      go_wp2_with fail
      refine wp_loop_rounds 1 ?_
      rw [rounds_succ]
      go_wp2_with fail
      go_ret
      exact ⟨rfl, Below.refl _ _⟩
    · obtain ⟨hc', h0 | ⟨g', o', rfl, hbw', hcell'⟩⟩ := hB
      · subst h0
        have h1 : a = [] := List.eq_nil_of_length_eq_zero hl
        subst h1
        simp only [List.length_nil]
        go_enter Tryz.func27, Tryz.ntmps27
        go_wp2_with fail
        refine wp_loop_rounds 1 ?_
        rw [rounds_succ]
        go_wp2_with fail
        go_ret
        exact ⟨rfl, Below.refl _ _⟩
      · have HC : Hid (∀ j, j < a.length → w.cell? ⟨g, o + j, none⟩ = some (.int .i64 (a.getD j 0))) := hcell
        have HC' : Hid (∀ j, j < a.length → w.cell? ⟨g', o' + j, none⟩ = some (.int .i64 (b.getD j 0))) := fun j hj => hcell' j (by omega)
        have HE : Hid (∀ k, a.length ≤ k → (∀ j, j < k → a.getD j 0 = b.getD j 0) → decide (a = b) = true) := fun k hk h => decide_eq_true (samepl_end hl hk h)
        have HN : Hid (∀ k, a.getD k 0 ≠ b.getD k 0 → decide (a = b) = false) := fun k h => decide_eq_false fun e => h (by rw [e])
        rw [← hl]
        rw [← hl] at hc'
        generalize hnn : a.length = n at hn hc hc' HC HC' HE
        generalize decide (a = b) = res at HE HN
        clear hcell hcell' hnn hl
        have hn' : (n : Int) ≤ 4 := by omega
        go_enter Tryz.func27, Tryz.ntmps27
        go_wp2_with fail
        go_loopg [5] n (fun gg s5 wr => ∃ (k : Nat), k ≤ n ∧ gg = n - k ∧ s5 = .int .i64 k ∧ (∀ j, j < k → a.getD j 0 = b.getD j 0) ∧ Below w.heap.size w wr)
        case atStart => exact ⟨0, Nat.zero_le _, rfl, rfl, fun j hj => absurd hj (Nat.not_lt_zero _), Below.refl _ _⟩
        case round =>
          obtain ⟨k, hk, rfl, rfl, hsame, hBw⟩ := hrel
          have HBw : Hid (Below w.heap.size w wr) := hBw
          have HS : Hid (∀ j, j < k → a.getD j 0 = b.getD j 0) := hsame
          clear hsame
          by_cases hlt : k < n
          · have hki : (k : Int) < (n : Int) := by omega
            have x1 := (hBw.cell (p := ⟨g, o + k, none⟩) hbw).trans (HC.out k hlt)
            have x2 := (hBw.cell (p := ⟨g', o' + k, none⟩) hbw').trans (HC'.out k hlt)
            by_cases hxy : a.getD k 0 = b.getD k 0
            · have HXY : Hid (a.getD k 0 = b.getD k 0) := hxy
              rw [← hxy] at x2
              generalize a.getD k 0 = x at x1 x2
              clear hBw hxy
              go_wp2_with fail
              go_quiet (fail)
              go_wp2_with fail
              go_roundg (n - (k + 1))
              case measure => omega
              case rel =>
                refine ⟨k + 1, by omega, rfl, by go_num, fun j hj => ?_, below_drewN HBw.out _⟩
                rcases Nat.lt_succ_iff_lt_or_eq.1 hj with h1 | rfl
                · exact HS.out j h1
                · exact HXY.out
            · have HR : Hid (res = false) := HN.out k hxy
              generalize a.getD k 0 = x at x1 hxy
              generalize b.getD k 0 = y at x2 hxy
              clear hBw
              go_wp2_with fail
              go_quiet (fail)
              go_wp2_with fail
              go_ret
              rw [HR.out]
              exact ⟨rfl, below_drewN HBw.out _⟩
          · have hke : k = n := by omega
            subst hke
            have HR : Hid (res = true) := HE.out k (Nat.le_refl _) HS.out
            go_wp2_with fail
            go_ret
            rw [HR.out]
            exact ⟨rfl, hBw⟩
  · have hr : decide (a = b) = false := decide_eq_false fun e => hl (by rw [e])
    rw [hr]
    have hl' : ¬ ((a.length : Int) = (b.length : Int)) := by omega
    clear hA hB hr
    generalize a.length = n at hl hl' hn
    generalize b.length = m at hl hl'
    go_enter Tryz.func27, Tryz.ntmps27
    go_wp2_with fail
    go_ret
    exact ⟨rfl, Below.refl _ _⟩
end Go.Proofs.YtmjcnlpjnbcfjacGreatDoor

namespace Go.Proofs.YtmjcnlpjnbcfjacGreatDoor
open Go Go.ChangeShapes Go.WideShapes Go.ChangeAt Go.RowKit
set_option maxRecDepth 20000

theorem IntB.plty {w : World} {g : Nat} {L : List Int} (h : IntB w g L) : PlTy w (some ⟨g, 0, none⟩) L.length L :=
  ⟨Nat.le_refl _, Or.inr ⟨g, 0, _, _, rfl, h, fun j hj => by rw [Nat.zero_add]; exact h.cell hj⟩⟩

set_option maxHeartbeats 4000000 in
theorem rat_ty (A0 : Option Addr) (cap n : Nat) (D : Nat → Dm) (A : Nat → Option Addr) (C : Nat → Nat) (X : Nat) (w : World) (hR : (allErr D n).2.2 = 0) (hX : X < prodN D n) (hM : DimsV w A0 cap n D A C) : Calls Tryz.prog 24 #[.agg #[.slice A0 n cap], .int .i64 X] w fun e w' => (∃ A' c', e = .returned (.slice A' (placeL D n X).length c') ∧ PlTy w' A' c' (placeL D n X)) ∧ Below w.heap.size w w' := by
  obtain ⟨hn1, hn4, hp3, hd⟩ := allErr_some hR
  have HD : Hid (∀ i, i < n → 1 ≤ (D i).n ∧ (D i).n ≤ 12) := hd
  have hn' : (n : Int) ≤ 4 := by omega
  have hn1' : (1 : Int) ≤ (n : Int) := by omega
  have hX3 : X ≤ 3000 := by omega
  have hmk := run_make_row' (P := Tryz.prog) 27 3 (.int .i64 0) 8 Tryz.underlying27 Tryz.infoIntP rfl .i64 .i64 n (by omega) (by omega)
  obtain ⟨hcap, h0 | ⟨b, o, rfl, hMs⟩⟩ := hM
  · omega
  obtain ⟨w1, hw1⟩ : ∃ w1, w1 = ownOut w (some ⟨b, o, none⟩) n cap 24 := ⟨_, rfl⟩
  have hB1 : Below w.heap.size w w1 := by rw [hw1]; exact ownOut_below ..
  have h2 : w1.cell? ⟨w.heap.size, 0, none⟩ = some (.slice (some ⟨b, o, none⟩) n cap) := by rw [hw1]; exact ownOut_at ..
  have hz1 : w1.heap.size = w.heap.size + 1 := by rw [hw1]; exact ownOut_size ..
  have HMs : Hid (DimsAt w1 b o n D A C) := hMs.later hB1
  have HB1 : Hid (Below w.heap.size w w1) := hB1
  have H2 : Hid (w1.cell? ⟨w.heap.size, 0, none⟩ = some (.slice (some ⟨b, o, none⟩) n cap)) := h2
  have HZ1 : Hid (w1.heap.size = w.heap.size + 1) := hz1
  have HW1 : Hid (w1 = ownOut w (some ⟨b, o, none⟩) n cap 24) := hw1
  have HI0 : Hid (IntB (w1.alloc (.cells (madeCells #[.int .i64 0] n) 3)) w1.heap.size (digL D n X 0)) := by show IntB _ _ _; rw [digL_zero]; exact IntB.made w1 n
  have HBm : Hid (Below w1.heap.size w1 (w1.alloc (.cells (madeCells #[.int .i64 0] n) 3))) := by show Below _ _ _; go_grown
  rw [hw1] at HI0 HBm
  unfold ownOut at HI0 HBm
  clear hd hMs hB1 h2 hz1 hw1 hX hp3 hR
  go_enter Tryz.func24, Tryz.ntmps24
  go_wp2_with fail
  clear hmk
  go_loopg [1, 6, 7] n (fun g s1 s6 s7 wr => ∃ (r : Nat), r ≤ n ∧ g = n - r ∧ s6 = .int .i64 ((n : Int) - 1 - r) ∧ s1 = .int .i64 (restAt D n X r) ∧ IntB wr w1.heap.size (digL D n X r) ∧ Below w1.heap.size w1 wr)
  case atStart => exact ⟨0, Nat.zero_le _, rfl, by simp, rfl, by rw [HW1.out]; exact HI0.out, by rw [HW1.out]; exact HBm.out⟩
  case round =>
    obtain ⟨r, hr, rfl, rfl, rfl, hI, hBw⟩ := hrel
    have HI : Hid (IntB wr w1.heap.size (digL D n X r)) := hI
    have HBw : Hid (Below w1.heap.size w1 wr) := hBw
    by_cases hlt : r < n
    · obtain ⟨k, hk⟩ : ∃ k : Nat, k = n - 1 - r := ⟨_, rfl⟩
      have hki : (n : Int) - 1 - (r : Int) = (k : Int) := by omega
      rw [hki]
      have HK : Hid (k = n - 1 - r) := hk
      have hkn : k < n := by omega
      obtain ⟨-, -, h3, -⟩ := (HMs.out.later hBw).2 k hkn
      have c2 : wr.cell? ⟨w.heap.size, 0, none⟩ = some (.slice (some ⟨b, o, none⟩) n cap) := (hBw.cell (p := ⟨w.heap.size, 0, none⟩) (by show w.heap.size < _; rw [HZ1.out]; omega)).trans H2.out
      have hkn' : (k : Int) < (n : Int) := by omega
      have c4 := hI.cell (j := k) (by rw [digL_len]; exact hkn)
      have c5 := hI.frozen k
      rw [HZ1.out] at c4 c5
      obtain ⟨hd1, hd2⟩ := HD.out k hkn
      have hre := restAt_le D n X r
      have HR1 : Hid (restAt D n X (r + 1) = restAt D n X r / (D k).n) := by show _ = _; rw [restAt, hk]
      have HR2 : Hid (digitAt D n X k = restAt D n X r % (D k).n) := by show _ = _; rw [digitAt, show n - 1 - k = r by omega]
      have HS : Hid ((digL D n X r).set k (digitAt D n X k : Int) = digL D n X (r + 1)) := by show _ = _; rw [hk]; exact digL_set D n X r hlt
      generalize (digL D n X r).getD k 0 = old at c4
      generalize restAt D n X r = R at HR1 HR2 hre
      generalize hm : (D k).n = m at h3 hd1 hd2 HR1 HR2
      have hm1 : (1 : Int) ≤ (m : Int) := by omega
      have hm2 : (m : Int) ≤ 12 := by omega
      have hRR : (R : Int) ≤ 3000 := by omega
      have hR0 : (0 : Int) ≤ (R : Int) := by omega
      have hm0 : ((m : Int) == 0) = false := by simp; omega
      clear hI hBw hk hki hm
      go_wp2_with fail
      go_roundg (n - (r + 1))
      case measure => omega
      case rel =>
        have hdm := Nat.div_le_self R m
        have hw : wrap64 ((R : Int) / (m : Int)) = ((R / m : Nat) : Int) := by
          rw [← Int.natCast_ediv]
          exact wrap_small (Nat.le_trans hdm (by omega))
        refine ⟨r + 1, by omega, rfl, ?_, ?_, ?_, HBw.out.setCell (by show w1.heap.size ≤ w.heap.size + 1; rw [HZ1.out]; exact Nat.le_refl _) _⟩
        · have := HK.out
          congr 1
          omega
        · rw [hw, HR1.out]
        · have hs := HI.out.set k (digitAt D n X k : Int)
          rw [HS.out, HR2.out, Int.natCast_emod] at hs
          rw [HZ1.out] at hs ⊢
          exact hs
    · have hre : r = n := by omega
      subst hre
      have hk0 : (r : Int) - 1 - (r : Int) = -1 := by omega
      rw [hk0]
      clear hI hBw
      go_wp2_with fail
      go_ret
      have hp := HI.out.plty
      rw [digL_all] at hp
      rw [placeL_len] at hp ⊢
      rw [HZ1.out] at hp
      exact ⟨⟨_, _, rfl, hp⟩, onB HB1.out HBw.out⟩

set_option maxHeartbeats 8000000 in
theorem rrlf_any (A0 : Option Addr) (cap n : Nat) (D : Nat → Dm) (A : Nat → Option Addr) (C : Nat → Nat) (Ap : Option Addr) (cp : Nat) (p : List Int) (w : World) (hp : InO D n p) (hM : DimsV w A0 cap n D A C) (hP : PlAt w Ap cp p) :
    Calls Tryz.prog 10 #[.agg #[.slice A0 n cap], .slice Ap p.length cp] w fun e w' => (∃ A' c' ys, e = .returned (.slice A' ys.length c') ∧ PlsV w' A' c' ys ∧ lP ys = lfTo D p n) ∧ Below w.heap.size w w' := by
  obtain ⟨i0, hi0, hz0, hz1, hz2⟩ := info_parts Tryz.infoPla
  have hR := hp.right
  obtain ⟨hn1, hn4, hp3, hd⟩ := allErr_some hR
  have HR : Hid ((allErr D n).2.2 = 0) := hR
  have HI : Hid (InO D n p) := hp
  have HM : Hid (DimsV w A0 cap n D A C) := hM
  have HP : Hid (PlAt w Ap cp p) := hP
  have hB0 := ownOut_below w A0 n cap 24
  obtain ⟨W, hW⟩ : ∃ W, w.alloc (.cells #[.slice A0 n cap] 24) = W := ⟨_, rfl⟩
  have hWo : ownOut w A0 n cap 24 = W := hW
  rw [hWo] at hB0
  have cW : W.cell? ⟨w.heap.size, 0, none⟩ = some (.slice A0 n cap) := by rw [← hWo]; exact ownOut_at ..
  have hzW : w.heap.size < W.heap.size := by rw [← hWo, ownOut_size]; omega
  have HB0 : Hid (Below w.heap.size w W) := hB0
  have hsz : Calls Tryz.prog 23 #[.agg #[.slice A0 n cap]] W fun e w' => e = .returned (.int .i64 (prodN D n)) ∧ Below W.heap.size W w' := by
    obtain ⟨-, h0 | ⟨b, o, rfl, hMs⟩⟩ := hM.later hB0
    · omega
    · exact osize_any b o n cap D A C W hn4 (fun j hj => (hd j hj).2) hMs
  obtain ⟨PN, hPN⟩ : ∃ PN, prodN D n = PN := ⟨_, rfl⟩
  have HPN : Hid (prodN D n = PN) := hPN
  rw [hPN] at hsz hp3
  have hp3' : (PN : Int) ≤ 3000 := by omega
  have HNE : Hid (∀ x, placeL D n x ≠ []) := fun x e => by have := placeL_len D n x; rw [e] at this; simp at this; omega
  obtain ⟨np, hnp⟩ : ∃ np, p.length = np := ⟨_, rfl⟩
  have HNP : Hid (p.length = np) := hnp
  rw [hnp]
  clear hM hP hR hd hB0 hWo hPN hp hnp
  go_enter Tryz.func10, Tryz.ntmps10
  go_wp2_with fail
  clear hW
  refine hsz.mono ?_
  rintro e w1 ⟨rfl, hb1⟩
  have HB1 : Hid (Below w.heap.size w w1) := onB HB0.out hb1
  have HBo : Hid (w.heap.size < w1.heap.size ∧ w1.cell? ⟨w.heap.size, 0, none⟩ = some (.slice A0 n cap)) := ⟨Nat.lt_of_lt_of_le hzW hb1.size, (hb1.cell (p := ⟨w.heap.size, 0, none⟩) hzW).trans cW⟩
  clear hb1 hsz cW hzW
  go_wp2_with fail
  go_loopg [5, 7] PN (fun g s5 s7 wr => ∃ (k : Nat) (ys : List PL), k ≤ PN ∧ g = PN - k ∧ s7 = .int .i64 k ∧ Hid (lP ys = docL D n p k ∧ ∀ y ∈ ys, y.p ≠ [] ∧ PlTy wr y.A y.c y.p) ∧ wr.ownsRow w1.heap.size 27 1 s5 ys.length (cellsP ys) ∧ Below w1.heap.size w1 wr)
  case atStart => exact ⟨0, [], Nat.zero_le _, rfl, rfl, (⟨rfl, fun y hy => by cases hy⟩ : _ ∧ _), World.ownsRow_nil _ _ _ _, Below.refl _ _⟩
  case round =>
    obtain ⟨k, ys, hk, rfl, rfl, HY, hown, hBw⟩ := hrel
    have HBw : Hid (Below w1.heap.size w1 wr) := hBw
    have HOw : Hid (wr.ownsRow w1.heap.size 27 1 u5 ys.length (cellsP ys)) := hown
    have HYL : Hid (ys.length ≤ 3000) := by show _ ≤ _; rw [← lP_len, HY.out.1]; exact Nat.le_trans (docL_len D n p k) (by omega)
    have HBo2 : Hid (w.heap.size < wr.heap.size ∧ wr.cell? ⟨w.heap.size, 0, none⟩ = some (.slice A0 n cap)) := ⟨Nat.lt_of_lt_of_le HBo.out.1 hBw.size, (hBw.cell (p := ⟨w.heap.size, 0, none⟩) HBo.out.1).trans HBo.out.2⟩
    have cr := HBo2.out.2
    have HBr : Hid (Below w.heap.size w wr) := onB HB1.out hBw
    by_cases hlt : k < PN
    · have hki : (k : Int) < (PN : Int) := by omega
      have hst := docL_step D n p k
      have hat := rat_ty A0 cap n D A C k wr HR.out (by rw [HPN.out]; exact hlt) (HM.out.later HBr.out)
      have HIq : Hid (InO D n (placeL D n k)) := placeL_in HR.out
      obtain ⟨q, hq⟩ : ∃ q, placeL D n k = q := ⟨_, rfl⟩
      have HQn : Hid (q ≠ []) := by rw [← hq]; exact HNE.out k
      rw [hq] at hat hst HIq
      obtain ⟨nq, hnq⟩ : ∃ nq, q.length = nq := ⟨_, rfl⟩
      have HNQ : Hid (q.length = nq) := hnq
      rw [hnq] at hat
      have HST : Hid (docL D n p (k + 1) = docL D n p k ++ (if (leafV D n q && inTo D p q n) = true then [q] else [])) := hst
      clear hown hBw hst hq hnq
      go_wp2_with fail
      refine hat.mono ?_
      rintro e w2 ⟨⟨Aq, cq, rfl, hT⟩, hb2⟩
      have HT2 : Hid (PlTy w2 Aq cq q) := hT
      have HB2 : Hid (Below wr.heap.size wr w2) := hb2
      have c2 := (hb2.cell (p := ⟨w.heap.size, 0, none⟩) HBo2.out.1).trans HBo2.out.2
      have hlf := rleafplace_any A0 cap n D A C Aq cq q w2 HIq.out (HM.out.later (onB HBr.out hb2)) hT.pl
      rw [HNQ.out] at hlf
      clear hb2 hT hat cr
      go_wp2_with fail
      refine hlf.mono ?_
      rintro e w3 ⟨rfl, hb3⟩
      have HT3 : Hid (PlTy w3 Aq cq q) := HT2.out.later hb3
      have HB3 : Hid (Below wr.heap.size wr w3) := onB HB2.out hb3
      have c3 := (HB3.out.cell (p := ⟨w.heap.size, 0, none⟩) HBo2.out.1).trans HBo2.out.2
      clear hb3 hlf c2 HT2 HB2
      obtain ⟨tl, htl⟩ : ∃ t, leafV D n q = t := ⟨_, rfl⟩
      have HTL : Hid (leafV D n q = tl) := htl
      rw [htl]
      clear htl
      cases tl
      · have HY3 : Hid (lP ys = docL D n p (k + 1) ∧ ∀ y ∈ ys, y.p ≠ [] ∧ PlTy w3 y.A y.c y.p) := ⟨by rw [HST.out, HTL.out, HY.out.1]; simp, fun y hy => ⟨(HY.out.2 y hy).1, (HY.out.2 y hy).2.later HB3.out⟩⟩
        have HO3 : Hid (w3.ownsRow w1.heap.size 27 1 u5 ys.length (cellsP ys)) := own_later HOw.out HB3.out
        go_wp2_with fail
        go_roundg (PN - (k + 1))
        case measure => omega
        case rel => exact ⟨k + 1, ys, by omega, rfl, by go_num, HY3, HO3.out, onB HBw.out HB3.out⟩
      · have hpw := rpw_any A0 cap n D A C Ap cp p Aq cq q w3 HI.out HIq.out (HM.out.later (onB HBr.out HB3.out)) (HP.out.later (onB HBr.out HB3.out)) HT3.out.pl
        rw [HNQ.out, HNP.out] at hpw
        generalize pwTo D p q n = pw at hpw
        obtain ⟨ti, hti⟩ : ∃ t, inTo D p q n = t := ⟨_, rfl⟩
        have HTI : Hid (inTo D p q n = ti) := hti
        rw [hti] at hpw
        clear hti
        cases ti
        · go_wp2_with fail
          refine hpw.mono ?_
          rintro e w4 ⟨rfl, hb4⟩
          have HB4 : Hid (Below wr.heap.size wr w4) := onB HB3.out hb4
          have HY4 : Hid (lP ys = docL D n p (k + 1) ∧ ∀ y ∈ ys, y.p ≠ [] ∧ PlTy w4 y.A y.c y.p) := ⟨by rw [HST.out, HTI.out, HY.out.1]; simp, fun y hy => ⟨(HY.out.2 y hy).1, (HY.out.2 y hy).2.later HB4.out⟩⟩
          have HO4 : Hid (w4.ownsRow w1.heap.size 27 1 u5 ys.length (cellsP ys)) := own_later HOw.out HB4.out
          clear hb4 hpw c3
          go_wp2_with fail
          go_roundg (PN - (k + 1))
          case measure => omega
          case rel => exact ⟨k + 1, ys, by omega, rfl, by go_num, HY4, HO4.out, onB HBw.out HB4.out⟩
        · go_wp2_with fail
          refine hpw.mono ?_
          rintro e w4 ⟨rfl, hb4⟩
          have HB4 : Hid (Below wr.heap.size wr w4) := onB HB3.out hb4
          have HB14 : Hid (Below w1.heap.size w1 w4) := onB HBw.out HB4.out
          have HT4 : Hid (PlTy w4 Aq cq q) := HT3.out.later hb4
          have HY4 : Hid (∀ y ∈ ys, y.p ≠ [] ∧ PlTy w4 y.A y.c y.p) := fun y hy => ⟨(HY.out.2 y hy).1, (HY.out.2 y hy).2.later HB4.out⟩
          have HO4 : Hid (w4.ownsRow w1.heap.size 27 1 u5 ys.length (cellsP ys)) := own_later HOw.out HB4.out
          have hsz4 := HB14.out.size
          clear hb4 hpw c3
          go_wp2_with (at_builtin; refine wpList_append_own _ rfl _ _ 39 rfl w1.heap.size 27 i0 (.slice none 0 0) 1 24 Tryz.underlying39 hi0 hz0 hz1 hz2 rfl (by decide) _ _ _ rfl (HO4.out.alloc _) ⟨w4.heap.size, 0, none⟩ 1 1 [.slice Aq nq cq] rfl rfl one_cell ?qe3 ?qe4 ?qe5 ?qe6 ?_)
          case qe3 => intro u hu; simp at hu; subst hu; rfl
          case qe4 => have := HYL.out; simp only [maxLen]; omega
          case qe5 => have := HYL.out; omega
          case qe6 => simp; omega
          intro v' w5 hown' hgrow hnil
          have HB5 : Hid (Below w1.heap.size w1 w5) := grown_own HB14.out HO4.out hgrow
          have hal : ∀ {B : Option Addr} {d : Nat} {Y : List Int}, PlTy w4 B d Y → PlTy w5 B d Y := fun hY => plty_row (hY.later (by go_grown)) (HO4.out.alloc _) hgrow
          have HY5 : Hid (lP (ys ++ [(⟨q, Aq, cq⟩ : PL)]) = docL D n p (k + 1) ∧ ∀ y ∈ ys ++ [(⟨q, Aq, cq⟩ : PL)], y.p ≠ [] ∧ PlTy w5 y.A y.c y.p) := by
            refine ⟨by rw [lP_append, HY.out.1, HST.out, HTL.out, HTI.out]; rfl, fun y hy => ?_⟩
            rcases List.mem_append.1 hy with hy | hy
            · exact ⟨(HY4.out y hy).1, hal (HY4.out y hy).2⟩
            · rw [List.mem_singleton.1 hy]
              exact ⟨HQn.out, hal HT4.out⟩
          have HO5 : Hid (w5.ownsRow w1.heap.size 27 1 v' (ys ++ [(⟨q, Aq, cq⟩ : PL)]).length (cellsP (ys ++ [(⟨q, Aq, cq⟩ : PL)]))) := by
            show World.ownsRow ..
            rw [cellsP_append, List.length_append]
            have e : cellsP [(⟨q, Aq, cq⟩ : PL)] = [.slice Aq nq cq] := by simp [cellsP, HNQ.out]
            rw [e]
            exact hown'
          clear hown' hgrow hnil hal
          go_wp2_with fail
          go_roundg (PN - (k + 1))
          case measure => omega
          case rel => exact ⟨k + 1, _, by omega, rfl, by go_num, HY5, HO5.out, HB5.out⟩
    · have hke : k = PN := by omega
      subst hke
      have HFin : Hid (lP ys = lfTo D p n) := by show _ = _; rw [HY.out.1, ← HPN.out]; exact docL_all HR.out p
      clear hown hBw cr
      go_wp2_with fail
      go_ret
      obtain ⟨A', c', h1, h2⟩ := pls_own HOw.out HY.out.2
      exact ⟨⟨A', c', ys, by rw [← h1]; rfl, h2, HFin.out⟩, HBr.out⟩

theorem keepQ2 {W w' : World} {b o b' o' : Nat} {u v : Value} (h : b < W.heap.size ∧ b' < W.heap.size ∧ W.cell? ⟨b, o, none⟩ = some u ∧ W.cell? ⟨b', o', none⟩ = some v) (hB : Below W.heap.size W w') : Below W.heap.size W w' ∧ w'.cell? ⟨b, o, none⟩ = some u ∧ w'.cell? ⟨b', o', none⟩ = some v :=
  ⟨hB, (hB.cell (p := ⟨b, o, none⟩) h.1).trans h.2.2.1, (hB.cell (p := ⟨b', o', none⟩) h.2.1).trans h.2.2.2⟩

set_option maxHeartbeats 4000000 in
theorem samepls_any (A B : Option Addr) (ca cb : Nat) (xs ys : List PL) (w : World) (hl : lP xs = lP ys) (hn : xs.length ≤ 20736) (h4 : ∀ x ∈ xs, x.p.length ≤ 4) (hA : PlsV w A ca xs) (hB : PlsV w B cb ys) :
    Calls Tryz.prog 12 #[.slice A xs.length ca, .slice B ys.length cb] w fun e w' => e = .returned (.bool true) ∧ Below w.heap.size w w' := by
  have HA : Hid (PlsV w A ca xs) := hA
  have HB : Hid (PlsV w B cb ys) := hB
  have HL : Hid (lP xs = lP ys) := hl
  have H4 : Hid (∀ x ∈ xs, x.p.length ≤ 4) := h4
  have hyl : ys.length = xs.length := by rw [← lP_len, ← hl, lP_len]
  obtain ⟨N, hN⟩ : ∃ N, xs.length = N := ⟨_, rfl⟩
  have HN : Hid (xs.length = N) := hN
  have HNy : Hid (ys.length = N) := by show _ = _; rw [hyl]; exact hN
  rw [hyl]
  rw [hN] at hn ⊢
  have hn' : (N : Int) ≤ 20736 := by omega
  have hne : ((N : Int) != (N : Int)) = false := by simp
  clear hA hB hN hyl hl h4
  go_enter Tryz.func12, Tryz.ntmps12
  go_wp2_with fail
  go_loopg [5] N (fun g s5 wr => ∃ (k : Nat), k ≤ N ∧ g = N - k ∧ s5 = .int .i64 k ∧ Below w.heap.size w wr)
  case atStart => exact ⟨0, Nat.zero_le _, rfl, rfl, Below.refl _ _⟩
  case round =>
    obtain ⟨k, hk, rfl, rfl, hBw⟩ := hrel
    have HW : Hid (Below w.heap.size w wr) := hBw
    by_cases hlt : k < N
    · have hki : (k : Int) < (N : Int) := by omega
      have hkx : k < xs.length := by rw [HN.out]; exact hlt
      have hky : k < ys.length := by rw [HNy.out]; exact hlt
      obtain ⟨hca, h0 | ⟨b1, o1, rfl, hz1, hc1⟩, hp1⟩ := HA.out.later hBw
      · rw [h0] at hkx; simp at hkx
      obtain ⟨hcb, h0 | ⟨b2, o2, rfl, hz2, hc2⟩, hp2⟩ := HB.out.later hBw
      · rw [h0] at hky; simp at hky
      rw [HN.out] at hca
      rw [HNy.out] at hcb
      have a1 := hc1 k hkx
      have a2 := hc2 k hky
      have hpp : (xs.getD k noP).p = (ys.getD k noP).p := by rw [← lP_at, ← lP_at, HL.out]
      have hs : ∀ w', Below wr.heap.size wr w' → Calls Tryz.prog 27 #[.slice (xs.getD k noP).A (xs.getD k noP).p.length (xs.getD k noP).c, .slice (ys.getD k noP).A (ys.getD k noP).p.length (ys.getD k noP).c] w' fun e w'' => e = .returned (.bool true) ∧ Below w'.heap.size w' w'' := fun w' hw' => by
        have h := samepl_any (xs.getD k noP).A (ys.getD k noP).A (xs.getD k noP).c (ys.getD k noP).c (xs.getD k noP).p (ys.getD k noP).p w' (H4.out _ (pl_mem hkx)) ((hp1 _ (pl_mem hkx)).later hw').pl ((hp2 _ (pl_mem hky)).later hw').pl
        rw [decide_eq_true hpp] at h
        exact h
      have HSm : Hid (∀ w', Below wr.heap.size wr w' → Calls Tryz.prog 27 #[.slice (xs.getD k noP).A (xs.getD k noP).p.length (xs.getD k noP).c, .slice (ys.getD k noP).A (ys.getD k noP).p.length (ys.getD k noP).c] w' fun e w'' => e = .returned (.bool true) ∧ Below w'.heap.size w' w'') := hs
      have HKq : Hid (b1 < wr.heap.size ∧ b2 < wr.heap.size ∧ wr.cell? ⟨b1, o1 + k, none⟩ = some (.slice (xs.getD k noP).A (xs.getD k noP).p.length (xs.getD k noP).c) ∧ wr.cell? ⟨b2, o2 + k, none⟩ = some (.slice (ys.getD k noP).A (ys.getD k noP).p.length (ys.getD k noP).c)) := ⟨hz1, hz2, a1, a2⟩
      generalize (xs.getD k noP).A = X1 at a1 HSm HKq
      generalize (xs.getD k noP).p.length = X2 at a1 HSm HKq
      generalize (xs.getD k noP).c = X3 at a1 HSm HKq
      generalize (ys.getD k noP).A = Y1 at a2 HSm HKq
      generalize (ys.getD k noP).p.length = Y2 at a2 HSm HKq
      generalize (ys.getD k noP).c = Y3 at a2 HSm HKq
      clear hs hc1 hc2 hp1 hp2 hBw hpp
      go_wp2_with fail
      go_cut [6] (fun s6 wx => s6 = .bool true ∧ Below wr.heap.size wr wx)
      case first => as_aux_lemma =>
        go_region_held3 (fun w' => Below wr.heap.size wr w' ∧ w'.cell? ⟨b1, o1 + k, none⟩ = some (.slice X1 X2 X3) ∧ w'.cell? ⟨b2, o2 + k, none⟩ = some (.slice Y1 Y2 Y3))
          ((refine keepQ2 HKq.out ?_; go_grown; done))
          (first | (go_at_call 27; refine (HSm.out _ (by go_grown)).mono ?_; rintro e w3 ⟨rfl, hb3⟩; have hM3 := onB (W0 := wr) (by go_grown) hb3; have hy3 := hM3.size; clear hb3))
        all_goals go_wp2_with fail
        all_goals go_meet
        all_goals exact ⟨rfl, by go_grown⟩
      case rest => as_aux_lemma =>
      obtain ⟨rfl, hb⟩ := hcut
      have HB2 : Hid (Below w.heap.size w wc) := onB HW.out hb
      clear hb a1 a2
      go_wp2_with fail
      go_roundg (N - (k + 1))
      case measure => omega
      case rel => exact ⟨k + 1, by omega, rfl, by go_num, HB2.out⟩
    · have hke : k = N := by omega
      subst hke
      clear hBw
      go_wp2_with fail
      go_ret
      exact ⟨rfl, HW.out⟩
end Go.Proofs.YtmjcnlpjnbcfjacGreatDoor

namespace Go.Proofs.YtmjcnlpjnbcfjacGreatDoor
open Go.ChangeShapes Go.WideShapes Go.ChangeAt Go.RowKit
set_option maxRecDepth 20000

def rollW (w : World) (A0 : Option Addr) (n cap : Nat) : World := ((ownOut w A0 n cap 24).alloc (.cells #[.int .i64 0, .int .i64 0] 31)).alloc (.cells #[.int .i64 0, .int .i64 0] 31)
theorem rollW_size (w : World) (A0 : Option Addr) (n cap : Nat) : (rollW w A0 n cap).heap.size = w.heap.size + 3 := by unfold rollW; simp [ownOut_size]
theorem rollW_below (w : World) (A0 : Option Addr) (n cap : Nat) : Below w.heap.size w (rollW w A0 n cap) := by unfold rollW ownOut; go_grown
theorem rollW_o (w : World) (A0 : Option Addr) (n cap : Nat) : (rollW w A0 n cap).cell? ⟨w.heap.size, 0, none⟩ = some (.slice A0 n cap) := by
  unfold rollW
  rw [World.cell?_alloc_lt _ _ ⟨w.heap.size, 0, none⟩ (by simp [ownOut_size] <;> omega), World.cell?_alloc_lt _ _ ⟨w.heap.size, 0, none⟩ (by simp [ownOut_size])]
  exact ownOut_at ..
theorem rollW_1 (w : World) (A0 : Option Addr) (n cap : Nat) : (rollW w A0 n cap).heap[w.heap.size + 1]? = some (.cells #[.int .i64 0, .int .i64 0] 31) := by
  unfold rollW
  rw [Below.heap_alloc _ _ _ (by simp [ownOut_size])]
  have h := heap_alloc_new (ownOut w A0 n cap 24) (.cells #[.int .i64 0, .int .i64 0] 31)
  rw [ownOut_size] at h
  exact h
theorem rollW_2 (w : World) (A0 : Option Addr) (n cap : Nat) : (rollW w A0 n cap).heap[w.heap.size + 2]? = some (.cells #[.int .i64 0, .int .i64 0] 31) := by
  have h := heap_alloc_new ((ownOut w A0 n cap 24).alloc (.cells #[.int .i64 0, .int .i64 0] 31)) (.cells #[.int .i64 0, .int .i64 0] 31)
  rw [show ((ownOut w A0 n cap 24).alloc (.cells #[.int .i64 0, .int .i64 0] 31)).heap.size = w.heap.size + 2 by simp [ownOut_size]] at h
  exact h
theorem two_set {w : World} {q : Nat} {x y a b : Value} {T : Nat} (h : w.heap[q]? = some (.cells #[x, y] T)) : ((w.setCell ⟨q, 0, none⟩ a).setCell ⟨q, 1, none⟩ b).heap[q]? = some (.cells #[a, b] T) := by
  simp [World.setCell, Array.getElem?_modify, h]
theorem two_grown {w w' : World} {q : Nat} {a b : Value} (h : w.grownBy w' (some q)) : w.grownBy ((w'.setCell ⟨q, 0, none⟩ a).setCell ⟨q, 1, none⟩ b) (some q) :=
  ⟨h.os, h.tape, h.output, by simpa [World.setCell] using h.size, fun i hi hr => (Below.heap_setCell _ ⟨q, 1, none⟩ b i fun e => hr (by rw [e])).trans ((Below.heap_setCell w' ⟨q, 0, none⟩ a i fun e => hr (by rw [e])).trans (h.block i hi hr))⟩
theorem two_drawn {w w' : World} {q : Nat} {a b : Value} (h : w.grownBy w' (some q)) : w.grownBy ((w'.setCell ⟨q, 0, none⟩ a).setCell ⟨q, 1, none⟩ b).drew (some q) := by
  have k := two_grown (a := a) (b := b) h
  exact ⟨k.os, k.tape, k.output, k.size, k.block⟩
theorem grown_on {w w1 w2 : World} {r : Option Nat} (h : w.grownBy w1 r) (k : Below w1.heap.size w1 w2) : w.grownBy w2 r :=
  ⟨k.os.trans h.os, k.tape.trans h.tape, k.output.trans h.output, Nat.le_trans h.size k.size, fun i hi hr => (k.block i (Nat.lt_of_lt_of_le hi h.size)).trans (h.block i hi hr)⟩
theorem keepR {W w' : World} {q b o : Nat} {u v : Value} (h : q < W.heap.size ∧ b < W.heap.size ∧ W.cell? ⟨q, 0, none⟩ = some u ∧ W.cell? ⟨b, o, none⟩ = some v) (hB : Below W.heap.size W w') : Below W.heap.size W w' ∧ w'.cell? ⟨q, 0, none⟩ = some u ∧ w'.cell? ⟨b, o, none⟩ = some v :=
  ⟨hB, (hB.cell (p := ⟨q, 0, none⟩) h.1).trans h.2.2.1, (hB.cell (p := ⟨b, o, none⟩) h.2.1).trans h.2.2.2⟩
theorem take_step (xs : List EnL) {k : Nat} (h : k < xs.length) (D : Nat → Dm) (n : Nat) (p : List Int) : ((lE xs).take (k + 1)).foldl (rollStep D n p) (0, 0) = rollStep D n p (((lE xs).take k).foldl (rollStep D n p) (0, 0)) (xs.getD k noL).e := by
  have hk : k < (lE xs).length := by rw [lE_len]; exact h
  rw [List.take_succ_eq_append_getElem hk, List.foldl_append]
  have e : (lE xs)[k] = (xs.getD k noL).e := by rw [← lE_at, List.getD_eq_getElem?_getD, List.getElem?_eq_getElem hk]; rfl
  rw [e]
  rfl

set_option maxHeartbeats 8000000 in
theorem rroll_any (A0 : Option Addr) (cap n : Nat) (D : Nat → Dm) (A : Nat → Option Addr) (C : Nat → Nat) (AE : Option Addr) (ce : Nat) (xs : List EnL) (Ap : Option Addr) (cp : Nat) (p : List Int) (w : World) (hEs : Ens D n (lE xs)) (hp : InO D n p) (hM : DimsV w A0 cap n D A C) (hE : EnsV w AE ce xs) (hP : PlAt w Ap cp p) :
    Calls Tryz.prog 6 #[.agg #[.slice A0 n cap], .slice AE xs.length ce, .slice Ap p.length cp] w fun e w' => e = .returned (.agg #[.int .i64 (rollV D n (lE xs) p).1, .int .i64 (rollV D n (lE xs) p).2]) ∧ Below w.heap.size w w' := by
  have HB0 : Hid (Below w.heap.size w (rollW w A0 n cap)) := rollW_below ..
  have HM : Hid (DimsV w A0 cap n D A C) := hM
  have HE : Hid (EnsV w AE ce xs) := hE
  have HP : Hid (PlAt w Ap cp p) := hP
  have HI : Hid (InO D n p) := hp
  have HEs : Hid (Ens D n (lE xs)) := hEs
  have hfew : xs.length ≤ 3000 := by have := hEs.few; rw [lE_len] at this; exact this
  have HFin : Hid (((lE xs).take xs.length).foldl (rollStep D n p) (0, 0) = rollV D n (lE xs) p) := by show _ = _; rw [List.take_of_length_le (by rw [lE_len]; exact Nat.le_refl _)]; exact roll_fold ..
  have HW0 : Hid ((rollW w A0 n cap).cell? ⟨w.heap.size, 0, none⟩ = some (.slice A0 n cap) ∧ (rollW w A0 n cap).heap[w.heap.size + 1]? = some (.cells #[.int .i64 0, .int .i64 0] 31) ∧ (rollW w A0 n cap).heap.size = w.heap.size + 3) := ⟨rollW_o .., rollW_1 .., rollW_size ..⟩
  obtain ⟨N, hN⟩ : ∃ N, xs.length = N := ⟨_, rfl⟩
  obtain ⟨np, hnp⟩ : ∃ np, p.length = np := ⟨_, rfl⟩
  have HN : Hid (xs.length = N) := hN
  have HNP : Hid (p.length = np) := hnp
  rw [hN] at HFin hfew ⊢
  rw [hnp]
  generalize rollV D n (lE xs) p = V at HFin
  have hN' : (N : Int) ≤ 3000 := by omega
  clear hM hE hP hp hEs hN hnp
  go_enter Tryz.func6, Tryz.ntmps6
  go_wp2_with fail
  go_loopg [8] N (fun g s8 wr => ∃ (k : Nat) (a b : Int), k ≤ N ∧ g = N - k ∧ s8 = .int .i64 k ∧ Hid (((lE xs).take k).foldl (rollStep D n p) (0, 0) = (a, b)) ∧ Hid (-1000000 * (k : Int) ≤ b ∧ b ≤ 1000000 * (k : Int)) ∧ Hid (wr.heap[w.heap.size + 2]? = some (.cells #[.int .i64 a, .int .i64 b] 31)) ∧ Hid ((rollW w A0 n cap).grownBy wr (some (w.heap.size + 2))))
  case atStart => exact ⟨0, 0, 0, Nat.zero_le _, rfl, rfl, (rfl : ((lE xs).take 0).foldl (rollStep D n p) (0, 0) = (0, 0)), (by constructor <;> simp : -1000000 * ((0 : Nat) : Int) ≤ (0 : Int) ∧ (0 : Int) ≤ 1000000 * ((0 : Nat) : Int)), rollW_2 w A0 n cap, (⟨rfl, rfl, rfl, Nat.le_refl _, fun _ _ _ => rfl⟩ : (rollW w A0 n cap).grownBy (rollW w A0 n cap) (some (w.heap.size + 2)))⟩
  case round =>
    obtain ⟨k, a, b, hk, rfl, rfl, HF, HBd, HC, HG⟩ := hrel
    have hB : Below w.heap.size w wr := HB0.out.grown HG.out (by rw [HW0.out.2.2]; omega) (fun j hj => by cases hj; omega)
    have HBw : Hid (Below w.heap.size w wr) := hB
    have hzr : w.heap.size + 2 < wr.heap.size := by have := HG.out.size; rw [HW0.out.2.2] at this; omega
    have HOw : Hid (wr.cell? ⟨w.heap.size, 0, none⟩ = some (.slice A0 n cap)) := (World.cell?_of_block (a := ⟨w.heap.size, 0, none⟩) (HG.out.block w.heap.size (by rw [HW0.out.2.2]; omega) (fun e => by simp at e))).trans HW0.out.1
    by_cases hlt : k < N
    · have hkx : k < xs.length := by rw [HN.out]; exact hlt
      have hki : (k : Int) < (N : Int) := by omega
      obtain ⟨-, -, h0 | ⟨bb, oo, rfl, hA⟩⟩ := HE.out.later hB
      · have := HN.out; rw [h0] at this; simp at this; omega
      have hbw : bb < w.heap.size := by
        obtain ⟨-, -, h0 | ⟨b', o', h1, hA'⟩⟩ := HE.out
        · have := HN.out; rw [h0] at this; simp at this; omega
        · cases h1; exact hA'.1
      obtain ⟨c1, c2⟩ := hA.at hkx
      have hmem : (xs.getD k noL).e ∈ lE xs := List.mem_map.2 ⟨_, enl_mem hkx, rfl⟩
      obtain ⟨hqI, -, hnum⟩ := HEs.out.each _ hmem
      have hnn : -1000000 ≤ (xs.getD k noL).e.n ∧ (xs.getD k noL).e.n ≤ 1000000 := by simpa [numOk] using hnum
      have HPw : Hid (∀ w', Below wr.heap.size wr w' → Calls Tryz.prog 13 #[.agg #[.slice A0 n cap], .slice Ap np cp, .slice (xs.getD k noL).A (xs.getD k noL).e.pl.length (xs.getD k noL).c] w' fun e w'' => e = .returned (.tuple #[.int .i64 (pwTo D p (xs.getD k noL).e.pl n), .bool (inTo D p (xs.getD k noL).e.pl n)]) ∧ Below w'.heap.size w' w'') := fun w' hw' => by
        have h := rpw_any A0 cap n D A C Ap cp p (xs.getD k noL).A (xs.getD k noL).c (xs.getD k noL).e.pl w' HI.out hqI (HM.out.later (onB HBw.out hw')) (HP.out.later (onB HBw.out hw')) ((hA.pl hkx).later hw')
        rw [HNP.out] at h
        exact h
      have hsm := pwTo_small hqI p n (Nat.le_refl _)
      have HSt := take_step xs hkx D n p
      rw [HF.out] at HSt
      unfold rollStep cntR valR at HSt
      simp only at HSt
      have hval : -1000000 ≤ pwTo D p (xs.getD k noL).e.pl n * (xs.getD k noL).e.n ∧ pwTo D p (xs.getD k noL).e.pl n * (xs.getD k noL).e.n ≤ 1000000 := by
        have h3 : pwTo D p (xs.getD k noL).e.pl n = -1 ∨ pwTo D p (xs.getD k noL).e.pl n = 0 ∨ pwTo D p (xs.getD k noL).e.pl n = 1 := by omega
        rcases h3 with h3 | h3 | h3 <;> rw [h3] <;> omega
      generalize (xs.getD k noL).A = A1 at c1 HPw
      generalize (xs.getD k noL).c = k1 at c1 HPw
      generalize pwTo D p (xs.getD k noL).e.pl n = pw at HPw HSt hsm hval
      generalize inTo D p (xs.getD k noL).e.pl n = tI at HPw HSt
      generalize (xs.getD k noL).e.n = num at c2 HSt hval hnn
      generalize (xs.getD k noL).e.pl.length = m1 at c1 HPw
      have HST : Hid (((lE xs).take (k + 1)).foldl (rollStep D n p) (0, 0) = if (tI && !(pw == 0)) = true then (1, b + pw * num) else (a, b)) := HSt
      have HRd : Hid (w.heap.size < wr.heap.size ∧ bb < wr.heap.size ∧ wr.cell? ⟨w.heap.size, 0, none⟩ = some (.slice A0 n cap) ∧ wr.cell? ⟨bb, oo + k * 2, none⟩ = some (.slice A1 m1 k1)) := ⟨by omega, hA.1, HOw.out, c1⟩
      have HC2 : Hid (wr.cell? ⟨bb, oo + k * 2 + 1, none⟩ = some (.int .i64 num)) := c2
      have hbr := hA.1
      obtain ⟨hv1, hv2⟩ := hval
      clear hA hB c1 c2 HSt hqI hnum hmem
      go_wp2_with fail
      go_cut [9, 10] (fun s9 s10 wx => s9 = .int .i64 pw ∧ s10 = .bool tI ∧ Below wr.heap.size wr wx)
      case first => as_aux_lemma =>
        go_region_held3 (fun w' => Below wr.heap.size wr w' ∧ w'.cell? ⟨w.heap.size, 0, none⟩ = some (.slice A0 n cap) ∧ w'.cell? ⟨bb, oo + k * 2, none⟩ = some (.slice A1 m1 k1))
          ((refine keepR HRd.out ?_; go_grown; done))
          (first | (go_at_call 13; refine (HPw.out _ (by go_grown)).mono ?_; rintro e w3 ⟨rfl, hb3⟩; have hN3 := onB (W0 := wr) (by go_grown) hb3; have hy3 := hN3.size; clear hb3))
        all_goals go_wp2_with fail
        all_goals go_meet
        all_goals exact ⟨rfl, rfl, by go_grown⟩
      case rest => as_aux_lemma =>
      obtain ⟨rfl, rfl, hb⟩ := hcut
      obtain ⟨w2, rfl⟩ : ∃ w2 : World, w2 = wc := ⟨_, rfl⟩
      have HG2 : Hid ((rollW w A0 n cap).grownBy w2 (some (w.heap.size + 2))) := grown_on HG.out hb
      have kq : w2.heap[w.heap.size + 2]? = some (.cells #[.int .i64 a, .int .i64 b] 31) := (hb.block _ hzr).trans HC.out
      have HKq : Hid (w2.heap[w.heap.size + 2]? = some (.cells #[.int .i64 a, .int .i64 b] 31)) := kq
      have cN : w2.cell? ⟨bb, oo + k * 2 + 1, none⟩ = some (.int .i64 num) := (hb.cell (p := ⟨bb, oo + k * 2 + 1, none⟩) hbr).trans HC2.out
      clear hb HRd HPw HC2
      obtain ⟨tC, htC⟩ : ∃ t, (tI && !(pw == 0)) = t := ⟨_, rfl⟩
      have HTC : Hid ((tI && !(pw == 0)) = tC) := htC
      have HST2 : Hid (((lE xs).take (k + 1)).foldl (rollStep D n p) (0, 0) = if tC = true then (1, b + pw * num) else (a, b)) := by show _ = _; rw [HST.out, htC]
      clear htC HST
      cases tC
      · have HNx : Hid (((lE xs).take (k + 1)).foldl (rollStep D n p) (0, 0) = (a, b)) := HST2.out
        have hBk : -1000000 * ((k + 1 : Nat) : Int) ≤ b ∧ b ≤ 1000000 * ((k + 1 : Nat) : Int) := by have := HBd.out; omega
        have HBk : Hid (-1000000 * ((k + 1 : Nat) : Int) ≤ b ∧ b ≤ 1000000 * ((k + 1 : Nat) : Int)) := hBk
        clear hBk kq
        cases tI
        · clear HTC
          go_wp2_with fail
          go_roundg (N - (k + 1))
          case measure => omega
          case rel => exact ⟨k + 1, a, b, by omega, rfl, by go_num, HNx, HBk, HKq, HG2⟩
        · have hpw : pw = 0 := by have := HTC.out; simpa using this
          subst hpw
          clear HTC
          go_wp2_with fail
          go_roundg (N - (k + 1))
          case measure => omega
          case rel => exact ⟨k + 1, a, b, by omega, rfl, by go_num, HNx, HBk, HKq, HG2⟩
      · have hI : tI = true ∧ pw ≠ 0 := by have := HTC.out; simpa using this
        obtain ⟨rfl, hpn⟩ := hI
        have hpw : (pw != 0) = true := by simpa using hpn
        have HNx : Hid (((lE xs).take (k + 1)).foldl (rollStep D n p) (0, 0) = (1, b + pw * num)) := HST2.out
        have hBk : -1000000 * ((k + 1 : Nat) : Int) ≤ b + pw * num ∧ b + pw * num ≤ 1000000 * ((k + 1 : Nat) : Int) := by have := HBd.out; omega
        have hbb := HBd.out
        have hb1 : -3000000000 ≤ b := by omega
        have hb2 : b ≤ 3000000000 := by omega
        have HBk : Hid (-1000000 * ((k + 1 : Nat) : Int) ≤ b + pw * num ∧ b + pw * num ≤ 1000000 * ((k + 1 : Nat) : Int)) := hBk
        have d0 : w2.cell? ⟨w.heap.size + 2, 0, none⟩ = some (.int .i64 a) := by rw [Lib.cell_of_heap kq]; rfl
        have d1 : w2.cell? ⟨w.heap.size + 2, 1, none⟩ = some (.int .i64 b) := by rw [Lib.cell_of_heap kq]; rfl
        have f0 : w2.frozen? ⟨w.heap.size + 2, 0, none⟩ = false := Lib.frozen_of_heap kq 0
        have f1 : w2.frozen? ⟨w.heap.size + 2, 1, none⟩ = false := Lib.frozen_of_heap kq 1
        have hne : ¬ (bb = w.heap.size + 2) := by omega
        have HS3 : Hid (((w2.setCell ⟨w.heap.size + 2, 0, none⟩ (.int .i64 1)).setCell ⟨w.heap.size + 2, 1, none⟩ (.int .i64 (b + pw * num))).drew.heap[w.heap.size + 2]? = some (.cells #[.int .i64 1, .int .i64 (b + pw * num)] 31)) := two_set kq
        have HG3 : Hid ((rollW w A0 n cap).grownBy ((w2.setCell ⟨w.heap.size + 2, 0, none⟩ (.int .i64 1)).setCell ⟨w.heap.size + 2, 1, none⟩ (.int .i64 (b + pw * num))) (some (w.heap.size + 2))) := two_grown HG2.out
        have HD3 : Hid ((rollW w A0 n cap).grownBy ((w2.setCell ⟨w.heap.size + 2, 0, none⟩ (.int .i64 1)).setCell ⟨w.heap.size + 2, 1, none⟩ (.int .i64 (b + pw * num))).drew (some (w.heap.size + 2))) := two_drawn HG2.out
        clear hpn hBk HTC HST2 hbb kq
        go_wp2_with fail
        go_region_law (fail)
        all_goals go_wp2_with fail
        all_goals go_roundg (N - (k + 1))
        all_goals first
          | exact ⟨k + 1, 1, b + pw * num, by omega, rfl, by go_num, HNx, HBk, HS3, HD3⟩
          | exact ⟨k + 1, 1, b + pw * num, by omega, rfl, by go_num, HNx, HBk, HS3, HG3⟩
          | omega
    · have hke : k = N := by omega
      subst hke
      have HV : Hid (V = (a, b)) := by show _ = _; rw [← HFin.out]; exact HF.out
      have k1 : wr.heap[w.heap.size + 1]? = some (.cells #[.int .i64 0, .int .i64 0] 31) := (HG.out.block (w.heap.size + 1) (by rw [HW0.out.2.2]; omega) (fun e => by simp at e)).trans HW0.out.2.1
      have d0 : wr.cell? ⟨w.heap.size + 2, 0, none⟩ = some (.int .i64 a) := by rw [Lib.cell_of_heap HC.out]; rfl
      have d1 : wr.cell? ⟨w.heap.size + 2, 1, none⟩ = some (.int .i64 b) := by rw [Lib.cell_of_heap HC.out]; rfl
      have e0 : wr.cell? ⟨w.heap.size + 1, 0, none⟩ = some (.int .i64 0) := by rw [Lib.cell_of_heap k1]; rfl
      have e1 : wr.cell? ⟨w.heap.size + 1, 1, none⟩ = some (.int .i64 0) := by rw [Lib.cell_of_heap k1]; rfl
      have f0 : wr.frozen? ⟨w.heap.size + 1, 0, none⟩ = false := Lib.frozen_of_heap k1 0
      have f1 : wr.frozen? ⟨w.heap.size + 1, 1, none⟩ = false := Lib.frozen_of_heap k1 1
      clear hB k1
      go_wp2_with fail
      refine bodyPost_ret (v := .agg #[.int .i64 a, .int .i64 b]) (by simp [results, Tryz.results6, go_sem, e0, e1]) rfl ⟨by rw [HV.out], ?_⟩
      exact (HBw.out.setCell (by show w.heap.size ≤ w.heap.size + 1; omega) _).setCell (by show w.heap.size ≤ w.heap.size + 1; omega) _
end Go.Proofs.YtmjcnlpjnbcfjacGreatDoor
