/-
  What is written at a place: what Get of package input answers, called in whatever memory.
  A place cloned: what slices.Clone answers, called in whatever memory: the same numbers in a block of ints of its own.
  An entry put into a row of entries of a call's own: what slices.Insert answers: in place where there is room, in a new row where there is none.
  An entry put into a row of entries of a call's own, in place: what slices.Insert answers where there is room.
-/
import Derived.Lib.SliceRun
import Derived.Shelf.Spec.SlicesInsertGrow
import Derived.Test.YtfngmnhkhfgmjacDoorJIAV
import Derived.Test.YtfngmnhkhfgmjacDoorJIAZ
import Derived.Test.YtfngmnhkhfgmjacDoorJIBA
namespace Go.Proofs.YtfngmnhkhfgmjacDoor
open Go.ChangeShapes Go.WideShapes Go.ChangeAt Go.RowKit
set_option maxRecDepth 20000
def getErr (D : Nat → Dm) (n : Nat) (l : List En) (p : List Int) : Int := if entsErr D n l ≠ 0 then entsErr D n l else placeErr D n p
def getV (D : Nat → Dm) (n : Nat) (l : List En) (p : List Int) : Int × Int := if getErr D n l p = 0 then getE l p else (0, 0)
theorem getErr_bad {D : Nat → Dm} {n : Nat} {l : List En} (p : List Int) (h : entsErr D n l ≠ 0) : getErr D n l p = entsErr D n l := by unfold getErr; rw [if_pos h]
theorem getErr_in {D : Nat → Dm} {n : Nat} {l : List En} (p : List Int) (h : entsErr D n l = 0) : getErr D n l p = placeErr D n p := by unfold getErr; rw [if_neg (by simpa using h)]
theorem getV_bad {D : Nat → Dm} {n : Nat} {l : List En} {p : List Int} (h : getErr D n l p ≠ 0) : getV D n l p = (0, 0) := by unfold getV; rw [if_neg h]
theorem getV_in {D : Nat → Dm} {n : Nat} {l : List En} {p : List Int} (h : getErr D n l p = 0) : getV D n l p = getE l p := by unfold getV; rw [if_pos h]
theorem short_of {D : Nat → Dm} {n : Nat} {xs : List EnL} {p : List Int} (hE : Ens D n (lE xs)) (hp : InO D n p) : Short xs p := by
 refine ⟨fun k hk => ?_, inO_short hp⟩
 have h1 : (xs.getD k noL).e ∈ lE xs := List.mem_map.2 ⟨_, enl_mem hk, rfl⟩
 exact inO_short (hE.each _ h1).1
theorem few_of {D : Nat → Dm} {n : Nat} {xs : List EnL} (hE : Ens D n (lE xs)) : xs.length ≤ 3000 := by have := hE.few; rw [lE_len] at this; exact this
theorem num_at {D : Nat → Dm} {n : Nat} {xs : List EnL} (hE : Ens D n (lE xs)) {k : Nat} (hk : k < xs.length) : -1000000 ≤ (xs.getD k noL).e.n ∧ (xs.getD k noL).e.n ≤ 1000000 := by
 have h1 : (xs.getD k noL).e ∈ lE xs := List.mem_map.2 ⟨_, enl_mem hk, rfl⟩
 have h2 := (hE.each _ h1).2.2
 simpa [numOk] using h2
def ownOC (w : World) (A0 : Option Addr) (n cap : Nat) : World := (ownOut w A0 n cap 24).alloc (.cells #[.int .i64 0, .int .i64 0] 49)
theorem ownOC_size (w : World) (A0 : Option Addr) (n cap : Nat) : (ownOC w A0 n cap).heap.size = w.heap.size + 2 := by unfold ownOC; simp [ownOut_size]
theorem ownOC_below (w : World) (A0 : Option Addr) (n cap : Nat) : Below w.heap.size w (ownOC w A0 n cap) := by unfold ownOC ownOut; go_grown
theorem ownOC_o (w : World) (A0 : Option Addr) (n cap : Nat) : (ownOC w A0 n cap).cell? ⟨w.heap.size, 0, none⟩ = some (.slice A0 n cap) := by
 unfold ownOC
 rw [World.cell?_alloc_lt _ _ ⟨w.heap.size, 0, none⟩ (by simp [ownOut_size])]
 exact ownOut_at ..
theorem ownOC_b (w : World) (A0 : Option Addr) (n cap : Nat) : (ownOC w A0 n cap).heap[w.heap.size + 1]? = some (.cells #[.int .i64 0, .int .i64 0] 49) := by
 have h := heap_alloc_new (ownOut w A0 n cap 24) (.cells #[.int .i64 0, .int .i64 0] 49)
 rw [ownOut_size] at h
 exact h
set_option maxHeartbeats 4000000 in
theorem iget_any (A0 : Option Addr) (cap n : Nat) (D : Nat → Dm) (A : Nat → Option Addr) (C : Nat → Nat) (AE : Option Addr) (ce : Nat) (xs : List EnL) (Ap : Option Addr) (cp : Nat) (p : List Int) (w : World) (hM : DimsV w A0 cap n D A C) (hE : EnsV w AE ce xs) (hP : PlAt w Ap cp p) :
  Calls Tryd.prog 18 #[.agg #[.slice A0 n cap], .slice AE xs.length ce, .slice Ap p.length cp] w fun r w' => r = .returned (.tuple #[.agg #[.int .i64 (getV D n (lE xs) p).1, .int .i64 (getV D n (lE xs) p).2], errV (getErr D n (lE xs) p)]) ∧ Below w.heap.size w w' := by
 have hB0 := ownOC_below w A0 n cap
 have h := icheck_any A0 cap n D A C AE ce xs (ownOC w A0 n cap) (hM.later hB0) (hE.later hB0)
 have HB0 : Hid (Below w.heap.size w (ownOC w A0 n cap)) := hB0
 have HM : Hid (DimsV w A0 cap n D A C) := hM
 have HE : Hid (EnsV w AE ce xs) := hE
 have HP : Hid (PlAt w Ap cp p) := hP
 obtain ⟨N, hN⟩ : ∃ N, xs.length = N := ⟨_, rfl⟩
 obtain ⟨np, hnp⟩ : ∃ np, p.length = np := ⟨_, rfl⟩
 have HN : Hid (xs.length = N) := hN
 have HNP : Hid (p.length = np) := hnp
 rw [hN] at h ⊢
 rw [hnp]
 have hcap := hE.1
 rw [hN] at hcap
 clear hM hE hP hB0 hN hnp
 by_cases he : entsErr D n (lE xs) = 0
 ·have hEs := ens_of he
  have HEs : Hid (Ens D n (lE xs)) := hEs
  have hfew := few_of hEs
  rw [HN.out] at hfew
  rw [he, errV_zero] at h
  have hge := getErr_in p he
  clear he hEs
  by_cases hp : placeErr D n p = 0
  ·have hpI := inO_of hp
   have HPI : Hid (InO D n p) := hpI
   have HV0 : Hid (errV (getErr D n (lE xs) p) = .nilIface) := by show _ = _; rw [hge, hp]; rfl
   have hgv := getV_in (hge.trans hp)
   by_cases hh : hasE (lE xs) p = true
   ·have HH : Hid (hasE (lE xs) p = true) := hh
    have hi : cntE (lE xs) p < N := by
     rcases Nat.lt_or_ge (cntE (lE xs) p) N with h1 | h1
     ·exact h1
     ·rw [(has_out rfl (by rw [lE_len, HN.out]; exact h1)).1] at hh; cases hh
    have hx := has_in (l := lE xs) (p := p) rfl (by rw [lE_len, HN.out]; exact hi)
    have HV1 : Hid (getV D n (lE xs) p = (1, (xs.getD (cntE (lE xs) p) noL).e.n)) := by
     show _ = _
     rw [hgv, hx.2]
     rw [hx.1] at hh
     rw [if_neg (by simpa using hh), lE_at]
    have hnum := num_at HEs.out (k := cntE (lE xs) p) (by rw [HN.out]; exact hi)
    have HCE : Hid (∀ w', Below w.heap.size w w' → Calls Tryd.prog 37 #[.agg #[.slice A0 n cap], .slice Ap np cp] w' fun e w'' => e = .returned .nilIface ∧ Below w'.heap.size w' w'') := fun w' hw' => by
     have h1 := pcheck_any A0 cap n D A C Ap cp p w' (HM.out.later hw') (HP.out.later hw')
     rw [hp, errV_zero, HNP.out] at h1
     exact h1
    have HFD : Hid (∀ w', Below w.heap.size w w' → Calls Tryd.prog 38 #[.slice AE N ce, .slice Ap np cp] w' fun e w'' => e = .returned (.tuple #[.int .i64 (cntE (lE xs) p : Nat), .bool true]) ∧ Below w'.heap.size w' w'') := fun w' hw' => by
     have h1 := ifind_any AE ce xs Ap cp p w' (by rw [HN.out]; exact hfew) (HE.out.later hw') HEs.out.rise (short_of HEs.out HPI.out) (HP.out.later hw')
     rw [HH.out, HN.out, HNP.out] at h1
     exact h1
    clear hp hpI hge hgv hh hx
    generalize cntE (lE xs) p = i at hi HV1 HFD hnum
    generalize hgn : (xs.getD i noL).e.n = num at HV1 hnum
    have HGN : Hid ((xs.getD i noL).e.n = num) := hgn
    have hof := fun w' => of_any num w'
    obtain ⟨hn1, hn2⟩ := hnum
    have hofp : ofP num = (1, num) := ofP_in (by omega) (by omega)
    rw [hofp] at hof
    clear hgn hofp
    have hi' : (i : Int) < (N : Int) := by omega
    go_enter Tryd.func18, Tryd.ntmps18
    go_wp2_with fail
    refine h.mono ?_
    rintro e w1 ⟨rfl, hb1⟩
    have hB1 : Below w.heap.size w w1 := onB HB0.out hb1
    have h2 := HCE.out w1 hB1
    have c1 : w1.cell? ⟨w.heap.size, 0, none⟩ = some (.slice A0 n cap) := (hb1.cell (p := ⟨w.heap.size, 0, none⟩) (by show w.heap.size < _; rw [ownOC_size]; omega)).trans (ownOC_o ..)
    have k1 : w1.heap[w.heap.size + 1]? = some (.cells #[.int .i64 0, .int .i64 0] 49) := (hb1.block (w.heap.size + 1) (by rw [ownOC_size]; omega)).trans (ownOC_b ..)
    have hz1 : w.heap.size + 1 < w1.heap.size := by have := hb1.size; rw [ownOC_size] at this; omega
    have HB1 : Hid (Below w.heap.size w w1) := hB1
    have HK1 : Hid (w1.heap[w.heap.size + 1]? = some (.cells #[.int .i64 0, .int .i64 0] 49)) := k1
    clear hb1 hB1 k1 h
    go_wp2_with fail
    refine h2.mono ?_
    rintro e w2 ⟨rfl, hb2⟩
    have hB2 : Below w.heap.size w w2 := onB HB1.out hb2
    have h3 := HFD.out w2 hB2
    have HB2 : Hid (Below w.heap.size w w2) := hB2
    have HK2 : Hid (w2.heap[w.heap.size + 1]? = some (.cells #[.int .i64 0, .int .i64 0] 49)) := (hb2.block _ hz1).trans HK1.out
    have hz2 : w.heap.size + 1 < w2.heap.size := Nat.lt_of_lt_of_le hz1 hb2.size
    clear hb2 hB2 h2 HK1 HB1 c1
    go_wp2_with fail
    refine h3.mono ?_
    rintro e w3 ⟨rfl, hb3⟩
    have hB3 : Below w.heap.size w w3 := onB HB2.out hb3
    have HB3 : Hid (Below w.heap.size w w3) := hB3
    have HK3 : Hid (w3.heap[w.heap.size + 1]? = some (.cells #[.int .i64 0, .int .i64 0] 49)) := (hb3.block _ hz2).trans HK2.out
    have hz3 : w.heap.size + 1 < w3.heap.size := Nat.lt_of_lt_of_le hz2 hb3.size
    obtain ⟨-, -, h0 | ⟨b, o, rfl, hA⟩⟩ := HE.out.later hB3
    ·have := HN.out; rw [h0] at this; simp at this; omega
    have c3 := (hA.at (k := i) (by rw [HN.out]; exact hi)).2
    rw [HGN.out] at c3
    clear hb3 hB3 h3 HK2 HB2 hA
    go_wp2_with fail
    refine (hof _).mono ?_
    rintro e w4 ⟨rfl, hb4⟩
    have k4 : w4.heap[w.heap.size + 1]? = some (.cells #[.int .i64 0, .int .i64 0] 49) := (hb4.block _ hz3).trans HK3.out
    have d0 : w4.cell? ⟨w.heap.size + 1, 0, none⟩ = some (.int .i64 0) := by rw [Lib.cell_of_heap k4]; rfl
    have d1 : w4.cell? ⟨w.heap.size + 1, 1, none⟩ = some (.int .i64 0) := by rw [Lib.cell_of_heap k4]; rfl
    have f0 : w4.frozen? ⟨w.heap.size + 1, 0, none⟩ = false := Lib.frozen_of_heap k4 0
    have f1 : w4.frozen? ⟨w.heap.size + 1, 1, none⟩ = false := Lib.frozen_of_heap k4 1
    have HB4 : Hid (Below w.heap.size w w4) := onB HB3.out hb4
    clear hb4 k4 c3
    go_wp2_with fail
    refine bodyPost_ret (v := .tuple #[.agg #[.int .i64 1, .int .i64 num], .nilIface]) (by simp [results, Tryd.results18, go_sem, d0, d1]) rfl ⟨by rw [HV1.out, HV0.out], ?_⟩
    exact (HB4.out.setCell (by show w.heap.size ≤ w.heap.size + 1; omega) _).setCell (by show w.heap.size ≤ w.heap.size + 1; omega) _
   ·have hh' : hasE (lE xs) p = false := by simpa using hh
    have HH : Hid (hasE (lE xs) p = false) := hh'
    have HV1 : Hid (getV D n (lE xs) p = (0, 0)) := by
     show _ = _
     rw [hgv]
     rcases Nat.lt_or_ge (cntE (lE xs) p) (lE xs).length with h1 | h1
     ·have hx := has_in (l := lE xs) (p := p) rfl h1
      rw [hx.1] at hh'
      rw [hx.2, if_pos (by simpa using hh')]
     ·exact (has_out rfl h1).2
    have HCE : Hid (∀ w', Below w.heap.size w w' → Calls Tryd.prog 37 #[.agg #[.slice A0 n cap], .slice Ap np cp] w' fun e w'' => e = .returned .nilIface ∧ Below w'.heap.size w' w'') := fun w' hw' => by
     have h1 := pcheck_any A0 cap n D A C Ap cp p w' (HM.out.later hw') (HP.out.later hw')
     rw [hp, errV_zero, HNP.out] at h1
     exact h1
    have HFD : Hid (∀ w', Below w.heap.size w w' → Calls Tryd.prog 38 #[.slice AE N ce, .slice Ap np cp] w' fun e w'' => e = .returned (.tuple #[.int .i64 (cntE (lE xs) p : Nat), .bool false]) ∧ Below w'.heap.size w' w'') := fun w' hw' => by
     have h1 := ifind_any AE ce xs Ap cp p w' (by rw [HN.out]; exact hfew) (HE.out.later hw') HEs.out.rise (short_of HEs.out HPI.out) (HP.out.later hw')
     rw [HH.out, HN.out, HNP.out] at h1
     exact h1
    clear hp hpI hge hgv hh hh'
    generalize cntE (lE xs) p = i at HFD
    go_enter Tryd.func18, Tryd.ntmps18
    go_wp2_with fail
    refine h.mono ?_
    rintro e w1 ⟨rfl, hb1⟩
    have hB1 : Below w.heap.size w w1 := onB HB0.out hb1
    have h2 := HCE.out w1 hB1
    have c1 : w1.cell? ⟨w.heap.size, 0, none⟩ = some (.slice A0 n cap) := (hb1.cell (p := ⟨w.heap.size, 0, none⟩) (by show w.heap.size < _; rw [ownOC_size]; omega)).trans (ownOC_o ..)
    have k1 : w1.heap[w.heap.size + 1]? = some (.cells #[.int .i64 0, .int .i64 0] 49) := (hb1.block (w.heap.size + 1) (by rw [ownOC_size]; omega)).trans (ownOC_b ..)
    have hz1 : w.heap.size + 1 < w1.heap.size := by have := hb1.size; rw [ownOC_size] at this; omega
    have HB1 : Hid (Below w.heap.size w w1) := hB1
    have HK1 : Hid (w1.heap[w.heap.size + 1]? = some (.cells #[.int .i64 0, .int .i64 0] 49)) := k1
    clear hb1 hB1 k1 h
    go_wp2_with fail
    refine h2.mono ?_
    rintro e w2 ⟨rfl, hb2⟩
    have hB2 : Below w.heap.size w w2 := onB HB1.out hb2
    have h3 := HFD.out w2 hB2
    have HB2 : Hid (Below w.heap.size w w2) := hB2
    have HK2 : Hid (w2.heap[w.heap.size + 1]? = some (.cells #[.int .i64 0, .int .i64 0] 49)) := (hb2.block _ hz1).trans HK1.out
    have hz2 : w.heap.size + 1 < w2.heap.size := Nat.lt_of_lt_of_le hz1 hb2.size
    clear hb2 hB2 h2 HK1 HB1 c1
    go_wp2_with fail
    refine h3.mono ?_
    rintro e w3 ⟨rfl, hb3⟩
    have HB3 : Hid (Below w.heap.size w w3) := onB HB2.out hb3
    have HK3 : Hid (w3.heap[w.heap.size + 1]? = some (.cells #[.int .i64 0, .int .i64 0] 49)) := (hb3.block _ hz2).trans HK2.out
    clear hb3 h3 HK2 HB2
    have d0 : w3.cell? ⟨w.heap.size + 1, 0, none⟩ = some (.int .i64 0) := by rw [Lib.cell_of_heap HK3.out]; rfl
    have d1 : w3.cell? ⟨w.heap.size + 1, 1, none⟩ = some (.int .i64 0) := by rw [Lib.cell_of_heap HK3.out]; rfl
    have f0 : w3.frozen? ⟨w.heap.size + 1, 0, none⟩ = false := Lib.frozen_of_heap HK3.out 0
    have f1 : w3.frozen? ⟨w.heap.size + 1, 1, none⟩ = false := Lib.frozen_of_heap HK3.out 1
    go_wp2_with fail
    refine bodyPost_ret (v := .tuple #[.agg #[.int .i64 0, .int .i64 0], .nilIface]) (by simp [results, Tryd.results18, go_sem, d0, d1]) rfl ⟨by rw [HV1.out, HV0.out], ?_⟩
    exact (HB3.out.setCell (by show w.heap.size ≤ w.heap.size + 1; omega) _).setCell (by show w.heap.size ≤ w.heap.size + 1; omega) _
  ·have hge2 : getErr D n (lE xs) p ≠ 0 := by rw [hge]; exact hp
   have HV1 : Hid (getV D n (lE xs) p = (0, 0)) := getV_bad hge2
   have HV0 : Hid (errV (getErr D n (lE xs) p) = .iface 69 (.int .i64 (placeErr D n p))) := by show _ = _; rw [hge, errV_some hp]
   have HCE : Hid (∀ w', Below w.heap.size w w' → Calls Tryd.prog 37 #[.agg #[.slice A0 n cap], .slice Ap np cp] w' fun e w'' => e = .returned (.iface 69 (.int .i64 (placeErr D n p))) ∧ Below w'.heap.size w' w'') := fun w' hw' => by
    have h1 := pcheck_any A0 cap n D A C Ap cp p w' (HM.out.later hw') (HP.out.later hw')
    rw [errV_some hp, HNP.out] at h1
    exact h1
   clear hge hge2
   generalize placeErr D n p = E at HV0 HCE hp
   clear hp
   go_enter Tryd.func18, Tryd.ntmps18
   go_wp2_with fail
   refine h.mono ?_
   rintro e w1 ⟨rfl, hb1⟩
   have hB1 : Below w.heap.size w w1 := onB HB0.out hb1
   have h2 := HCE.out w1 hB1
   have c1 : w1.cell? ⟨w.heap.size, 0, none⟩ = some (.slice A0 n cap) := (hb1.cell (p := ⟨w.heap.size, 0, none⟩) (by show w.heap.size < _; rw [ownOC_size]; omega)).trans (ownOC_o ..)
   have k1 : w1.heap[w.heap.size + 1]? = some (.cells #[.int .i64 0, .int .i64 0] 49) := (hb1.block (w.heap.size + 1) (by rw [ownOC_size]; omega)).trans (ownOC_b ..)
   have hz1 : w.heap.size + 1 < w1.heap.size := by have := hb1.size; rw [ownOC_size] at this; omega
   have HB1 : Hid (Below w.heap.size w w1) := hB1
   have HK1 : Hid (w1.heap[w.heap.size + 1]? = some (.cells #[.int .i64 0, .int .i64 0] 49)) := k1
   clear hb1 hB1 k1 h
   go_wp2_with fail
   refine h2.mono ?_
   rintro e w2 ⟨rfl, hb2⟩
   have hB2 : Below w.heap.size w w2 := onB HB1.out hb2
   have HB2 : Hid (Below w.heap.size w w2) := hB2
   have HK2 : Hid (w2.heap[w.heap.size + 1]? = some (.cells #[.int .i64 0, .int .i64 0] 49)) := (hb2.block _ hz1).trans HK1.out
   have hz2 : w.heap.size + 1 < w2.heap.size := Nat.lt_of_lt_of_le hz1 hb2.size
   clear hb2 hB2 h2 HK1 HB1 c1
   have d0 : w2.cell? ⟨w.heap.size + 1, 0, none⟩ = some (.int .i64 0) := by rw [Lib.cell_of_heap HK2.out]; rfl
   have d1 : w2.cell? ⟨w.heap.size + 1, 1, none⟩ = some (.int .i64 0) := by rw [Lib.cell_of_heap HK2.out]; rfl
   have f0 : w2.frozen? ⟨w.heap.size + 1, 0, none⟩ = false := Lib.frozen_of_heap HK2.out 0
   have f1 : w2.frozen? ⟨w.heap.size + 1, 1, none⟩ = false := Lib.frozen_of_heap HK2.out 1
   go_wp2_with fail
   refine bodyPost_ret (v := .tuple #[.agg #[.int .i64 0, .int .i64 0], .iface 69 (.int .i64 E)]) (by simp [results, Tryd.results18, go_sem, d0, d1]) rfl ⟨by rw [HV1.out, HV0.out], ?_⟩
   exact (HB2.out.setCell (by show w.heap.size ≤ w.heap.size + 1; omega) _).setCell (by show w.heap.size ≤ w.heap.size + 1; omega) _
 ·have hge := getErr_bad p he
  have HV1 : Hid (getV D n (lE xs) p = (0, 0)) := getV_bad (by rw [hge]; exact he)
  have HV0 : Hid (errV (getErr D n (lE xs) p) = .iface 69 (.int .i64 (entsErr D n (lE xs)))) := by show _ = _; rw [hge, errV_some he]
  rw [errV_some he] at h
  clear hge
  generalize entsErr D n (lE xs) = E at h HV0 he
  clear he
  go_enter Tryd.func18, Tryd.ntmps18
  go_wp2_with fail
  refine h.mono ?_
  rintro e w1 ⟨rfl, hb1⟩
  have hB1 : Below w.heap.size w w1 := onB HB0.out hb1
  have c1 : w1.cell? ⟨w.heap.size, 0, none⟩ = some (.slice A0 n cap) := (hb1.cell (p := ⟨w.heap.size, 0, none⟩) (by show w.heap.size < _; rw [ownOC_size]; omega)).trans (ownOC_o ..)
  have k1 : w1.heap[w.heap.size + 1]? = some (.cells #[.int .i64 0, .int .i64 0] 49) := (hb1.block (w.heap.size + 1) (by rw [ownOC_size]; omega)).trans (ownOC_b ..)
  have hz1 : w.heap.size + 1 < w1.heap.size := by have := hb1.size; rw [ownOC_size] at this; omega
  have HB1 : Hid (Below w.heap.size w w1) := hB1
  have HK1 : Hid (w1.heap[w.heap.size + 1]? = some (.cells #[.int .i64 0, .int .i64 0] 49)) := k1
  clear hb1 hB1 k1 h
  have d0 : w1.cell? ⟨w.heap.size + 1, 0, none⟩ = some (.int .i64 0) := by rw [Lib.cell_of_heap HK1.out]; rfl
  have d1 : w1.cell? ⟨w.heap.size + 1, 1, none⟩ = some (.int .i64 0) := by rw [Lib.cell_of_heap HK1.out]; rfl
  have f0 : w1.frozen? ⟨w.heap.size + 1, 0, none⟩ = false := Lib.frozen_of_heap HK1.out 0
  have f1 : w1.frozen? ⟨w.heap.size + 1, 1, none⟩ = false := Lib.frozen_of_heap HK1.out 1
  go_wp2_with fail
  refine bodyPost_ret (v := .tuple #[.agg #[.int .i64 0, .int .i64 0], .iface 69 (.int .i64 E)]) (by simp [results, Tryd.results18, go_sem, d0, d1]) rfl ⟨by rw [HV1.out, HV0.out], ?_⟩
  exact (HB1.out.setCell (by show w.heap.size ≤ w.heap.size + 1; omega) _).setCell (by show w.heap.size ≤ w.heap.size + 1; omega) _
end Go.Proofs.YtfngmnhkhfgmjacDoor
namespace Go.Proofs.YtfngmnhkhfgmjacDoor
open Go.ChangeShapes Go.WideShapes Go.ChangeAt Go.RowKit
set_option maxRecDepth 20000
def NewE (N : Nat) (xs : List EnL) : Prop := ∀ x ∈ xs, NewA N x.A
theorem NewE.zero (xs : List EnL) : NewE 0 xs := fun _ _ => NewA.zero _
theorem NewE.le {N M : Nat} {xs : List EnL} (h : NewE N xs) (hm : M ≤ N) : NewE M xs := fun x hx => (h x hx).le hm
theorem NewE.put {N i : Nat} {xs : List EnL} {x : EnL} (h : NewE N xs) (hx : NewA N x.A) : NewE N (xs.take i ++ x :: xs.drop i) := fun y hy => by
 rcases List.mem_append.1 hy with hy | hy
 ·exact h y (List.mem_of_mem_take hy)
 ·rcases List.mem_cons.1 hy with rfl | hy
  ·exact hx
  ·exact h y (List.mem_of_mem_drop hy)
theorem NewE.cut {N i j : Nat} {xs : List EnL} (h : NewE N xs) : NewE N (xs.take i ++ xs.drop j) := fun y hy => by
 rcases List.mem_append.1 hy with hy | hy
 ·exact h y (List.mem_of_mem_take hy)
 ·exact h y (List.mem_of_mem_drop hy)
theorem NewE.set {N i : Nat} {xs : List EnL} (h : NewE N xs) (hi : i < xs.length) (e : En) (c : Nat) : NewE N (xs.set i ⟨e, (xs.getD i noL).A, c⟩) := fun y hy => by
 rcases List.mem_or_eq_of_mem_set hy with hy | rfl
 ·exact h y hy
 ·exact h (xs.getD i noL) (enl_mem hi)
theorem plty_new {w : World} {base : Nat} {v : Value} {L : List Int} (h : w.ownsRow base 3 1 v L.length (L.map (Value.int .i64))) : ∃ A c, v = .slice A L.length c ∧ PlTy w A c L ∧ NewA base A := by
 obtain ⟨A, c, rfl, hP⟩ := plty_own h
 refine ⟨A, c, rfl, hP, fun b o e => ?_⟩
 subst e
 rcases h.2 with ⟨h1, -⟩ | ⟨g, cap, cur, h1, hb, -⟩
 ·cases h1
 ·cases h1; exact hb
set_option maxHeartbeats 2000000 in
theorem clone_new (A : Option Addr) (c : Nat) (L : List Int) (w : World) (hL : L.length ≤ 4) (hP : PlAt w A c L) : Calls Tryd.prog 58 #[.slice A L.length c] w fun e w' => (∃ A' c', e = .returned (.slice A' L.length c') ∧ PlTy w' A' c' L ∧ NewA w.heap.size A') ∧ Below w.heap.size w w' := by
 have hq : ∀ (w : World) (a : Option Addr) (n c n' c' : Nat), (binOp .eql 40 (.slice a n c) (.slice none n' c')).run Tryd.prog w = .ok (.bool a.isNone) w := fun w a n c n' c' => Lib.run_eql_slice_nil w _ _ a n c n' c' Tryd.underlying40
 cases A with
 | none =>
  obtain ⟨-, h0 | ⟨b, o, h0, -⟩⟩ := hP
  ·subst h0
   simp only [List.length_nil]
   go_enter Tryd.func58, Tryd.ntmps58
   go_wp2_with fail
   go_ret
   exact ⟨⟨none, 0, rfl, PlTy.nil _ _ _, NewA.none _⟩, Below.refl _ _⟩
  ·cases h0
 | some a =>
  obtain ⟨i0, hi0, hz0, hz1, hz2⟩ := info_parts Tryd.infoIntP
  have HC : Hid (∀ j u, (L.map (Value.int .i64))[j]? = some u → w.cell? (a.add j) = some u) := by
   intro j u hj
   obtain ⟨-, h0 | ⟨b, o, h0, -, hcell⟩⟩ := hP
   ·subst h0; simp at hj
   ·cases h0
    have hlt : j < L.length := by have := (List.getElem?_eq_some_iff.1 hj).1; simpa using this
    rw [plain_add, hcell j hlt]
    simp only [List.getElem?_map, List.getElem?_eq_getElem hlt, Option.map_some, Option.some.injEq] at hj
    rw [← hj, List.getD_eq_getElem?_getD, List.getElem?_eq_getElem hlt]
    rfl
  have HF : Hid (∀ (w' : World) (v : Value), w'.ownsRow w.heap.size 3 1 v L.length (L.map (Value.int .i64)) → ∃ A' c', v = .slice A' L.length c' ∧ PlTy w' A' c' L ∧ NewA w.heap.size A') := fun w' v h => plty_new h
  have hl : (L.map (Value.int .i64)).length = L.length * 1 := by simp
  have h1 : ∀ u ∈ L.map (Value.int .i64), u.oneCell' = true := by intro u hu; simp at hu; obtain ⟨x, -, rfl⟩ := hu; rfl
  have hm : L.length ≤ 4 := hL
  clear hP hL
  go_enter Tryd.func58, Tryd.ntmps58
  go_wp2_with (at_builtin; refine wpList_append_own _ rfl _ _ 40 rfl w.heap.size 3 i0 (.int .i64 0) 1 8 Tryd.underlying40 hi0 hz0 hz1 hz2 rfl (by decide) _ _ _ rfl (World.ownsRow_made w #[] 0 (Nat.le_refl _) (Nat.zero_le _) (by simp)) a L.length c (L.map (Value.int .i64)) rfl ?qc1 ?qc2 ?qc3 ?qc4 ?qc5 ?qc6 ?_)
  case qc1 => exact hl
  case qc2 => exact fun j u hj => Lib.cell?_alloc_some _ (HC.out j u hj)
  case qc3 => exact h1
  case qc4 => simp only [maxLen]; omega
  case qc5 => omega
  case qc6 => simp
  intro v' w1 hown hgrow hnil
  obtain ⟨A', c', rfl, hT, hNw⟩ := HF.out _ _ hown
  have HT : Hid (PlTy w1 A' c' L ∧ NewA w.heap.size A') := ⟨hT, hNw⟩
  have HB : Hid (Below w.heap.size w w1) := ((Below.refl _ w).alloc (Nat.le_refl _) _).grown hgrow (by simp) (by intro k hk; simp [Value.ownBlock] at hk; omega)
  clear hown hgrow hnil hT hNw
  go_wp2_with fail
  go_ret
  exact ⟨⟨A', c', rfl, HT.out⟩, HB.out⟩
end Go.Proofs.YtfngmnhkhfgmjacDoor
namespace Go.Proofs.YtfngmnhkhfgmjacDoor
open Go.ChangeShapes Go.WideShapes Go.ChangeAt Go.RowKit Go.Lib
set_option maxRecDepth 100000
theorem Tryd.infoEnt : (Tryd.prog.info? 77).map (fun i => (i.zero, i.size, i.bytes)) = some (some (.agg #[.slice none 0 0, .int .i64 0]), 2, 32) := by kernel_rfl
def OneE (w : World) (vb : Nat) (x : EnL) : Prop := w.heap[vb]? = some (.cells #[.slice x.A x.e.pl.length x.c, .int .i64 x.e.n] 77 (0, 0))
theorem OneE.cells {w : World} {vb : Nat} {x : EnL} (h : OneE w vb x) : ∀ j u, (cellsE [x])[j]? = some u → w.cell? ⟨vb, j, none⟩ = some u := by
 intro j u hj
 rw [Lib.cell_of_heap h]
 simpa [cellsE] using hj
def Inserted (w : World) (g i : Nat) (xs : List EnL) (x : EnL) (e : Ending) (w' : World) : Prop := ∃ g' cap', e = .returned (.slice (some ⟨g', 0, none⟩) (xs.length + 1) cap') ∧ RowE w' g' cap' (xs.take i ++ x :: xs.drop i) ∧ g ≤ g' ∧ w.grownBy w' (some g)
set_option maxHeartbeats 4000000 in
theorem insert_end (g cap vb : Nat) (xs : List EnL) (x : EnL) (w : World) (hn : xs.length ≤ 3000) (hR : RowE w g cap xs) (hx : PlTy w x.A x.c x.e.pl) (hv : OneE w vb x) :
  Calls Tryd.prog 57 #[.slice (some ⟨g, 0, none⟩) xs.length cap, .int .i64 xs.length, .slice (some ⟨vb, 0, none⟩) 1 1] w fun e w' => Inserted w g xs.length xs x e w' := by
 obtain ⟨i0, hi0, hz0, hz1, hz2⟩ := info_parts Tryd.infoEnt
 have hown := hR.own (Nat.le_refl g)
 have hgs : g ≤ w.heap.size := Nat.le_of_lt hR.lt
 have hcap := hR.2.1
 have hcm := hR.2.2.1
 have HR : Hid (RowE w g cap xs) := hR
 have HX : Hid (PlTy w x.A x.c x.e.pl) := hx
 have HV : Hid (∀ j u, (cellsE [x])[j]? = some u → w.cell? ⟨vb, j, none⟩ = some u) := hv.cells
 have HE : Hid (cellsE (xs ++ [x]) = cellsE xs ++ cellsE [x]) := cellsE_append ..
 have HL : Hid ((cellsE [x]).length = 1 * 2) := cellsE_len [x]
 have H1 : Hid (∀ v ∈ cellsE [x], v.oneCell' = true) := cellsE_one [x]
 have HT : Hid (xs.take xs.length ++ x :: xs.drop xs.length = xs ++ [x] ∧ (xs ++ [x]).length = xs.length + 1) := ⟨by simp, by simp⟩
 obtain ⟨n, hnn⟩ : ∃ n, xs.length = n := ⟨_, rfl⟩
 have HN : Hid (xs.length = n) := hnn
 rw [hnn] at hown hn hcap HT
 unfold Inserted
 rw [hnn]
 generalize hcx : cellsE xs = CX at hown HE
 generalize hc1 : cellsE [x] = C1 at HV HE HL H1
 unfold maxLen at hcm
 clear hR hx hv hnn hcx hc1
 have hn' : (n : Int) ≤ 3000 := by omega
 by_cases hce : cap = n
 ·subst hce
  go_enter Tryd.func57, Tryd.ntmps57
  go_wp2_with (at_builtin; refine wpList_append_own _ rfl _ _ 43 rfl g 77 i0 (.agg #[.slice none 0 0, .int .i64 0]) 2 32 Tryd.underlying43 hi0 hz0 hz1 hz2 rfl (by decide) _ _ _ rfl hown ⟨vb, 0, none⟩ 1 1 C1 rfl ?qc1 ?qc2 ?qc3 ?qc4 ?qc5 ?qc6 ?_)
  case qc1 => exact HL.out
  case qc2 => exact fun j u hj => by rw [plain_add, Nat.zero_add]; exact HV.out j u hj
  case qc3 => exact H1.out
  case qc4 => simp only [maxLen]; omega
  case qc5 => omega
  case qc6 => exact hgs
  intro v' w1 hown1 hgrow hnil
  rw [← HE.out, ← HT.out.2] at hown1
  have hg1 : w.grownBy w1 (some g) := hgrow
  obtain ⟨⟨cur, hcur, -, -⟩, -⟩ := HR.out
  have hpl : ∀ y ∈ xs ++ [x], PlTy w1 y.A y.c y.e.pl := fun y hy => by
   rcases List.mem_append.1 hy with hy | hy
   ·exact (HR.out.2.2.2 y hy).grown hcur hg1
   ·rw [List.mem_singleton.1 hy]; exact HX.out.grown hcur hg1
  obtain ⟨g', cap', rfl, hgg, hRow⟩ := row_own hown1 (by simpa using hnil) hpl
  have HRow : Hid (RowE w1 g' cap' (xs ++ [x])) := hRow
  have HG : Hid (w.grownBy w1 (some g)) := hg1
  rw [HT.out.2]
  clear hown1 hgrow hnil hcur hpl hRow hg1
  go_wp2_with fail
  go_ret
  refine ⟨g', cap', rfl, ?_, hgg, HG.out⟩
  rw [HT.out.1]
  exact HRow.out
 ·have hce' : ¬ ((cap : Int) = (n : Int)) := by omega
  go_enter Tryd.func57, Tryd.ntmps57
  go_wp2_with (at_builtin; refine wpList_append_own _ rfl _ _ 43 rfl g 77 i0 (.agg #[.slice none 0 0, .int .i64 0]) 2 32 Tryd.underlying43 hi0 hz0 hz1 hz2 rfl (by decide) _ _ _ rfl hown ⟨vb, 0, none⟩ 1 1 C1 rfl ?qc1 ?qc2 ?qc3 ?qc4 ?qc5 ?qc6 ?_)
  case qc1 => exact HL.out
  case qc2 => exact fun j u hj => by rw [plain_add, Nat.zero_add]; exact HV.out j u hj
  case qc3 => exact H1.out
  case qc4 => simp only [maxLen]; omega
  case qc5 => omega
  case qc6 => exact hgs
  intro v' w1 hown1 hgrow hnil
  rw [← HE.out, ← HT.out.2] at hown1
  have hg1 : w.grownBy w1 (some g) := hgrow
  obtain ⟨⟨cur, hcur, -, -⟩, -⟩ := HR.out
  have hpl : ∀ y ∈ xs ++ [x], PlTy w1 y.A y.c y.e.pl := fun y hy => by
   rcases List.mem_append.1 hy with hy | hy
   ·exact (HR.out.2.2.2 y hy).grown hcur hg1
   ·rw [List.mem_singleton.1 hy]; exact HX.out.grown hcur hg1
  obtain ⟨g', cap', rfl, hgg, hRow⟩ := row_own hown1 (by simpa using hnil) hpl
  have HRow : Hid (RowE w1 g' cap' (xs ++ [x])) := hRow
  have HG : Hid (w.grownBy w1 (some g)) := hg1
  rw [HT.out.2]
  clear hown1 hgrow hnil hcur hpl hRow hg1
  go_wp2_with fail
  go_ret
  refine ⟨g', cap', rfl, ?_, hgg, HG.out⟩
  rw [HT.out.1]
  exact HRow.out
end Go.Proofs.YtfngmnhkhfgmjacDoor
namespace Go.Proofs.YtfngmnhkhfgmjacDoor
open Go.ChangeShapes Go.WideShapes Go.ChangeAt Go.RowKit Go.Lib
set_option maxRecDepth 100000
theorem ent_over (w : World) (g vb o lb cb kB : Nat) (x : EnL) (cur : Array Value) (hvb : vb ≠ g) (hv : OneE w vb x) (hg : w.heap[g]? = some (.cells cur 77 (0, 0))) (hk : cur.size = kB) (hk0 : kB ≠ 0) :
  (callFunc 73 #[.slice (some ⟨vb, 0, none⟩) 1 1, .slice (some ⟨g, o, none⟩) lb cb]).run Tryd.prog w = .ok (.value (.bool false)) w := by
 rw [run_callFunc_extern Tryd.func73 (by kernel_rfl) (by kernel_rfl) (by kernel_rfl) (e := Extern.SlicesOverlaps.overlaps #[43, 43] #[4]) (by kernel_rfl),
  Lib.run_overlaps_apart w 43 4 77 Tryd.underlying43 2 Tryd.sizeOf77 ⟨vb, 0, none⟩ ⟨g, o, none⟩ 1 1 lb cb hvb 77 77 2 kB (by simp [World.shape?, show w.heap[vb]? = _ from hv]) (by simp [World.shape?, hg, hk]) hk0 (Lib.frozen_of_heap hv 0) (Lib.frozen_of_heap hv 2)]
 rfl
set_option maxHeartbeats 4000000 in
theorem insert_shift (g cap i vb : Nat) (xs : List EnL) (x : EnL) (w : World) (hn : xs.length ≤ 3000) (hi : i < xs.length) (hroom : xs.length + 1 ≤ cap) (hvb : vb ≠ g) (hR : RowE w g cap xs) (hx : PlTy w x.A x.c x.e.pl) (hv : OneE w vb x) :
  Calls Tryd.prog 57 #[.slice (some ⟨g, 0, none⟩) xs.length cap, .int .i64 i, .slice (some ⟨vb, 0, none⟩) 1 1] w fun e w' => Inserted w g i xs x e w' := by
 obtain ⟨i0, hi0, hz0, hz1, hz2⟩ := info_parts Tryd.infoEnt
 have hsz : (Tryd.prog.info? 77).map (·.size) = some 2 := by rw [hi0]; simp [hz1]
 have hcm := hR.2.2.1
 unfold maxLen at hcm
 obtain ⟨⟨cur, hcur, hcs, hct⟩, -, -, hpl⟩ := id hR
 have hov : ∀ o lb cb, (callFunc 73 #[.slice (some ⟨vb, 0, none⟩) 1 1, .slice (some ⟨g, o, none⟩) lb cb]).run Tryd.prog w = .ok (.value (.bool false)) w := fun o lb cb => ent_over w g vb o lb cb (cap * 2) x cur hvb hv hcur hcs (by omega)
 obtain ⟨n, hnn⟩ : ∃ n, xs.length = n := ⟨_, rfl⟩
 have hdl : (cellsE (xs.drop i)).length = (n - i) * 2 := by rw [cellsE_len, List.length_drop, hnn]
 obtain ⟨C1, hC1⟩ : ∃ C1, C1 = cur.toList.take ((i + 1) * 2) ++ cellsE (xs.drop i) ++ cur.toList.drop ((i + 1) * 2 + (cellsE (xs.drop i)).length) := ⟨_, rfl⟩
 obtain ⟨C2, hC2⟩ : ∃ C2, C2 = C1.take (i * 2) ++ cellsE [x] ++ C1.drop (i * 2 + (cellsE [x]).length) := ⟨_, rfl⟩
 have hlen : (xs.length + 1) * 2 ≤ cur.toList.length := by
  have h1 : cur.toList.length = cap * 2 := by simpa using hcs
  omega
 obtain ⟨hl2, ht2⟩ := ins_cells hct hlen (Nat.le_of_lt hi) hC1 hC2
 have hl1 : C1.length = cur.size := by
  rw [hC1]
  simp only [List.length_append, List.length_take, List.length_drop, hdl, Array.length_toList, hcs]
  omega
 have hcp1 : ∀ ty dc sc, (Builtin.copy_ #[43, 43] ty #[.slice (some ⟨g, (i + 1) * 2, none⟩) (n - i) dc, .slice (some ⟨g, i * 2, none⟩) (n + 1 - i) sc]).run Tryd.prog w.drew = .ok (goInt (Nat.min (n + 1 - i) (n - i))) (w.drew.setRow g C1.toArray) := fun ty dc sc => by
  rw [hC1]
  exact run_copy_k 2 w.drew _ _ ty 77 g ((i + 1) * 2) (n - i) dc ⟨g, i * 2, none⟩ (n + 1 - i) sc cur 77 (cellsE (xs.drop i)) Tryd.underlying43 hsz hcur (by rw [hdl]; simp only [Nat.min_def]; split <;> omega)
   (fun j v hj => by
    rw [plain_add]
    refine hR.cells (i * 2 + j) v ?_
    rw [← cellsE_drop, List.getElem?_drop] at hj
    exact hj)
   (by rw [hdl]; omega) (cellsE_one _)
 have hW1 : (w.drew.setRow g C1.toArray).heap[g]? = some (.cells C1.toArray 77 (0, 0)) := setRow_heap w.drew g cur _ _ _ hcur
 have hcp2 : ∀ (W : World), W.heap = (w.drew.setRow g C1.toArray).heap → ∀ ty dc, (Builtin.copy_ #[43, 43] ty #[.slice (some ⟨g, i * 2, none⟩) (n + 1 - i) dc, .slice (some ⟨vb, 0, none⟩) 1 1]).run Tryd.prog W = .ok (goInt (Nat.min 1 (n + 1 - i))) (W.setRow g C2.toArray) := fun W hW ty dc => by
  have h := run_copy_k (P := Tryd.prog) 2 W _ 43 ty 77 g (i * 2) (n + 1 - i) dc ⟨vb, 0, none⟩ 1 1 C1.toArray 77 (cellsE [x]) Tryd.underlying43 hsz (by rw [hW]; exact hW1) (by rw [cellsE_len]; simp only [Nat.min_def]; split <;> simp <;> omega)
   (fun j v hj => by
    rw [plain_add, Nat.zero_add]
    have hb : W.heap[vb]? = w.heap[vb]? := by rw [hW, setRow_other _ _ _ _ hvb]; rfl
    exact (World.cell?_of_block (a := ⟨vb, j, none⟩) hb).trans (hv.cells j v hj))
   (by rw [cellsE_len]; simp [hl1, hcs]; omega) (cellsE_one _)
  rw [h, hC2]
 have HFin : Hid (∀ w', w'.heap = ((w.drew.setRow g C1.toArray).setRow g C2.toArray).heap → w'.os = w.os → w'.tape = w.tape → w'.output = w.output → RowE w' g cap (xs.take i ++ x :: xs.drop i) ∧ w.grownBy w' (some g)) := by
  intro w' hw' h1 h2 h3
  rw [setRow_setRow] at hw'
  have hg' : w.grownBy w' (some g) := ⟨h1, h2, h3, by rw [hw', setRow_size]; exact Nat.le_refl _, fun k hk hne => by rw [hw', setRow_other _ _ _ _ fun e => hne (by rw [e])]; rfl⟩
  refine ⟨⟨⟨C2.toArray, by rw [hw']; exact setRow_heap w.drew g cur _ _ _ hcur, by rw [List.size_toArray, hl2, Array.length_toList, hcs], ht2⟩, by simp; omega, hR.2.2.1, fun y hy => ?_⟩, hg'⟩
  refine PlTy.grown ?_ hcur hg'
  rcases List.mem_append.1 hy with hy | hy
  ·exact hpl y (List.mem_of_mem_take hy)
  ·rcases List.mem_cons.1 hy with rfl | hy
   ·exact hx
   ·exact hpl y (List.mem_of_mem_drop hy)
 unfold Inserted
 rw [hnn] at hn hi hroom ⊢
 have hn' : (n : Int) ≤ 3000 := by omega
 have hi' : (i : Int) < (n : Int) := by omega
 have hr' : (n : Int) + 1 ≤ (cap : Int) := by omega
 have hz2 : ¬ ((i : Int) = (n : Int)) := by omega
 have hb2 : ¬ (cap = i + 1) := by omega
 have hb4 : ¬ (cap = i) := by omega
 have hw1 : IntKind.i64.wrap ((i : Int) + 1) = (i : Int) + 1 := by rw [IntKind.wrap_i64]; omega
 have hb1 : (0 : Int) ≤ (i : Int) + 1 := by omega
 have htn : ((i : Int) + 1).toNat = i + 1 := by omega
 have hin : i ≤ n := by omega
 have hb3 : (i : Int) ≤ (n : Int) + 1 := by omega
 clear hcm hpl hnn hl1 hl2 ht2 hC1 hC2 hlen hdl hW1 hcur hcs hct hR hx hv
 go_enter Tryd.func57, Tryd.ntmps57
 go_wp2_with (simp only [hov])
 go_region_law (refine step_copy_runI rfl _ _ 43 43 rfl _ _ (by simp [Act.eval, Act.put]) (by simp [Act.eval, Act.put]) (hcp1 _ _ _) ?_)
 go_wp2_with (at_builtin; refine wpList_copy_runI _ rfl _ _ 43 43 rfl _ _ rfl rfl (hcp2 _ rfl _ _) ?_)
 go_ret
 obtain ⟨h1, h2⟩ := HFin.out _ rfl rfl rfl rfl
 exact ⟨g, cap, rfl, h1, Nat.le_refl _, h2⟩
end Go.Proofs.YtfngmnhkhfgmjacDoor
