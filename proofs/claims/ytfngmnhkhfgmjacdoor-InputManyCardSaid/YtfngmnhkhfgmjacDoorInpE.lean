/-
  What is written at a place: what Get of package input answers, called in whatever memory.
-/
import Derived.Test.YtfngmnhkhfgmjacDoorInpD
import Derived.Test.YtfngmnhkhfgmjacDoorCells1
namespace Go.Proofs.YtfngmnhkhfgmjacDoor
open Go.ChangeShapes Go.WideShapes Go.ChangeAt Go.RowKit
set_option maxRecDepth 20000

/-- what is wrong, asked for a place of entries -/
def getErr (D : Nat → Dm) (n : Nat) (l : List En) (p : List Int) : Int := if entsErr D n l ≠ 0 then entsErr D n l else placeErr D n p
def getV (D : Nat → Dm) (n : Nat) (l : List En) (p : List Int) : Int × Int := if getErr D n l p = 0 then getE l p else (0, 0)
theorem getErr_bad {D : Nat → Dm} {n : Nat} {l : List En} (p : List Int) (h : entsErr D n l ≠ 0) : getErr D n l p = entsErr D n l := by unfold getErr; rw [if_pos h]
theorem getErr_in {D : Nat → Dm} {n : Nat} {l : List En} (p : List Int) (h : entsErr D n l = 0) : getErr D n l p = placeErr D n p := by unfold getErr; rw [if_neg (by simpa using h)]
theorem getV_bad {D : Nat → Dm} {n : Nat} {l : List En} {p : List Int} (h : getErr D n l p ≠ 0) : getV D n l p = (0, 0) := by unfold getV; rw [if_neg h]
theorem getV_in {D : Nat → Dm} {n : Nat} {l : List En} {p : List Int} (h : getErr D n l p = 0) : getV D n l p = getE l p := by unfold getV; rw [if_pos h]
theorem short_of {D : Nat → Dm} {n : Nat} {xs : List EnL} {p : List Int} (hE : Ens D n (lE xs)) (hp : InO D n p) : Short xs p := by
  refine ⟨fun k hk => ?_, inO_short hp⟩
  have h1 : (xs.getD k noL).e ∈ lE xs := List.mem_map.2 ⟨_, enl_mem hk, rfl⟩
  exact inO_short (hE.each _ h1).1
theorem few_of {D : Nat → Dm} {n : Nat} {xs : List EnL} (hE : Ens D n (lE xs)) : xs.length ≤ 3000 := by have := hE.few; rw [lE_len] at this; exact this
theorem num_at {D : Nat → Dm} {n : Nat} {xs : List EnL} (hE : Ens D n (lE xs)) {k : Nat} (hk : k < xs.length) : -1000000 ≤ (xs.getD k noL).e.n ∧ (xs.getD k noL).e.n ≤ 1000000 := by
  have h1 : (xs.getD k noL).e ∈ lE xs := List.mem_map.2 ⟨_, enl_mem hk, rfl⟩
  have h2 := (hE.each _ h1).2.2
  simpa [numOk] using h2

/-- a world with an outline's block, and one for a cell -/
def ownOC (w : World) (A0 : Option Addr) (n cap : Nat) : World := (ownOut w A0 n cap 24).alloc (.cells #[.int .i64 0, .int .i64 0] 49)
theorem ownOC_size (w : World) (A0 : Option Addr) (n cap : Nat) : (ownOC w A0 n cap).heap.size = w.heap.size + 2 := by unfold ownOC; simp [ownOut_size]
theorem ownOC_below (w : World) (A0 : Option Addr) (n cap : Nat) : Below w.heap.size w (ownOC w A0 n cap) := by unfold ownOC ownOut; go_grown
theorem ownOC_o (w : World) (A0 : Option Addr) (n cap : Nat) : (ownOC w A0 n cap).cell? ⟨w.heap.size, 0, none⟩ = some (.slice A0 n cap) := by
  unfold ownOC
  rw [World.cell?_alloc_lt _ _ ⟨w.heap.size, 0, none⟩ (by simp [ownOut_size])]
  exact ownOut_at ..
theorem ownOC_b (w : World) (A0 : Option Addr) (n cap : Nat) : (ownOC w A0 n cap).heap[w.heap.size + 1]? = some (.cells #[.int .i64 0, .int .i64 0] 49) := by
  have h := heap_alloc_new (ownOut w A0 n cap 24) (.cells #[.int .i64 0, .int .i64 0] 49)
  rw [ownOut_size] at h
  exact h

set_option maxHeartbeats 4000000 in
theorem iget_any (A0 : Option Addr) (cap n : Nat) (D : Nat → Dm) (A : Nat → Option Addr) (C : Nat → Nat) (AE : Option Addr) (ce : Nat) (xs : List EnL) (Ap : Option Addr) (cp : Nat) (p : List Int) (w : World) (hM : DimsV w A0 cap n D A C) (hE : EnsV w AE ce xs) (hP : PlAt w Ap cp p) :
    Calls Tryd.prog 18 #[.agg #[.slice A0 n cap], .slice AE xs.length ce, .slice Ap p.length cp] w fun r w' => r = .returned (.tuple #[.agg #[.int .i64 (getV D n (lE xs) p).1, .int .i64 (getV D n (lE xs) p).2], errV (getErr D n (lE xs) p)]) ∧ Below w.heap.size w w' := by
  have hB0 := ownOC_below w A0 n cap
  have h := icheck_any A0 cap n D A C AE ce xs (ownOC w A0 n cap) (hM.later hB0) (hE.later hB0)
  have HB0 : Hid (Below w.heap.size w (ownOC w A0 n cap)) := hB0
  have HM : Hid (DimsV w A0 cap n D A C) := hM
  have HE : Hid (EnsV w AE ce xs) := hE
  have HP : Hid (PlAt w Ap cp p) := hP
  obtain ⟨N, hN⟩ : ∃ N, xs.length = N := ⟨_, rfl⟩
  obtain ⟨np, hnp⟩ : ∃ np, p.length = np := ⟨_, rfl⟩
  have HN : Hid (xs.length = N) := hN
  have HNP : Hid (p.length = np) := hnp
  rw [hN] at h ⊢
  rw [hnp]
  have hcap := hE.1
  rw [hN] at hcap
  clear hM hE hP hB0 hN hnp
  by_cases he : entsErr D n (lE xs) = 0
  · have hEs := ens_of he
    have HEs : Hid (Ens D n (lE xs)) := hEs
    have hfew := few_of hEs
    rw [HN.out] at hfew
    rw [he, errV_zero] at h
    have hge := getErr_in p he
    clear he hEs
    by_cases hp : placeErr D n p = 0
    · have hpI := inO_of hp
      have HPI : Hid (InO D n p) := hpI
      have HV0 : Hid (errV (getErr D n (lE xs) p) = .nilIface) := by show _ = _; rw [hge, hp]; rfl
      have hgv := getV_in (hge.trans hp)
      by_cases hh : hasE (lE xs) p = true
      · have HH : Hid (hasE (lE xs) p = true) := hh
        have hi : cntE (lE xs) p < N := by
          rcases Nat.lt_or_ge (cntE (lE xs) p) N with h1 | h1
          · exact h1
          · rw [(has_out rfl (by rw [lE_len, HN.out]; exact h1)).1] at hh; cases hh
        have hx := has_in (l := lE xs) (p := p) rfl (by rw [lE_len, HN.out]; exact hi)
        have HV1 : Hid (getV D n (lE xs) p = (1, (xs.getD (cntE (lE xs) p) noL).e.n)) := by
          show _ = _
          rw [hgv, hx.2]
          rw [hx.1] at hh
          rw [if_neg (by simpa using hh), lE_at]
        have hnum := num_at HEs.out (k := cntE (lE xs) p) (by rw [HN.out]; exact hi)
        have HCE : Hid (∀ w', Below w.heap.size w w' → Calls Tryd.prog 37 #[.agg #[.slice A0 n cap], .slice Ap np cp] w' fun e w'' => e = .returned .nilIface ∧ Below w'.heap.size w' w'') := fun w' hw' => by
          have h1 := pcheck_any A0 cap n D A C Ap cp p w' (HM.out.later hw') (HP.out.later hw')
          rw [hp, errV_zero, HNP.out] at h1
          exact h1
        have HFD : Hid (∀ w', Below w.heap.size w w' → Calls Tryd.prog 38 #[.slice AE N ce, .slice Ap np cp] w' fun e w'' => e = .returned (.tuple #[.int .i64 (cntE (lE xs) p : Nat), .bool true]) ∧ Below w'.heap.size w' w'') := fun w' hw' => by
          have h1 := ifind_any AE ce xs Ap cp p w' (by rw [HN.out]; exact hfew) (HE.out.later hw') HEs.out.rise (short_of HEs.out HPI.out) (HP.out.later hw')
          rw [HH.out, HN.out, HNP.out] at h1
          exact h1
        clear hp hpI hge hgv hh hx
        generalize cntE (lE xs) p = i at hi HV1 HFD hnum
        generalize hgn : (xs.getD i noL).e.n = num at HV1 hnum
        have HGN : Hid ((xs.getD i noL).e.n = num) := hgn
        have hof := fun w' => of_any num w'
        obtain ⟨hn1, hn2⟩ := hnum
        have hofp : ofP num = (1, num) := ofP_in (by omega) (by omega)
        rw [hofp] at hof
        clear hgn hofp
        have hi' : (i : Int) < (N : Int) := by omega
        go_enter Tryd.func18, Tryd.ntmps18
        go_wp2_with fail
        refine h.mono ?_
        rintro e w1 ⟨rfl, hb1⟩
        have hB1 : Below w.heap.size w w1 := onB HB0.out hb1
        have h2 := HCE.out w1 hB1
        have c1 : w1.cell? ⟨w.heap.size, 0, none⟩ = some (.slice A0 n cap) := (hb1.cell (p := ⟨w.heap.size, 0, none⟩) (by show w.heap.size < _; rw [ownOC_size]; omega)).trans (ownOC_o ..)
        have k1 : w1.heap[w.heap.size + 1]? = some (.cells #[.int .i64 0, .int .i64 0] 49) := (hb1.block (w.heap.size + 1) (by rw [ownOC_size]; omega)).trans (ownOC_b ..)
        have hz1 : w.heap.size + 1 < w1.heap.size := by have := hb1.size; rw [ownOC_size] at this; omega
        have HB1 : Hid (Below w.heap.size w w1) := hB1
        have HK1 : Hid (w1.heap[w.heap.size + 1]? = some (.cells #[.int .i64 0, .int .i64 0] 49)) := k1
        clear hb1 hB1 k1 h
        go_wp2_with fail
        refine h2.mono ?_
        rintro e w2 ⟨rfl, hb2⟩
        have hB2 : Below w.heap.size w w2 := onB HB1.out hb2
        have h3 := HFD.out w2 hB2
        have HB2 : Hid (Below w.heap.size w w2) := hB2
        have HK2 : Hid (w2.heap[w.heap.size + 1]? = some (.cells #[.int .i64 0, .int .i64 0] 49)) := (hb2.block _ hz1).trans HK1.out
        have hz2 : w.heap.size + 1 < w2.heap.size := Nat.lt_of_lt_of_le hz1 hb2.size
        clear hb2 hB2 h2 HK1 HB1 c1
        go_wp2_with fail
        refine h3.mono ?_
        rintro e w3 ⟨rfl, hb3⟩
        have hB3 : Below w.heap.size w w3 := onB HB2.out hb3
        have HB3 : Hid (Below w.heap.size w w3) := hB3
        have HK3 : Hid (w3.heap[w.heap.size + 1]? = some (.cells #[.int .i64 0, .int .i64 0] 49)) := (hb3.block _ hz2).trans HK2.out
        have hz3 : w.heap.size + 1 < w3.heap.size := Nat.lt_of_lt_of_le hz2 hb3.size
        obtain ⟨-, -, h0 | ⟨b, o, rfl, hA⟩⟩ := HE.out.later hB3
        · have := HN.out; rw [h0] at this; simp at this; omega
        have c3 := (hA.at (k := i) (by rw [HN.out]; exact hi)).2
        rw [HGN.out] at c3
        clear hb3 hB3 h3 HK2 HB2 hA
        go_wp2_with fail
        refine (hof _).mono ?_
        rintro e w4 ⟨rfl, hb4⟩
        have k4 : w4.heap[w.heap.size + 1]? = some (.cells #[.int .i64 0, .int .i64 0] 49) := (hb4.block _ hz3).trans HK3.out
        have d0 : w4.cell? ⟨w.heap.size + 1, 0, none⟩ = some (.int .i64 0) := by rw [Lib.cell_of_heap k4]; rfl
        have d1 : w4.cell? ⟨w.heap.size + 1, 1, none⟩ = some (.int .i64 0) := by rw [Lib.cell_of_heap k4]; rfl
        have f0 : w4.frozen? ⟨w.heap.size + 1, 0, none⟩ = false := Lib.frozen_of_heap k4 0
        have f1 : w4.frozen? ⟨w.heap.size + 1, 1, none⟩ = false := Lib.frozen_of_heap k4 1
        have HB4 : Hid (Below w.heap.size w w4) := onB HB3.out hb4
        clear hb4 k4 c3
        go_wp2_with fail
        refine bodyPost_ret (v := .tuple #[.agg #[.int .i64 1, .int .i64 num], .nilIface]) (by simp [results, Tryd.results18, go_sem, d0, d1]) rfl ⟨by rw [HV1.out, HV0.out], ?_⟩
        exact (HB4.out.setCell (by show w.heap.size ≤ w.heap.size + 1; omega) _).setCell (by show w.heap.size ≤ w.heap.size + 1; omega) _
      · have hh' : hasE (lE xs) p = false := by simpa using hh
        have HH : Hid (hasE (lE xs) p = false) := hh'
        have HV1 : Hid (getV D n (lE xs) p = (0, 0)) := by
          show _ = _
          rw [hgv]
          rcases Nat.lt_or_ge (cntE (lE xs) p) (lE xs).length with h1 | h1
          · have hx := has_in (l := lE xs) (p := p) rfl h1
            rw [hx.1] at hh'
            rw [hx.2, if_pos (by simpa using hh')]
          · exact (has_out rfl h1).2
        have HCE : Hid (∀ w', Below w.heap.size w w' → Calls Tryd.prog 37 #[.agg #[.slice A0 n cap], .slice Ap np cp] w' fun e w'' => e = .returned .nilIface ∧ Below w'.heap.size w' w'') := fun w' hw' => by
          have h1 := pcheck_any A0 cap n D A C Ap cp p w' (HM.out.later hw') (HP.out.later hw')
          rw [hp, errV_zero, HNP.out] at h1
          exact h1
        have HFD : Hid (∀ w', Below w.heap.size w w' → Calls Tryd.prog 38 #[.slice AE N ce, .slice Ap np cp] w' fun e w'' => e = .returned (.tuple #[.int .i64 (cntE (lE xs) p : Nat), .bool false]) ∧ Below w'.heap.size w' w'') := fun w' hw' => by
          have h1 := ifind_any AE ce xs Ap cp p w' (by rw [HN.out]; exact hfew) (HE.out.later hw') HEs.out.rise (short_of HEs.out HPI.out) (HP.out.later hw')
          rw [HH.out, HN.out, HNP.out] at h1
          exact h1
        clear hp hpI hge hgv hh hh'
        generalize cntE (lE xs) p = i at HFD
        go_enter Tryd.func18, Tryd.ntmps18
        go_wp2_with fail
        refine h.mono ?_
        rintro e w1 ⟨rfl, hb1⟩
        have hB1 : Below w.heap.size w w1 := onB HB0.out hb1
        have h2 := HCE.out w1 hB1
        have c1 : w1.cell? ⟨w.heap.size, 0, none⟩ = some (.slice A0 n cap) := (hb1.cell (p := ⟨w.heap.size, 0, none⟩) (by show w.heap.size < _; rw [ownOC_size]; omega)).trans (ownOC_o ..)
        have k1 : w1.heap[w.heap.size + 1]? = some (.cells #[.int .i64 0, .int .i64 0] 49) := (hb1.block (w.heap.size + 1) (by rw [ownOC_size]; omega)).trans (ownOC_b ..)
        have hz1 : w.heap.size + 1 < w1.heap.size := by have := hb1.size; rw [ownOC_size] at this; omega
        have HB1 : Hid (Below w.heap.size w w1) := hB1
        have HK1 : Hid (w1.heap[w.heap.size + 1]? = some (.cells #[.int .i64 0, .int .i64 0] 49)) := k1
        clear hb1 hB1 k1 h
        go_wp2_with fail
        refine h2.mono ?_
        rintro e w2 ⟨rfl, hb2⟩
        have hB2 : Below w.heap.size w w2 := onB HB1.out hb2
        have h3 := HFD.out w2 hB2
        have HB2 : Hid (Below w.heap.size w w2) := hB2
        have HK2 : Hid (w2.heap[w.heap.size + 1]? = some (.cells #[.int .i64 0, .int .i64 0] 49)) := (hb2.block _ hz1).trans HK1.out
        have hz2 : w.heap.size + 1 < w2.heap.size := Nat.lt_of_lt_of_le hz1 hb2.size
        clear hb2 hB2 h2 HK1 HB1 c1
        go_wp2_with fail
        refine h3.mono ?_
        rintro e w3 ⟨rfl, hb3⟩
        have HB3 : Hid (Below w.heap.size w w3) := onB HB2.out hb3
        have HK3 : Hid (w3.heap[w.heap.size + 1]? = some (.cells #[.int .i64 0, .int .i64 0] 49)) := (hb3.block _ hz2).trans HK2.out
        clear hb3 h3 HK2 HB2
        have d0 : w3.cell? ⟨w.heap.size + 1, 0, none⟩ = some (.int .i64 0) := by rw [Lib.cell_of_heap HK3.out]; rfl
        have d1 : w3.cell? ⟨w.heap.size + 1, 1, none⟩ = some (.int .i64 0) := by rw [Lib.cell_of_heap HK3.out]; rfl
        have f0 : w3.frozen? ⟨w.heap.size + 1, 0, none⟩ = false := Lib.frozen_of_heap HK3.out 0
        have f1 : w3.frozen? ⟨w.heap.size + 1, 1, none⟩ = false := Lib.frozen_of_heap HK3.out 1
        go_wp2_with fail
        refine bodyPost_ret (v := .tuple #[.agg #[.int .i64 0, .int .i64 0], .nilIface]) (by simp [results, Tryd.results18, go_sem, d0, d1]) rfl ⟨by rw [HV1.out, HV0.out], ?_⟩
        exact (HB3.out.setCell (by show w.heap.size ≤ w.heap.size + 1; omega) _).setCell (by show w.heap.size ≤ w.heap.size + 1; omega) _
    · have hge2 : getErr D n (lE xs) p ≠ 0 := by rw [hge]; exact hp
      have HV1 : Hid (getV D n (lE xs) p = (0, 0)) := getV_bad hge2
      have HV0 : Hid (errV (getErr D n (lE xs) p) = .iface 69 (.int .i64 (placeErr D n p))) := by show _ = _; rw [hge, errV_some hp]
      have HCE : Hid (∀ w', Below w.heap.size w w' → Calls Tryd.prog 37 #[.agg #[.slice A0 n cap], .slice Ap np cp] w' fun e w'' => e = .returned (.iface 69 (.int .i64 (placeErr D n p))) ∧ Below w'.heap.size w' w'') := fun w' hw' => by
        have h1 := pcheck_any A0 cap n D A C Ap cp p w' (HM.out.later hw') (HP.out.later hw')
        rw [errV_some hp, HNP.out] at h1
        exact h1
      clear hge hge2
      generalize placeErr D n p = E at HV0 HCE hp
      clear hp
      go_enter Tryd.func18, Tryd.ntmps18
      go_wp2_with fail
      refine h.mono ?_
      rintro e w1 ⟨rfl, hb1⟩
      have hB1 : Below w.heap.size w w1 := onB HB0.out hb1
      have h2 := HCE.out w1 hB1
      have c1 : w1.cell? ⟨w.heap.size, 0, none⟩ = some (.slice A0 n cap) := (hb1.cell (p := ⟨w.heap.size, 0, none⟩) (by show w.heap.size < _; rw [ownOC_size]; omega)).trans (ownOC_o ..)
      have k1 : w1.heap[w.heap.size + 1]? = some (.cells #[.int .i64 0, .int .i64 0] 49) := (hb1.block (w.heap.size + 1) (by rw [ownOC_size]; omega)).trans (ownOC_b ..)
      have hz1 : w.heap.size + 1 < w1.heap.size := by have := hb1.size; rw [ownOC_size] at this; omega
      have HB1 : Hid (Below w.heap.size w w1) := hB1
      have HK1 : Hid (w1.heap[w.heap.size + 1]? = some (.cells #[.int .i64 0, .int .i64 0] 49)) := k1
      clear hb1 hB1 k1 h
      go_wp2_with fail
      refine h2.mono ?_
      rintro e w2 ⟨rfl, hb2⟩
      have hB2 : Below w.heap.size w w2 := onB HB1.out hb2
      have HB2 : Hid (Below w.heap.size w w2) := hB2
      have HK2 : Hid (w2.heap[w.heap.size + 1]? = some (.cells #[.int .i64 0, .int .i64 0] 49)) := (hb2.block _ hz1).trans HK1.out
      have hz2 : w.heap.size + 1 < w2.heap.size := Nat.lt_of_lt_of_le hz1 hb2.size
      clear hb2 hB2 h2 HK1 HB1 c1
      have d0 : w2.cell? ⟨w.heap.size + 1, 0, none⟩ = some (.int .i64 0) := by rw [Lib.cell_of_heap HK2.out]; rfl
      have d1 : w2.cell? ⟨w.heap.size + 1, 1, none⟩ = some (.int .i64 0) := by rw [Lib.cell_of_heap HK2.out]; rfl
      have f0 : w2.frozen? ⟨w.heap.size + 1, 0, none⟩ = false := Lib.frozen_of_heap HK2.out 0
      have f1 : w2.frozen? ⟨w.heap.size + 1, 1, none⟩ = false := Lib.frozen_of_heap HK2.out 1
      go_wp2_with fail
      refine bodyPost_ret (v := .tuple #[.agg #[.int .i64 0, .int .i64 0], .iface 69 (.int .i64 E)]) (by simp [results, Tryd.results18, go_sem, d0, d1]) rfl ⟨by rw [HV1.out, HV0.out], ?_⟩
      exact (HB2.out.setCell (by show w.heap.size ≤ w.heap.size + 1; omega) _).setCell (by show w.heap.size ≤ w.heap.size + 1; omega) _
  · have hge := getErr_bad p he
    have HV1 : Hid (getV D n (lE xs) p = (0, 0)) := getV_bad (by rw [hge]; exact he)
    have HV0 : Hid (errV (getErr D n (lE xs) p) = .iface 69 (.int .i64 (entsErr D n (lE xs)))) := by show _ = _; rw [hge, errV_some he]
    rw [errV_some he] at h
    clear hge
    generalize entsErr D n (lE xs) = E at h HV0 he
    clear he
    go_enter Tryd.func18, Tryd.ntmps18
    go_wp2_with fail
    refine h.mono ?_
    rintro e w1 ⟨rfl, hb1⟩
    have hB1 : Below w.heap.size w w1 := onB HB0.out hb1
    have c1 : w1.cell? ⟨w.heap.size, 0, none⟩ = some (.slice A0 n cap) := (hb1.cell (p := ⟨w.heap.size, 0, none⟩) (by show w.heap.size < _; rw [ownOC_size]; omega)).trans (ownOC_o ..)
    have k1 : w1.heap[w.heap.size + 1]? = some (.cells #[.int .i64 0, .int .i64 0] 49) := (hb1.block (w.heap.size + 1) (by rw [ownOC_size]; omega)).trans (ownOC_b ..)
    have hz1 : w.heap.size + 1 < w1.heap.size := by have := hb1.size; rw [ownOC_size] at this; omega
    have HB1 : Hid (Below w.heap.size w w1) := hB1
    have HK1 : Hid (w1.heap[w.heap.size + 1]? = some (.cells #[.int .i64 0, .int .i64 0] 49)) := k1
    clear hb1 hB1 k1 h
    have d0 : w1.cell? ⟨w.heap.size + 1, 0, none⟩ = some (.int .i64 0) := by rw [Lib.cell_of_heap HK1.out]; rfl
    have d1 : w1.cell? ⟨w.heap.size + 1, 1, none⟩ = some (.int .i64 0) := by rw [Lib.cell_of_heap HK1.out]; rfl
    have f0 : w1.frozen? ⟨w.heap.size + 1, 0, none⟩ = false := Lib.frozen_of_heap HK1.out 0
    have f1 : w1.frozen? ⟨w.heap.size + 1, 1, none⟩ = false := Lib.frozen_of_heap HK1.out 1
    go_wp2_with fail
    refine bodyPost_ret (v := .tuple #[.agg #[.int .i64 0, .int .i64 0], .iface 69 (.int .i64 E)]) (by simp [results, Tryd.results18, go_sem, d0, d1]) rfl ⟨by rw [HV1.out, HV0.out], ?_⟩
    exact (HB1.out.setCell (by show w.heap.size ≤ w.heap.size + 1; omega) _).setCell (by show w.heap.size ≤ w.heap.size + 1; omega) _
end Go.Proofs.YtfngmnhkhfgmjacDoor
