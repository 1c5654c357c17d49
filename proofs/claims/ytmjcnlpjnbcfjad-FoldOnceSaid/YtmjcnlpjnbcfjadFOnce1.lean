/-
  The walk of tallylaw4.FoldOnce: a dim that is folded once more changes nothing.
-/
import Derived.Test.YtmjcnlpjnbcfjadFold6
import Derived.Test.YtmjcnlpjnbcfjadFold8
import Derived.Test.YtmjcnlpjnbcfjadFlat4
namespace Go.Proofs.Ytmjcnlpjnbcfjad
open Go.ChangeShapes Go.WideShapes Go.ChangeAt Go.RowKit
set_option maxRecDepth 20000

/-- a world with a place of two in a block, and an entry of it in the next one -/
def litW (w : World) (a b i : Int) : World := (w.alloc (.cells #[.int .i64 a, .int .i64 b] 3)).alloc (.cells #[.slice (some ⟨w.heap.size, 0, none⟩) 2 2, .int .i64 i] 40)
theorem litW_below (w : World) (a b i : Int) : Below w.heap.size w (litW w a b i) := by unfold litW; go_grown
theorem litW_ens (w : World) (a b i : Int) : EnsV (litW w a b i) (some ⟨w.heap.size + 1, 0, none⟩) 1 [⟨⟨[a, b], i⟩, some ⟨w.heap.size, 0, none⟩, 2⟩] := by
  have h0 : (litW w a b i).heap[w.heap.size]? = some (.cells #[.int .i64 a, .int .i64 b] 3 (0, 0)) := top0 ..
  have h1 : (litW w a b i).heap[w.heap.size + 1]? = some (.cells #[.slice (some ⟨w.heap.size, 0, none⟩) 2 2, .int .i64 i] 40 (0, 0)) := top1 ..
  refine ⟨by simp, by decide, Or.inr ⟨_, 0, rfl, (Array.getElem?_eq_some_iff.1 h1).1, fun j u hj => ?_, fun x hx => ?_⟩⟩
  · rw [Lib.cell_of_heap h1, Nat.zero_add]
    simpa [cellsE] using hj
  · rw [List.mem_singleton.1 hx]
    refine ⟨by simp, Or.inr ⟨_, 0, rfl, (Array.getElem?_eq_some_iff.1 h0).1, fun j hj => ?_⟩⟩
    rw [Lib.cell_of_heap h0]
    match j, hj with
    | 0, _ => rfl
    | 1, _ => rfl
theorem lit_ents : entsErr (squareD 1) 2 [⟨[1, 1], 7⟩] = 0 := by decide +kernel
theorem lit_wr : wrV (squareD 1) 2 [⟨[1, 1], 7⟩] = [(0, 0), (0, 0), (0, 0), (1, 7)] := by decide +kernel
theorem keepO {W w' : World} {q b o : Nat} {u v0 v1 : Value} (h : (q < W.heap.size ∧ b < W.heap.size) ∧ W.cell? ⟨q, 0, none⟩ = some u ∧ W.cell? ⟨b, o, none⟩ = some v0 ∧ W.cell? ⟨b, o + 1, none⟩ = some v1) (hB : Below W.heap.size W w') : Below W.heap.size W w' ∧ w'.cell? ⟨b, o, none⟩ = some v0 ∧ w'.cell? ⟨b, o + 1, none⟩ = some v1 := by
  obtain ⟨⟨h1, h2⟩, c0, c1, c2⟩ := h
  exact ⟨hB, (hB.cell (p := ⟨b, o, none⟩) h2).trans c1, (hB.cell (p := ⟨b, o + 1, none⟩) h2).trans c2⟩

set_option maxHeartbeats 16000000 in
theorem fonce_law (A0 : Option Addr) (cap n : Nat) (D : Nat → Dm) (A : Nat → Option Addr) (C : Nat → Nat) (AE : Option Addr) (ce : Nat) (xs : List EnL) (dim : Int) (w : World) (hM : DimsV w A0 cap n D A C) (hE : EnsV w AE ce xs) :
    Calls Try.prog 6 #[.agg #[.slice A0 n cap], .slice AE xs.length ce, .int .i64 dim] w fun e w' => e = .returned (.bool true) ∧ Below w.heap.size w w' := by
  have hB0 := ownOut_below w A0 n cap 24
  have HB0 : Hid (Below w.heap.size w (ownOut w A0 n cap 24)) := hB0
  have HM : Hid (DimsV w A0 cap n D A C) := hM
  have HE : Hid (EnsV w AE ce xs) := hE
  have HBo : Hid (w.heap.size < (ownOut w A0 n cap 24).heap.size ∧ (ownOut w A0 n cap 24).cell? ⟨w.heap.size, 0, none⟩ = some (.slice A0 n cap)) := ⟨by rw [ownOut_size]; omega, ownOut_at ..⟩
  have hsq := square_any 1 (ownOut w A0 n cap 24) (by decide)
  have hof := fun w' => of_any 7 w'
  rw [show ofP 7 = (1, 7) from rfl] at hof
  have HOF : Hid (∀ w', Calls Try.prog 11 #[.int .i64 7] w' fun e w'' => e = .returned (.agg #[.int .i64 1, .int .i64 7]) ∧ Below w'.heap.size w' w'') := hof
  have HFC : Hid (∀ w', Below w.heap.size w w' → _) := fun w' hw' => fcells_any A0 cap n D A C AE ce xs w' (HM.out.later hw') (HE.out.later hw')
  obtain ⟨NE, hNE⟩ : ∃ NE, xs.length = NE := ⟨_, rfl⟩
  rw [hNE] at HFC ⊢
  clear hM hE hB0 hof hNE
  go_enter Try.func6, Try.ntmps6
  go_wp2_with fail
  refine hsq.mono ?_
  rintro e w1 ⟨⟨AS, SA, SC, rfl, hSD⟩, hb1⟩
  have HB1 : Hid (Below w.heap.size w w1) := onB HB0.out hb1
  have HBox : Hid (BoxN w1 w.heap.size (.slice A0 n cap)) := ⟨Nat.lt_of_lt_of_le HBo.out.1 hb1.size, (hb1.cell (p := ⟨w.heap.size, 0, none⟩) HBo.out.1).trans HBo.out.2⟩
  have hlw := litW_below w1 1 1 7
  have hfl := fcells_any AS 2 2 (squareD 1) SA SC (some ⟨w1.heap.size + 1, 0, none⟩) 1 [⟨⟨[1, 1], 7⟩, some ⟨w1.heap.size, 0, none⟩, 2⟩] (litW w1 1 1 7) (hSD.later hlw) (litW_ens w1 1 1 7)
  rw [show lE [⟨⟨[1, 1], 7⟩, some ⟨w1.heap.size, 0, none⟩, 2⟩] = [⟨[1, 1], 7⟩] from rfl, fc_ok lit_ents, lit_ents, lit_wr, errV_zero] at hfl
  simp only [List.length_cons, List.length_nil, Nat.zero_add] at hfl
  have HBl : Hid (Below w1.heap.size w1 (litW w1 1 1 7)) := hlw
  unfold litW at hfl
  clear hb1 hsq hSD hlw
  go_wp2_with fail
  refine hfl.mono ?_
  rintro e w2 ⟨⟨AF, cF, rfl, hCF⟩, hb2⟩
  have hB12 : Below w1.heap.size w1 w2 := onB HBl.out (by unfold litW; exact hb2)
  have HB2 : Hid (Below w.heap.size w w2) := onB HB1.out hB12
  have HBox2 : Hid (BoxN w2 w.heap.size (.slice A0 n cap)) := HBox.out.later hB12
  obtain ⟨hcF, -, h0 | ⟨bF, oF, rfl, hF⟩⟩ := hCF
  · cases h0
  obtain ⟨f1, f2⟩ := hF.2 3 (by decide)
  have HK : Hid ((w.heap.size < w2.heap.size ∧ bF < w2.heap.size) ∧ w2.cell? ⟨w.heap.size, 0, none⟩ = some (.slice A0 n cap) ∧ w2.cell? ⟨bF, oF + 6, none⟩ = some (.int .i64 1) ∧ w2.cell? ⟨bF, oF + 6 + 1, none⟩ = some (.int .i64 7)) := ⟨⟨HBox2.out.1, hF.1⟩, HBox2.out.2, f1, f2⟩
  have hcF4 : 4 ≤ cF := hcF
  clear hb2 hfl hB12 hF hcF f1 f2
  go_wp2_with fail
  go_cut [35] (fun s35 wx => s35 = .bool false ∧ Below w2.heap.size w2 wx)
  case first => as_aux_lemma =>
    go_region_held3 (fun w' => Below w2.heap.size w2 w' ∧ w'.cell? ⟨bF, oF + 6, none⟩ = some (.int .i64 1) ∧ w'.cell? ⟨bF, oF + 6 + 1, none⟩ = some (.int .i64 7))
      ((refine keepO HK.out ?_; go_grown; done))
      (first | (go_at_call 11; refine (HOF.out _).mono ?_; rintro e w3 ⟨rfl, hb3⟩; have hM3 := onB (W0 := w2) (by go_grown) hb3; have hy3 := hM3.size; clear hb3))
    all_goals go_wp2_with fail
    all_goals go_meet
    all_goals exact ⟨rfl, by go_grown⟩
  case rest => as_aux_lemma =>
  obtain ⟨rfl, hb⟩ := hcut
  obtain ⟨w3, rfl⟩ : ∃ w3 : World, w3 = wc := ⟨_, rfl⟩
  have HB3 : Hid (Below w.heap.size w w3) := onB HB2.out hb
  have HBox3 : Hid (BoxN w3 w.heap.size (.slice A0 n cap)) := HBox2.out.later hb
  have c3 := HBox3.out.2
  have hfc := HFC.out w3 HB3.out
  clear hb HK HFC HOF
  by_cases he : entsErr D n (lE xs) = 0
  · have hEs := ens_of he
    obtain ⟨hn1, hn4, hp3, hd⟩ := allErr_some hEs.right
    have hck : chkErr D n (wrV D n (lE xs)) = 0 := chk_ok hEs.right (wrV_len ..) (wrV_good hEs)
    have HR : Hid ((allErr D n).2.2 = 0) := hEs.right
    have HG : Hid (goodL (wrV D n (lE xs))) := wrV_good hEs
    rw [fc_ok he, he, errV_zero] at hfc
    obtain ⟨L, hL⟩ : ∃ L, wrV D n (lE xs) = L := ⟨_, rfl⟩
    have hLN : L.length = prodN D n := by rw [← hL]; exact wrV_len ..
    rw [hL] at hfc hck HG
    obtain ⟨PN, hPN⟩ : ∃ PN, L.length = PN := ⟨_, rfl⟩
    have HPN : Hid (L.length = PN) := hPN
    rw [hPN] at hfc
    have HLN : Hid (L.length = prodN D n) := hLN
    have hPN3 : PN ≤ 3000 := by omega
    have hn' : (n : Int) ≤ 4 := by omega
    have HCK : Hid (chkErr D n L = 0) := hck
    have HD : Hid (∀ j, j < n → 1 ≤ (D j).n ∧ (D j).n ≤ 12) := hd
    clear he hEs hd hL hLN hPN hck
    go_wp2_with fail
    refine hfc.mono ?_
    rintro e w4 ⟨⟨A4, c4, rfl, hC4⟩, hb4⟩
    have HB4 : Hid (Below w.heap.size w w4) := onB HB3.out hb4
    have HBox4 : Hid (BoxN w4 w.heap.size (.slice A0 n cap)) := HBox3.out.later hb4
    have x4 := HBox4.out.2
    have hfo := fonce_any A0 cap n D A C A4 c4 L dim w4 (HM.out.later HB4.out) hC4
    rw [HPN.out] at hfo
    clear hb4 hfc c3 hC4
    by_cases hdm : dim < 0 ∨ (n : Int) ≤ dim
    · obtain ⟨o1, o2⟩ := on1 HCK.out hdm
      rw [o1, o2] at hfo
      have e1 : errV 1 = .iface 77 (.int .i64 1) := errV_some (by decide)
      rw [e1] at hfo
      simp only [List.length_nil] at hfo
      by_cases hd0 : dim < 0
      · have hdd : decide (dim < 0) = true := decide_eq_true hd0
        clear hdm o1 o2 e1
        go_wp2_with fail
        refine hfo.mono ?_
        rintro e w5 ⟨⟨A5, c5, rfl, -⟩, hb5⟩
        have HB5 : Hid (Below w.heap.size w w5) := onB HB4.out hb5
        clear hb5 hfo
        go_wp2_with fail
        first | (go_quiet (fail); go_wp2_with fail) | skip
        go_ret
        exact ⟨rfl, by first | exact HB5.out | exact below_drewN HB5.out _⟩
      · have hdd : decide (dim < 0) = false := decide_eq_false hd0
        have hdn : decide ((n : Int) ≤ dim) = true := decide_eq_true (by omega)
        clear hdm o1 o2 e1
        go_wp2_with fail
        refine hfo.mono ?_
        rintro e w5 ⟨⟨A5, c5, rfl, -⟩, hb5⟩
        have HB5 : Hid (Below w.heap.size w w5) := onB HB4.out hb5
        have x5 := (HBox4.out.later hb5).2
        clear hb5 hfo
        go_wp2_with fail
        first | (go_quiet (fail); go_wp2_with fail) | skip
        go_ret
        exact ⟨rfl, by first | exact HB5.out | exact below_drewN HB5.out _⟩
    · obtain ⟨dm, rfl⟩ : ∃ dm : Nat, dim = dm := ⟨dim.toNat, by omega⟩
      have hdmn : dm < n := by omega
      obtain ⟨o1, o2⟩ := on2 HCK.out hdmn
      rw [o1, o2, errV_zero] at hfo
      have hdk := (allErr_right HR.out).2 dm hdmn
      have h2 := once_twice (fun i hi => (HD.out i hi).1) hdmn (Tr.of hdk) HLN.out
      obtain ⟨L1, hL1⟩ : ∃ L1, onceV D n dm L = L1 := ⟨_, rfl⟩
      have hl1 : L1.length = PN := by rw [← hL1]; unfold onceV; rw [once_len]; exact HPN.out
      have hg1 : goodL L1 := by rw [← hL1]; exact once_good HG.out _
      have hck1 : chkErr D n L1 = 0 := chk_ok HR.out (by rw [hl1, ← HPN.out]; exact HLN.out) hg1
      rw [hL1] at hfo h2
      rw [hl1] at hfo
      have HL1 : Hid (L1.length = PN) := hl1
      have HCK1 : Hid (chkErr D n L1 = 0) := hck1
      have H2 : Hid (onceV D n dm L1 = L1) := h2
      clear hdm o1 o2 hdk h2 hL1 hl1 hg1 hck1
      go_wp2_with fail
      refine hfo.mono ?_
      rintro e w5 ⟨⟨A5, c5, rfl, hC5⟩, hb5⟩
      have HB5 : Hid (Below w.heap.size w w5) := onB HB4.out hb5
      have HC5 : Hid (CelV w5 A5 c5 L1) := hC5
      have x5 := (HBox4.out.later hb5).2
      have hfp := fonce_any A0 cap n D A C A5 c5 L1 (dm : Int) w5 (HM.out.later HB5.out) hC5
      obtain ⟨o1, o2⟩ := on2 HCK1.out hdmn
      rw [o1, o2, errV_zero, H2.out, HL1.out] at hfp
      clear hb5 hfo hC5 x4 o1 o2
      go_wp2_with fail
      refine hfp.mono ?_
      rintro e w6 ⟨⟨A6, c6, rfl, hC6⟩, hb6⟩
      have HB6 : Hid (Below w.heap.size w w6) := onB HB5.out hb6
      have hsc := samecells_any A5 A6 c5 c6 L1 w6 (by rw [HL1.out]; exact hPN3) (HC5.out.later hb6) hC6
      rw [HL1.out] at hsc
      clear hb6 hfp hC6 x5
      go_wp2_with fail
      refine hsc.mono ?_
      rintro e w7 ⟨rfl, hb7⟩
      go_wp2_with fail
      go_ret
      exact ⟨rfl, onB HB6.out hb7⟩
  · rw [errV_some he, fc_bad he] at hfc
    simp only [List.length_nil] at hfc
    clear he
    generalize entsErr D n (lE xs) = ee at hfc
    go_wp2_with fail
    refine hfc.mono ?_
    rintro e w4 ⟨⟨A4, c4, rfl, -⟩, hb4⟩
    have HB4 : Hid (Below w.heap.size w w4) := onB HB3.out hb4
    clear hb4 hfc
    go_wp2_with fail
    go_ret
    exact ⟨rfl, HB4.out⟩
end Go.Proofs.Ytmjcnlpjnbcfjad
