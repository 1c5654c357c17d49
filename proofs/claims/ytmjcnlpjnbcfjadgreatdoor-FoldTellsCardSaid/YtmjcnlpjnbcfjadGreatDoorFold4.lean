/-
  One member of a dim, at each place: what foldMember of package fold does to cells of its caller's own.
-/
import Derived.Test.YtmjcnlpjnbcfjadGreatDoorFold3
import Derived.Test.YtmjcnlpjnbcfjadGreatDoorParts1
import Derived.BigQuiet
import Derived.Deep.QuietTactic
namespace Go.Proofs.YtmjcnlpjnbcfjadGreatDoor
open Go.ChangeShapes Go.WideShapes Go.ChangeAt Go.RowKit
set_option maxRecDepth 20000

/-- a dim in a box; a number in a box -/
def BoxD (w : World) (q : Nat) (d : Dm) (A : Option Addr) (c : Nat) : Prop := q < w.heap.size ∧ w.cell? ⟨q, 0, none⟩ = some (.string d.name) ∧ w.cell? ⟨q, 1, none⟩ = some (.int .i64 d.solve) ∧ w.cell? ⟨q, 2, none⟩ = some (.slice A d.n c)
def BoxN (w : World) (q : Nat) (v : Value) : Prop := q < w.heap.size ∧ w.cell? ⟨q, 0, none⟩ = some v
theorem top1 (w : World) (o o' : Obj) : ((w.alloc o).alloc o').heap[w.heap.size + 1]? = some o' := by
  have h := heap_alloc_new (w.alloc o) o'
  rw [show (w.alloc o).heap.size = w.heap.size + 1 by simp] at h
  exact h
theorem top0 (w : World) (o o' : Obj) : ((w.alloc o).alloc o').heap[w.heap.size]? = some o := by
  rw [Below.heap_alloc _ _ _ (by simp)]
  exact heap_alloc_new w o
theorem heap_drewn (w : World) (i : Nat) : w.drew.heap[i]? = w.heap[i]? := rfl
theorem new_after {w w' : World} (o : Obj) (hs : w'.heap.size = w.heap.size) : (w'.alloc o).heap[w.heap.size]? = some o := by
  rw [← hs]
  exact heap_alloc_new w' o
theorem set3_at {w : World} {q T : Nat} {x y z : Value} (a b c : Value) (h : w.heap[q]? = some (.cells #[x, y, z] T)) : (((w.setCell ⟨q, 0, none⟩ a).setCell ⟨q, 1, none⟩ b).setCell ⟨q, 2, none⟩ c).heap[q]? = some (.cells #[a, b, c] T) := by
  simp [World.setCell, Array.getElem?_modify, h]
theorem set1_at {w : World} {q T : Nat} {x : Value} (a : Value) (h : w.heap[q]? = some (.cells #[x] T)) : (w.setCell ⟨q, 0, none⟩ a).heap[q]? = some (.cells #[a] T) := by
  simp [World.setCell, Array.getElem?_modify, h]
theorem set3_off {w : World} {q p : Nat} (a b c : Value) (h : p ≠ q) : (((w.setCell ⟨q, 0, none⟩ a).setCell ⟨q, 1, none⟩ b).setCell ⟨q, 2, none⟩ c).heap[p]? = w.heap[p]? :=
  (Below.heap_setCell _ ⟨q, 2, none⟩ c p h).trans ((Below.heap_setCell _ ⟨q, 1, none⟩ b p h).trans (Below.heap_setCell _ ⟨q, 0, none⟩ a p h))
theorem BoxD.of {w : World} {q : Nat} {d : Dm} {A : Option Addr} {c T : Nat} {fr : Nat × Nat} (h : w.heap[q]? = some (.cells #[.string d.name, .int .i64 d.solve, .slice A d.n c] T fr)) : BoxD w q d A c :=
  ⟨(Array.getElem?_eq_some_iff.1 h).1, by simp [World.cell?, h], by simp [World.cell?, h], by simp [World.cell?, h]⟩
theorem BoxN.of {w : World} {q : Nat} {v : Value} {T : Nat} {fr : Nat × Nat} (h : w.heap[q]? = some (.cells #[v] T fr)) : BoxN w q v :=
  ⟨(Array.getElem?_eq_some_iff.1 h).1, by simp [World.cell?, h]⟩
theorem BoxD.same {w w' : World} {q : Nat} {d : Dm} {A : Option Addr} {c : Nat} (h : BoxD w q d A c) (hz : w.heap.size ≤ w'.heap.size) (hb : w'.heap[q]? = w.heap[q]?) : BoxD w' q d A c :=
  ⟨Nat.lt_of_lt_of_le h.1 hz, (World.cell?_of_block (a := ⟨q, 0, none⟩) hb).trans h.2.1, (World.cell?_of_block (a := ⟨q, 1, none⟩) hb).trans h.2.2.1, (World.cell?_of_block (a := ⟨q, 2, none⟩) hb).trans h.2.2.2⟩
theorem BoxN.same {w w' : World} {q : Nat} {v : Value} (h : BoxN w q v) (hz : w.heap.size ≤ w'.heap.size) (hb : w'.heap[q]? = w.heap[q]?) : BoxN w' q v :=
  ⟨Nat.lt_of_lt_of_le h.1 hz, (World.cell?_of_block (a := ⟨q, 0, none⟩) hb).trans h.2⟩
theorem BoxD.later {w w' : World} {q : Nat} {d : Dm} {A : Option Addr} {c : Nat} (h : BoxD w q d A c) (hB : Below w.heap.size w w') : BoxD w' q d A c := h.same hB.size (hB.block q h.1)
theorem BoxN.later {w w' : World} {q : Nat} {v : Value} (h : BoxN w q v) (hB : Below w.heap.size w w') : BoxN w' q v := h.same hB.size (hB.block q h.1)
theorem BoxN.made (w : World) (v : Value) (T : Nat) : BoxN (w.alloc (.cells #[v] T)) w.heap.size v := ⟨by simp, by simp⟩

/-- the boxes of foldMember: an outline, cells, a member -/
def fmW (w : World) (A0 : Option Addr) (n cap g N c m : Nat) : World := ((w.alloc (.cells #[.slice A0 n cap] 24)).alloc (.cells #[.slice (some ⟨g, 0, none⟩) N c] 26)).alloc (.cells #[.int .i64 m] 3)
theorem fmW_size (w : World) (A0 : Option Addr) (n cap g N c m : Nat) : (fmW w A0 n cap g N c m).heap.size = w.heap.size + 3 := by unfold fmW; simp
theorem fmW_below (w : World) (A0 : Option Addr) (n cap g N c m : Nat) : Below w.heap.size w (fmW w A0 n cap g N c m) := by unfold fmW; go_grown
theorem fmW_o (w : World) (A0 : Option Addr) (n cap g N c m : Nat) : BoxN (fmW w A0 n cap g N c m) w.heap.size (.slice A0 n cap) := by
  unfold fmW
  exact ((BoxN.made w _ _).later (by go_grown)).later (by go_grown)
theorem fmW_c (w : World) (A0 : Option Addr) (n cap g N c m : Nat) : BoxN (fmW w A0 n cap g N c m) (w.heap.size + 1) (.slice (some ⟨g, 0, none⟩) N c) := by
  unfold fmW
  have := BoxN.made (w.alloc (.cells #[.slice A0 n cap] 24)) (.slice (some ⟨g, 0, none⟩) N c) 26
  rw [show (w.alloc (.cells #[.slice A0 n cap] 24)).heap.size = w.heap.size + 1 by simp] at this
  exact this.later (by go_grown)
theorem fmW_m (w : World) (A0 : Option Addr) (n cap g N c m : Nat) : BoxN (fmW w A0 n cap g N c m) (w.heap.size + 2) (.int .i64 m) := by
  unfold fmW
  have := BoxN.made ((w.alloc (.cells #[.slice A0 n cap] 24)).alloc (.cells #[.slice (some ⟨g, 0, none⟩) N c] 26)) (.int .i64 m) 3
  rw [show ((w.alloc (.cells #[.slice A0 n cap] 24)).alloc (.cells #[.slice (some ⟨g, 0, none⟩) N c] 26)).heap.size = w.heap.size + 2 by simp] at this
  exact this
/-- what its first statement reads -/
theorem keepF {W w' : World} {q b o : Nat} {u v0 v1 v2 : Value} (h : (q < W.heap.size ∧ b < W.heap.size) ∧ W.cell? ⟨q, 0, none⟩ = some u ∧ W.cell? ⟨b, o, none⟩ = some v0 ∧ W.cell? ⟨b, o + 1, none⟩ = some v1 ∧ W.cell? ⟨b, o + 2, none⟩ = some v2) (hB : Below W.heap.size W w') : Below W.heap.size W w' ∧ w'.cell? ⟨q, 0, none⟩ = some u ∧ w'.cell? ⟨b, o, none⟩ = some v0 ∧ w'.cell? ⟨b, o + 1, none⟩ = some v1 ∧ w'.cell? ⟨b, o + 2, none⟩ = some v2 := by
  obtain ⟨⟨h1, h2⟩, c0, c1, c2, c3⟩ := h
  exact ⟨hB, (hB.cell (p := ⟨q, 0, none⟩) h1).trans c0, (hB.cell (p := ⟨b, o, none⟩) h2).trans c1, (hB.cell (p := ⟨b, o + 1, none⟩) h2).trans c2, (hB.cell (p := ⟨b, o + 2, none⟩) h2).trans c3⟩

theorem cel_grown {w w' : World} {g i j : Nat} {a b : Value} (h : w.grownBy w' (some g)) : w.grownBy ((w'.setCell ⟨g, i, none⟩ a).setCell ⟨g, j, none⟩ b) (some g) :=
  ⟨h.os, h.tape, h.output, by simpa [World.setCell] using h.size, fun k hk hr => (Below.heap_setCell _ ⟨g, j, none⟩ b k fun e => hr (by rw [e])).trans ((Below.heap_setCell w' ⟨g, i, none⟩ a k fun e => hr (by rw [e])).trans (h.block k hk hr))⟩
theorem ints_other {w w' : World} {b g c : Nat} {X : List Int} (h : IntsAt w (some ⟨b, 0, none⟩) c X) (hne : b ≠ g) (hG : w.grownBy w' (some g)) : IntsAt w' (some ⟨b, 0, none⟩) c X := by
  obtain ⟨h1, h2 | ⟨b', h2, h3, h4⟩⟩ := h
  · exact ⟨h1, Or.inl h2⟩
  · cases h2
    exact ⟨h1, Or.inr ⟨b, rfl, Nat.lt_of_lt_of_le h3 hG.size, fun j hj => (World.cell?_of_block (a := ⟨b, j, none⟩) (hG.block b h3 fun e => hne (by simpa using e))).trans (h4 j hj)⟩⟩
theorem boxn_other {w w' : World} {q g : Nat} {v : Value} (h : BoxN w q v) (hne : q ≠ g) (hG : w.grownBy w' (some g)) : BoxN w' q v := h.same hG.size (hG.block q h.1 fun e => hne (by simpa using e))
theorem boxd_other {w w' : World} {q g : Nat} {d : Dm} {A : Option Addr} {c : Nat} (h : BoxD w q d A c) (hne : q ≠ g) (hG : w.grownBy w' (some g)) : BoxD w' q d A c := h.same hG.size (hG.block q h.1 fun e => hne (by simpa using e))
theorem pass_hit {D : Nat → Dm} {n dim m x : Nat} {L : List (Int × Int)} (h : x / stepD D n dim % (D dim).n = m) : passTo D n dim m L (x + 1) = (passTo D n dim m L x).set x (partsV (D dim).mem (atP D n dim m x (passTo D n dim m L x)) (partsOf (D dim).mem (D dim).n m)) := by rw [passTo, if_pos h]
theorem pass_miss {D : Nat → Dm} {n dim m x : Nat} {L : List (Int × Int)} (h : ¬ x / stepD D n dim % (D dim).n = m) : passTo D n dim m L (x + 1) = passTo D n dim m L x := by rw [passTo, if_neg h]

set_option maxHeartbeats 16000000 in
theorem fmem_any (b o cap n dim m g c : Nat) (D : Nat → Dm) (A : Nat → Option Addr) (C : Nat → Nat) (L : List (Int × Int)) (w0 w : World) (hR : (allErr D n).2.2 = 0) (hdim : dim < n) (hcap : n ≤ cap) (hm : m < (D dim).n) (hLN : L.length = prodN D n) (hLc : L.length ≤ c) (hc : c ≤ 9223372036854775807) (hgood : goodL L) (hM : DimsAt w0 b o n D A C) (hB0 : Below w0.heap.size w0 w) (hg0 : w0.heap.size ≤ g) (hL : CelB w g L) :
    Calls Tryz.prog 34 #[.agg #[.slice (some ⟨b, o, none⟩) n cap], .slice (some ⟨g, 0, none⟩) L.length c, .int .i64 dim, .int .i64 m] w fun e w' => e = .returned .nilIface ∧ CelB w' g (mbrV D n dim m L) ∧ w.grownBy w' (some g) := by
  obtain ⟨hn1, hn4, hp3, hd⟩ := allErr_some hR
  have hdk := (allErr_right hR).2 dim hdim
  obtain ⟨hd1, hd12⟩ := hd dim hdim
  have hgz := hL.lt
  have HR : Hid ((allErr D n).2.2 = 0) := hR
  have HM : Hid (DimsAt w0 b o n D A C) := hM
  have HBz : Hid (Below w0.heap.size w0 w) := hB0
  have HL : Hid (CelB w g L) := hL
  have HGd : Hid (goodL L) := hgood
  have HD : Hid (∀ j, j < n → 1 ≤ (D j).n ∧ (D j).n ≤ 12) := hd
  obtain ⟨N, hN⟩ : ∃ N, L.length = N := ⟨_, rfl⟩
  have HN : Hid (L.length = N) := hN
  have HLN : Hid (L.length = prodN D n) := hLN
  have hN3 : N ≤ 3000 := by omega
  have hN3' : (N : Int) ≤ 3000 := by omega
  rw [hN] at hLc ⊢
  have hdi : (dim : Int) < (n : Int) := by omega
  have hn' : (n : Int) ≤ 4 := by omega
  have hBW := fmW_below w (some ⟨b, o, none⟩) n cap g N c m
  obtain ⟨W, hW⟩ : ∃ W, fmW w (some ⟨b, o, none⟩) n cap g N c m = W := ⟨_, rfl⟩
  have HWz : Hid (W.heap.size = w.heap.size + 3) := by show _ = _; rw [← hW]; exact fmW_size ..
  have HWo : Hid (BoxN W w.heap.size (.slice (some ⟨b, o, none⟩) n cap)) := by rw [← hW]; exact fmW_o ..
  have HWc : Hid (BoxN W (w.heap.size + 1) (.slice (some ⟨g, 0, none⟩) N c)) := by rw [← hW]; exact fmW_c ..
  have HWm : Hid (BoxN W (w.heap.size + 2) (.int .i64 m)) := by rw [← hW]; exact fmW_m ..
  rw [hW] at hBW
  unfold fmW at hW
  have HBW : Hid (Below w.heap.size w W) := hBW
  have HMW : Hid (DimsAt W b o n D A C) := HM.out.later (onB HBz.out hBW)
  obtain ⟨d0, d1, d2, -⟩ := HMW.out.2 dim hdim
  have HFo : Hid ((w.heap.size < W.heap.size ∧ b < W.heap.size) ∧ W.cell? ⟨w.heap.size, 0, none⟩ = some (.slice (some ⟨b, o, none⟩) n cap) ∧ W.cell? ⟨b, o + dim * 3, none⟩ = some (.string (D dim).name) ∧ W.cell? ⟨b, o + dim * 3 + 1, none⟩ = some (.int .i64 (D dim).solve) ∧ W.cell? ⟨b, o + dim * 3 + 2, none⟩ = some (.slice (A dim) (D dim).n (C dim))) := ⟨⟨HWo.out.1, HMW.out.1⟩, HWo.out.2, d0, d1, d2⟩
  have HSt : Hid (∀ w', Below W.heap.size W w' → Calls Tryz.prog 48 #[.agg #[.slice (some ⟨b, o, none⟩) n cap], .int .i64 dim] w' fun e w'' => e = .returned (.int .i64 (stepD D n dim)) ∧ Below w'.heap.size w' w'') := fun w' hw' => step_any b o cap n dim D A C w' hdim hn4 hcap HD.out (HMW.out.later hw')
  obtain ⟨S, hS⟩ : ∃ S, stepD D n dim = S := ⟨_, rfl⟩
  have HS : Hid (stepD D n dim = S) := hS
  rw [hS] at HSt
  obtain ⟨dd, hdd⟩ : ∃ d, D dim = d := ⟨_, rfl⟩
  obtain ⟨AA, hAA⟩ : ∃ d, A dim = d := ⟨_, rfl⟩
  obtain ⟨CC, hCC⟩ : ∃ d, C dim = d := ⟨_, rfl⟩
  have HDD : Hid (D dim = dd ∧ A dim = AA ∧ C dim = CC) := ⟨hdd, hAA, hCC⟩
  rw [hdd] at hdk hd1 hd12 hm
  rw [hdd, hAA, hCC] at HFo
  have c0 := HFo.out.2.1
  clear hR hM hB0 hL hgood hd hN hLN hBW hS hdd hAA hCC d0 d1 d2
  go_enter Tryz.func34, Tryz.ntmps34
  go_wp2_with fail
  clear hW
  go_cut [9, 10] (fun s9 s10 wx => ∃ bd ba, s9 = .pointer (some ⟨bd, 0, none⟩) ∧ s10 = .pointer (some ⟨ba, 0, none⟩) ∧ W.heap.size ≤ bd ∧ W.heap.size ≤ ba ∧ BoxD wx bd dd AA CC ∧ BoxN wx ba (.int .i64 S) ∧ Below W.heap.size W wx)
  case first => as_aux_lemma =>
    go_region_held3 (fun w' => Below W.heap.size W w' ∧ w'.cell? ⟨w.heap.size, 0, none⟩ = some (.slice (some ⟨b, o, none⟩) n cap) ∧ w'.cell? ⟨b, o + dim * 3, none⟩ = some (.string dd.name) ∧ w'.cell? ⟨b, o + dim * 3 + 1, none⟩ = some (.int .i64 dd.solve) ∧ w'.cell? ⟨b, o + dim * 3 + 2, none⟩ = some (.slice AA dd.n CC))
      ((refine keepF HFo.out ?_; go_grown; done))
      (first | (go_at_call 48; refine (HSt.out _ (by go_grown)).mono ?_; rintro e w3 ⟨rfl, hb3⟩; have hM3 := onB (W0 := W) (by go_grown) hb3; obtain ⟨hc3, hf3⟩ := bcell hb3; have hk3 := hb3.block; have hz3 := bsize hb3; (try simp [Nat.add_one_le_iff] at hz3); have hy3 := hM3.size; clear hb3))
    all_goals go_wp2_with fail
    all_goals go_meet
    all_goals (refine ⟨_, _, rfl, rfl, ?_, ?_, ?_, ?_, by go_grown⟩)
    all_goals first | omega | (simp; omega) | skip
    all_goals first | refine BoxD.of (T := 62) (fr := (0, 0)) ?_ | refine BoxN.of (T := 3) (fr := (0, 0)) ?_
    all_goals first | (rw [top1]; done) | (rw [top0]; done) | skip
    all_goals first
      | (rw [new_after (w := w3) _ (by simp [World.setCell])]; done)
      | (have e0 := hk3 W.heap.size (by simp); rw [heap_drewn, heap_alloc_new] at e0; rw [Below.heap_alloc _ _ _ (by simp [World.setCell]; omega)]; first | (rw [set3_at _ _ _ e0]; done) | (rw [set1_at _ e0]; done))
      | (have e0 := hk3 W.heap.size (by simp; omega); have e1 := hk3 (W.heap.size + 1) (by simp); rw [heap_drewn] at e0 e1; rw [top0] at e0; rw [top1] at e1; first | (rw [Below.heap_setCell _ _ _ _ (by simp), set3_at _ _ _ e0]; done) | (rw [Below.heap_setCell _ _ _ _ (by simp), set3_at _ _ _ e1]; done) | (rw [set1_at _ ((set3_off _ _ _ (by omega)).trans e1)]; done) | (rw [set1_at _ ((set3_off _ _ _ (by omega)).trans e0)]; done))
      | (trace_state; sorry)
  case rest => as_aux_lemma =>
  obtain ⟨bd, ba, rfl, rfl, hbd, hba, hBd, hBa, hb⟩ := hcut
  obtain ⟨w1, rfl⟩ : ∃ w1 : World, w1 = wc := ⟨_, rfl⟩
  have HB1 : Hid (Below w.heap.size w w1) := onB HBW.out hb
  have hMV : MemsV w1 AA CC dd.n dd.mem := by
    have := ((HM.out.later (onB HBz.out HB1.out)).2 dim hdim).2.2.2
    rw [HDD.out.1, HDD.out.2.1, HDD.out.2.2] at this
    exact this
  have hpa := parts_new dd AA CC (m : Int) w1 hMV
  have hte : treeErr dd [(m : Int)] = 0 := by rw [treeErr_one hdk, if_neg (by omega)]
  rw [lst_ok hte, hte, errV_zero] at hpa
  unfold dimV at hpa
  obtain ⟨z1, x0, x1, x2⟩ := hBd
  obtain ⟨z2, y0⟩ := hBa
  have HBd : Hid (BoxD w1 bd dd AA CC) := ⟨z1, x0, x1, x2⟩
  have HBa : Hid (BoxN w1 ba (.int .i64 S)) := ⟨z2, y0⟩
  have HBc : Hid (BoxN w1 (w.heap.size + 1) (.slice (some ⟨g, 0, none⟩) N c)) := HWc.out.later hb
  have HBm : Hid (BoxN w1 (w.heap.size + 2) (.int .i64 m)) := HWm.out.later hb
  have ym := HBm.out.2
  have HZ : Hid (w.heap.size + 3 ≤ w1.heap.size ∧ w.heap.size + 3 ≤ bd ∧ w.heap.size + 3 ≤ ba) := by
    have h1 := HWz.out
    have h2 := hb.size
    show _ ∧ _ ∧ _
    omega
  obtain ⟨P, hP⟩ : ∃ P, partsOf dd.mem dd.n (m : Int) = P := ⟨_, rfl⟩
  have HPe : Hid (partsOf dd.mem dd.n (m : Int) = P) := hP
  rw [hP] at hpa
  have hP12 : P.length ≤ 12 := by rw [← hP]; exact Nat.le_trans (selTo_len _ _) hd12
  clear hb hMV hte c0 HSt HFo HWo HWc HWm HMW HBW hP
  go_wp2_with fail
  refine hpa.mono ?_
  rintro e w2 ⟨⟨AP, cP, rfl, hI, hNew⟩, hb2⟩
  have HB2 : Hid (Below w1.heap.size w1 w2) := hb2
  have HI : Hid (IntsAt w2 AP cP P) := hI
  have HNew : Hid (∀ b o, AP = some ⟨b, o, none⟩ → w1.heap.size ≤ b) := hNew
  obtain ⟨NP, hNP⟩ : ∃ NP, P.length = NP := ⟨_, rfl⟩
  have HNP : Hid (P.length = NP) := hNP
  rw [hNP] at hP12 ⊢
  have hNP' : (NP : Int) ≤ 12 := by omega
  clear hb2 hI hNew hpa hNP x0 x1 x2 y0 ym
  by_cases hP0 : NP = 0
  · subst hP0
    have HR : Hid (mbrV D n dim m L = L) := by
      show _ = _
      unfold mbrV
      rw [HDD.out.1, if_pos]
      rw [HPe.out]
      exact List.eq_nil_of_length_eq_zero HNP.out
    go_wp2_with fail
    first | (go_quiet (fail); go_wp2_with fail) | skip
    go_ret
    refine ⟨rfl, ?_⟩
    rw [HR.out]
    first | exact ⟨HL.out.later (onB HB1.out HB2.out), grown_below (onB HB1.out HB2.out)⟩ | exact ⟨HL.out.later (below_drewN (onB HB1.out HB2.out) _), grown_below (below_drewN (onB HB1.out HB2.out) _)⟩
  have hNP0 : ((NP : Int) == 0) = false := by simp; omega
  have HPne : Hid (P ≠ []) := fun e => by have := HNP.out; rw [e] at this; simp at this; omega
  obtain ⟨bp, hbp⟩ : ∃ bp, AP = some ⟨bp, 0, none⟩ := by
    obtain ⟨-, h0 | ⟨b', h0, -⟩⟩ := HI.out
    · exact absurd h0 HPne.out
    · exact ⟨b', h0⟩
  subst hbp
  have HBp : Hid (w1.heap.size ≤ bp) := HNew.out bp 0 rfl
  have HBd2 : Hid (BoxD w2 bd dd AA CC) := HBd.out.later HB2.out
  have HBa2 : Hid (BoxN w2 ba (.int .i64 S)) := HBa.out.later HB2.out
  have HBc2 : Hid (BoxN w2 (w.heap.size + 1) (.slice (some ⟨g, 0, none⟩) N c)) := HBc.out.later HB2.out
  have HBm2 : Hid (BoxN w2 (w.heap.size + 2) (.int .i64 m)) := HBm.out.later HB2.out
  have HL2 : Hid (CelB w2 g L) := HL.out.later (onB HB1.out HB2.out)
  have HBz2 : Hid (Below w0.heap.size w0 w2) := onB HBz.out (onB HB1.out HB2.out)
  have HBw2 : Hid (Below w.heap.size w w2) := onB HB1.out HB2.out
  have yc := HBc2.out.2
  clear HBd HBa HBc HBm HNew
  go_wp2_with fail
  first | (go_quiet (fail); go_wp2_with fail) | skip
  clear yc
  go_loopg [40] N (fun gg s40 wr => ∃ (x : Nat), x ≤ N ∧ gg = N - x ∧ s40 = .int .i64 x ∧ Hid (CelB wr g (passTo D n dim m L x)) ∧ Hid (w2.grownBy wr (some g)))
  case atStart => exact ⟨0, Nat.zero_le _, rfl, rfl, HL2, grown_refl w2 (some g)⟩
  case round =>
    obtain ⟨x, hx, rfl, rfl, HC, HG⟩ := hrel
    have hBz : Below w0.heap.size w0 wr := HBz2.out.grown HG.out HBz2.out.size (fun j hj => by cases hj; exact hg0)
    have HBzr : Hid (Below w0.heap.size w0 wr) := hBz
    have HPl : Hid ((passTo D n dim m L x).length = N) := by show _ = _; rw [pass_len]; exact HN.out
    by_cases hlt : x < N
    · have hxi : (x : Int) < (N : Int) := by omega
      have hzz := HZ.out
      have hzp := HBp.out
      have HBdr : Hid (BoxD wr bd dd AA CC) := boxd_other HBd2.out (by omega) HG.out
      have HBar : Hid (BoxN wr ba (.int .i64 S)) := boxn_other HBa2.out (by omega) HG.out
      have HBcr : Hid (BoxN wr (w.heap.size + 1) (.slice (some ⟨g, 0, none⟩) N c)) := boxn_other HBc2.out (by omega) HG.out
      have HBmr : Hid (BoxN wr (w.heap.size + 2) (.int .i64 m)) := boxn_other HBm2.out (by omega) HG.out
      have HIr : Hid (IntsAt wr (some ⟨bp, 0, none⟩) cP P) := ints_other HI.out (by omega) HG.out
      have hMr := ((HM.out.later hBz).2 dim hdim).2.2.2
      rw [HDD.out.1, HDD.out.2.1, HDD.out.2.2] at hMr
      obtain ⟨hCC, h0 | ⟨bm, om, rfl, hMm⟩⟩ := hMr
      · omega
      have HMm : Hid (MemsAt wr bm om dd.n dd.mem) := hMm
      have hSp : 1 ≤ S := by rw [← HS.out]; exact stepD_pos (fun i hi => (HD.out i hi).1) hdim
      obtain ⟨Q, hQ⟩ : ∃ Q : Nat, x / S = Q := ⟨_, rfl⟩
      obtain ⟨R, hRr⟩ : ∃ R : Nat, Q % dd.n = R := ⟨_, rfl⟩
      have hqi : (x : Int) / (S : Int) = (Q : Int) := by rw [← hQ]; exact (Int.natCast_ediv _ _).symm
      have hqt : (x : Int).tdiv (S : Int) = (Q : Int) := by rw [← hQ]; rfl
      have hri : (Q : Int).tmod (dd.n : Int) = (R : Int) := by rw [← hRr]; rfl
      have hQ3 : Q ≤ 3000 := by rw [← hQ]; exact Nat.le_trans (Nat.div_le_self _ _) (by omega)
      have hR3 : R < dd.n := by rw [← hRr]; exact Nat.mod_lt _ (by omega)
      have hQ3' : (Q : Int) ≤ 3000 := by omega
      have hR3' : (R : Int) ≤ 12 := by omega
      have hwQ : IntKind.i64.wrap (Q : Int) = (Q : Int) := IntWalk.i64_in _ (by omega)
      have hwR : IntKind.i64.wrap (R : Int) = (R : Int) := IntWalk.i64_in _ (by omega)
      have hS0 : ((S : Int) == 0) = false := by simp; omega
      have hS0' : ¬ S = 0 := by omega
      have hdn0 : ((dd.n : Int) == 0) = false := by simp; omega
      have hdn0' : ¬ dd.n = 0 := by omega
      have HDig : Hid (x / stepD D n dim % (D dim).n = R) := by show _ = _; rw [HS.out, HDD.out.1, hQ, hRr]
      obtain ⟨y, hy⟩ : ∃ y, wr.alloc (.cells #[.int .i64 (x : Int)] 3) = y := ⟨_, rfl⟩
      have hBy : Below wr.heap.size wr y := by rw [← hy]; go_grown
      have HBy : Hid (Below wr.heap.size wr y) := hBy
      have HBx : Hid (BoxN y wr.heap.size (.int .i64 x)) := by rw [← hy]; exact BoxN.made ..
      have hx0 := HBx.out.2
      obtain ⟨hx1, hx2, hx3, hx4⟩ := HBdr.out.later hBy
      have hx5 := (HBar.out.later hBy).2
      have hx6 := (HBmr.out.later hBy).2
      clear hBz hMm hQ hRr hBy hx1
      by_cases hRm : R = m
      · have hne : ((R : Int) != (m : Int)) = false := by simp [hRm]
        have HDm : Hid (x / stepD D n dim % (D dim).n = m) := by show _ = _; rw [HDig.out]; exact hRm
        obtain ⟨Lx, hLx⟩ : ∃ Lx, passTo D n dim m L x = Lx := ⟨_, rfl⟩
        have HLx : Hid (passTo D n dim m L x = Lx) := hLx
        have HCx : Hid (CelB y g Lx) := by rw [← hLx]; exact HC.out.later HBy.out
        have hLxN : Lx.length = N := by rw [← hLx]; exact HPl.out
        have hLxg : goodL Lx := by rw [← hLx]; exact pass_good HGd.out x
        have HIn : Hid (∀ k ∈ P, ∃ j : Nat, k = j ∧ j < dd.n) := fun k hk => by
          rw [← HPe.out] at hk
          obtain ⟨j, h1, -, h3, -⟩ := part_behind (Tr.of hdk) hk
          exact ⟨j, h1, h3⟩
        have hAsk : ∀ w', Below y.heap.size y w' → AskC (w.heap.size + 1) wr.heap.size (w.heap.size + 2) ba w' P (atP D n dim m x Lx) := fun w' hw' k hk w'' hw'' => by
          obtain ⟨j, rfl, hj⟩ := HIn.out k hk
          obtain ⟨yy, hyy, hylt, -, -⟩ := part_place (D := D) (n := n) (dim := dim) (m := m) (x := x) (j := j) (fun i hi => (HD.out i hi).1) hdim (by have := HN.out; have := HLN.out; omega) HDm.out (by rw [HDD.out.1]; exact hj)
          have hyL : yy < Lx.length := by have := HN.out; have := HLN.out; omega
          have hBB : Below y.heap.size y w'' := onB hw' hw''
          have h := fm1_any (w.heap.size + 1) wr.heap.size (w.heap.size + 2) ba g c Lx x m S (j : Int) yy w'' (by omega) hc (by omega) (by rw [← HS.out]; exact hyy) hyL (by omega) (by omega) (by rw [hLxN]; exact ((HBcr.out.later HBy.out).later hBB).2) (HBx.out.later hBB).2 ((HBmr.out.later HBy.out).later hBB).2 ((HBar.out.later HBy.out).later hBB).2 (HCx.out.later hBB)
          have e : atP D n dim m x Lx (j : Int) = Lx.getD yy noC := by unfold atP cAt; rw [hyy]; rfl
          rw [e]
          exact h
        have HTog : Hid (∀ w', Below y.heap.size y w' → Calls Tryz.prog 50 #[.agg #[.string dd.name, .int .i64 dd.solve, .slice (some ⟨bm, om, none⟩) dd.n CC], .slice (some ⟨bp, 0, none⟩) NP cP, .func (.func 51) #[] #[.pointer (some ⟨w.heap.size + 1, 0, none⟩), .pointer (some ⟨wr.heap.size, 0, none⟩), .pointer (some ⟨w.heap.size + 2, 0, none⟩), .pointer (some ⟨ba, 0, none⟩)]] w' fun e w'' => e = .returned (.tuple #[.agg #[.int .i64 (partsV dd.mem (atP D n dim m x Lx) P).1, .int .i64 (partsV dd.mem (atP D n dim m x Lx) P).2], .nilIface]) ∧ Below w'.heap.size w' w'') := fun w' hw' => by
          have h := tog_any (w.heap.size + 1) wr.heap.size (w.heap.size + 2) ba bm om CC dd (some ⟨bp, 0, none⟩) cP P (atP D n dim m x Lx) w' hd12 (by rw [HNP.out]; exact hP12) HIn.out (Sg.of hdk) (fun k _ => good_at hLxg _) (HMm.out.later (onB HBy.out hw')) (HIr.out.later (onB HBy.out hw')) (hAsk w' hw')
          rw [HNP.out] at h
          exact h
        have HNx : Hid (passTo D n dim m L (x + 1) = Lx.set x (partsV dd.mem (atP D n dim m x Lx) P)) := by
          show _ = _
          rw [pass_hit HDm.out, hLx, HDD.out.1, HPe.out]
        obtain ⟨⟨pk, pn⟩, hpv⟩ : ∃ v : Int × Int, partsV dd.mem (atP D n dim m x Lx) P = v := ⟨_, rfl⟩
        rw [hpv] at HTog HNx
        simp only at HTog
        have hyc := (HBcr.out.later HBy.out).2
        have HBcy : Hid (BoxN y (w.heap.size + 1) (.slice (some ⟨g, 0, none⟩) N c)) := HBcr.out.later HBy.out
        have HLxN : Hid (Lx.length = N) := hLxN
        clear hAsk hLx hLxN hLxg hpv hRm
        go_wp2_with fail
        first | (go_quiet (fail); go_wp2_with fail) | skip
        refine (HTog.out _ (by first | exact Below.refl _ _ | exact below_drewN (Below.refl _ _) _)).mono ?_
        rintro e w5 ⟨rfl, hb5⟩
        have hB5 : Below y.heap.size y w5 := onB (by first | exact Below.refl _ _ | exact below_drewN (Below.refl _ _) _) hb5
        obtain ⟨y5, hy5⟩ : ∃ y5, w5.alloc (.cells #[.int .i64 pk, .int .i64 pn] 42) = y5 := ⟨_, rfl⟩
        have hBy5 : Below w5.heap.size w5 y5 := by rw [← hy5]; go_grown
        have hB55 : Below y.heap.size y y5 := onB hB5 hBy5
        have HB55 : Hid (Below y.heap.size y y5) := hB55
        obtain ⟨p0, p1, p2, p3⟩ := pair_at (show y5.heap[w5.heap.size]? = some (.cells #[.int .i64 pk, .int .i64 pn] 42 (0, 0)) from by rw [← hy5]; exact heap_alloc_new ..)
        have r1 := (HBcy.out.later hB55).2
        have r2 := (HBx.out.later hB55).2
        have hxL : x < Lx.length := by rw [HLxN.out]; exact hlt
        have HC5 : Hid (CelB y5 g Lx) := HCx.out.later hB55
        obtain ⟨g1, g2⟩ := HC5.out.at hxL
        have g3 := HC5.out.frozen (x * 2)
        have g4 := HC5.out.frozen (x * 2 + 1)
        have HC6 : Hid (CelB ((y5.setCell ⟨g, x * 2, none⟩ (.int .i64 pk)).setCell ⟨g, x * 2 + 1, none⟩ (.int .i64 pn)) g (passTo D n dim m L (x + 1))) := by show CelB _ _ _; rw [HNx.out]; exact HC5.out.set hxL pk pn
        have HG6 : Hid (w2.grownBy ((y5.setCell ⟨g, x * 2, none⟩ (.int .i64 pk)).setCell ⟨g, x * 2 + 1, none⟩ (.int .i64 pn)) (some g)) := cel_grown (grown_then (grown_then HG.out HBy.out) hB55)
        clear hb5 hB5 hBy5 hB55 hxL HTog hx0 hx2 hx3 hx4 hx5 hx6 hyc
        go_wp2_with fail
        go_roundg (N - (x + 1))
        case measure => omega
        case rel => exact ⟨x + 1, by omega, rfl, by go_num, HC6, HG6⟩
      · have hne : ((R : Int) != (m : Int)) = true := by simp; omega
        have HNx : Hid (passTo D n dim m L (x + 1) = passTo D n dim m L x) := pass_miss (by rw [HDig.out]; exact hRm)
        have HG3 : Hid (w2.grownBy y (some g)) := grown_then HG.out HBy.out
        have HC3 : Hid (CelB y g (passTo D n dim m L (x + 1))) := by show CelB _ _ _; rw [HNx.out]; exact HC.out.later HBy.out
        clear hRm
        go_wp2_with fail
        first | (go_quiet (fail); go_wp2_with fail) | skip
        go_roundg (N - (x + 1))
        case measure => omega
        case rel => first | exact ⟨x + 1, by omega, rfl, by go_num, HC3, HG3⟩ | exact ⟨x + 1, by omega, rfl, by go_num, HC3.out.later (below_drewN (Below.refl _ _) _), grown_then HG3.out (below_drewN (Below.refl _ _) _)⟩
    · have hxe : x = N := by omega
      subst hxe
      have HR : Hid (mbrV D n dim m L = passTo D n dim m L x) := by
        show _ = _
        unfold mbrV
        rw [HDD.out.1, if_neg (by rw [HPe.out]; exact HPne.out), HN.out]
      clear hBz
      go_wp2_with fail
      go_ret
      refine ⟨rfl, ?_⟩
      rw [HR.out]
      exact ⟨HC.out, grown_trans (grown_below HBw2.out) HG.out⟩
end Go.Proofs.YtmjcnlpjnbcfjadGreatDoor
