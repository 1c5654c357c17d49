/-
  tallylaw4.TreeLine's loop: so many members are laid in a row.
-/
import Derived.Test.YtiaogjjhpnjhiabDoorTLine1
import Derived.Test.YtiaogjjhpnjhiabDoorToldT
import Derived.Deep.AppendLies
import Derived.Deep.RegionLaw
import Derived.Deep.DeepCutAuto
import Derived.Deep.CutBlock
namespace Go.Proofs.YtiaogjjhpnjhiabDoor
open Go.ChangeShapes Go.WideShapes Go.ChangeAt Go.RowKit
set_option maxRecDepth 20000

theorem Tryd.infoMem : (Tryd.prog.info? 31).map (fun i => (i.zero, i.size, i.bytes)) = some (some (.agg #[.string ⟨#[]⟩, .int .i64 0, .int .i64 0, .string ⟨#[]⟩]), 4, 48) := by kernel_rfl

/-- k members lie in a row of the call's own, and the dim in block q shows them -/
def LineAt (w : World) (sg : Int) (k : Nat) (v : Value) (wr : World) : Prop :=
  wr.ownsRow (w.heap.size + 1) 31 4 v k (cellsL sg k) ∧ (wr.cell? ⟨w.heap.size, 0, none⟩ = some (.string ⟨#[97]⟩) ∧ wr.cell? ⟨w.heap.size, 1, none⟩ = some (.int .i64 0) ∧ wr.cell? ⟨w.heap.size, 2, none⟩ = some v ∧ wr.frozen? ⟨w.heap.size, 2, none⟩ = false) ∧ Below w.heap.size w wr ∧ w.heap.size + 1 ≤ wr.heap.size

theorem line_step {w wr wa w1 : World} {sg : Int} {k : Nat} {v v' : Value} (h : LineAt w sg k v wr) (hb : Below wr.heap.size wr wa)
    (hown : w1.ownsRow (w.heap.size + 1) 31 4 v' (k + 1) (cellsL sg k ++ [.string (lett k), .int .i64 ((k : Int) - 1), .int .i64 sg, .string ⟨#[]⟩])) (hgrow : wa.grownBy w1 v.ownBlock) : LineAt w sg (k + 1) v' (w1.setCell ⟨w.heap.size, 2, none⟩ v') := by
  obtain ⟨h1, ⟨c0, c1, c2, c3⟩, hB, hs⟩ := h
  have hq : w.heap.size < wr.heap.size := by omega
  have hqa : w.heap.size < wa.heap.size := Nat.lt_of_lt_of_le hq hb.size
  have hne : some w.heap.size ≠ v.ownBlock := fun e => by have := (h1.lt _ e.symm).1; omega
  have f : ∀ j, w1.cell? ⟨w.heap.size, j, none⟩ = wr.cell? ⟨w.heap.size, j, none⟩ := fun j => (hgrow.cell_far ⟨w.heap.size, j, none⟩ hqa hne).trans (hb.cell (p := ⟨w.heap.size, j, none⟩) hq)
  refine ⟨ownsRow_setCell_below hown (by show w.heap.size < w.heap.size + 1; omega) _, ⟨?_, ?_, ?_, ?_⟩, ?_, ?_⟩
  · rw [World.cell?_setCell_other _ _ _ _ (by simp), f]; exact c0
  · rw [World.cell?_setCell_other _ _ _ _ (by simp), f]; exact c1
  · rw [World.cell?_setCell_same _ _ _ ((f 2).trans c2)]
  · rw [World.frozen?_setCell, hgrow.frozen_far ⟨w.heap.size, 2, none⟩ hqa hne, hb.frozen (p := ⟨w.heap.size, 2, none⟩) hq]; exact c3
  · exact ((onB hB hb).grown hgrow (by have := hB.size; have := hb.size; omega) (fun j hj => by have := (h1.lt j hj).1; omega)).setCell (by show w.heap.size ≤ w.heap.size; omega) _
  · have := hb.size; have := hgrow.size; simp only [World.setCell, Array.size_modify]; omega

def Line0 (w : World) (T : Nat) : World := w.alloc (.cells #[.string ⟨#[97]⟩, .int .i64 0, .slice none 0 0] T)
theorem line_start (w : World) (T : Nat) (sg : Int) : LineAt w sg 0 (.slice none 0 0) (Line0 w T) := by
  unfold Line0
  exact ⟨World.ownsRow_nil _ _ _ _, ⟨by simp, by simp, by simp, World.frozen?_alloc_at _ _ _ _ rfl⟩, by go_grown, by simp⟩

/-- the dim of the row lies in its block, with its members; and the library's variable -/
def LineK (q n : Nat) (sg : Int) (A : Option Addr) (cap : Nat) (w : World) : Prop :=
  q < w.heap.size ∧ (w.cell? ⟨q, 0, none⟩ = some (.string ⟨#[97]⟩) ∧ w.cell? ⟨q, 1, none⟩ = some (.int .i64 0) ∧ w.cell? ⟨q, 2, none⟩ = some (.slice A n cap)) ∧ MemsV w A cap n (lineM sg) ∧ Kind0 w
theorem LineK.later {q n : Nat} {sg : Int} {A : Option Addr} {cap : Nat} {w w' : World} (h : LineK q n sg A cap w) (hB : Below w.heap.size w w') : LineK q n sg A cap w' := by
  obtain ⟨h1, ⟨h2, h3, h4⟩, h5, h6⟩ := h
  exact ⟨Nat.lt_of_lt_of_le h1 hB.size, ⟨(hB.cell (p := ⟨q, 0, none⟩) h1).trans h2, (hB.cell (p := ⟨q, 1, none⟩) h1).trans h3, (hB.cell (p := ⟨q, 2, none⟩) h1).trans h4⟩, h5.later hB, h6.later hB⟩

def lineV (A : Option Addr) (n cap : Nat) : Value := .agg #[.string ⟨#[97]⟩, .int .i64 0, .slice A n cap]
theorem line_err {sg : Int} {n : Nat} {i : Int} (h1 : -1 ≤ sg) (h2 : sg ≤ 1) (hn : 1 ≤ n) (hn' : n ≤ 12) : treeErr (lineD sg n) [i] = if i < 0 ∨ (n : Int) ≤ i then 1 else 0 := treeErr_one (line_right h1 h2 hn hn').1
theorem lpath_in {sg : Int} {n I : Nat} {A : Option Addr} {cap : Nat} {w : World} (h1 : -1 ≤ sg) (h2 : sg ≤ 1) (hI : I < n) (hn' : n ≤ 12) (hM : MemsV w A cap n (lineM sg)) : Calls Tryd.prog 12 #[.agg #[.string ⟨#[97]⟩, .int .i64 0, .slice A n cap], .int .i64 I] w fun e w' => (∃ A' c', e = .returned (.tuple #[.slice A' (I + 1) c', .nilIface])) ∧ Below w.heap.size w w' := by
  have h := tpath_any (lineD sg n) A cap I w hM
  have e : treeErr (lineD sg n) [(I : Int)] = 0 := by rw [line_err h1 h2 (by omega) hn', if_neg (by omega)]
  have f : (pathOf (lineD sg n).mem I).length = I + 1 := (line_at h1 h2 hI hn').1
  rw [e, errV_zero, lst_ok rfl, f] at h
  exact h.mono fun e w' ⟨⟨A', c', h3, _⟩, h4⟩ => ⟨⟨A', c', h3⟩, h4⟩
theorem lleafs_in {sg : Int} {n I : Nat} {A : Option Addr} {cap : Nat} {w : World} (h1 : -1 ≤ sg) (h2 : sg ≤ 1) (hI : I < n) (hn' : n ≤ 12) (hM : MemsV w A cap n (lineM sg)) : Calls Tryd.prog 11 #[.agg #[.string ⟨#[97]⟩, .int .i64 0, .slice A n cap], .int .i64 I] w fun e w' => (∃ b c', e = .returned (.tuple #[.slice (some ⟨b, 0, none⟩) 1 c', .nilIface]) ∧ (b < w'.heap.size ∧ w'.cell? ⟨b, 0, none⟩ = some (.int .i64 ((n : Int) - 1)))) ∧ Below w.heap.size w w' := by
  have h := leafs_any (lineD sg n) A cap I w hM
  have e : treeErr (lineD sg n) [(I : Int)] = 0 := by rw [line_err h1 h2 (by omega) hn', if_neg (by omega)]
  have f : leafsOf (lineD sg n).mem (lineD sg n).n I = [((n - 1 : Nat) : Int)] := (line_at h1 h2 hI hn').2.1
  rw [e, errV_zero, lst_ok rfl, f] at h
  refine h.mono fun e w' ⟨⟨A', c', h3, h4⟩, h5⟩ => ⟨?_, h5⟩
  obtain ⟨_, h6 | ⟨b, rfl, h7, h8⟩⟩ := h4
  · cases h6
  · have h9 := h8 0 (by simp)
    simp only [List.getD_cons_zero] at h9
    rw [show ((n - 1 : Nat) : Int) = (n : Int) - 1 by omega] at h9
    exact ⟨b, c', h3, h7, h9⟩
theorem lweight_in {sg : Int} {n I : Nat} {A : Option Addr} {cap : Nat} {w : World} (h1 : -1 ≤ sg) (h2 : sg ≤ 1) (hI : I < n) (hn' : n ≤ 12) (hM : MemsV w A cap n (lineM sg)) : Calls Tryd.prog 15 #[.agg #[.string ⟨#[97]⟩, .int .i64 0, .slice A n cap], .int .i64 I, .int .i64 ((n : Int) - 1)] w fun e w' => e = .returned (.tuple #[.int .i64 (pw sg (n - 1 - I)), .nilIface]) ∧ Below w.heap.size w w' := by
  have h := tweight_any (lineD sg n) A cap I ((n - 1 : Nat) : Int) w hM
  have e : treeErr (lineD sg n) [(I : Int), ((n - 1 : Nat) : Int)] = 0 := by
    rw [treeErr_two (line_right h1 h2 (by omega) hn').1, if_neg]
    show ¬ ((I : Int) < 0 ∨ (n : Int) ≤ I ∨ ((n - 1 : Nat) : Int) < 0 ∨ (n : Int) ≤ ((n - 1 : Nat) : Int))
    omega
  have g := line_at h1 h2 hI hn'
  have f : wErr (lineD sg n) I ((n - 1 : Nat) : Int) = 0 := wErr_ok e (show leafB (lineM sg) n ((n - 1 : Nat) : Int).toNat = true by simpa using g.2.2.1)
  rw [wVal_ok f, f, errV_zero] at h
  have k : weightOf (lineD sg n).mem I ((n - 1 : Nat) : Int) = pw sg (n - 1 - I) := g.2.2.2
  rw [k, show ((n - 1 : Nat) : Int) = (n : Int) - 1 by omega] at h
  exact h
theorem ldepth_in {sg : Int} {n : Nat} {A : Option Addr} {cap : Nat} {w : World} (h1 : -1 ≤ sg) (h2 : sg ≤ 1) (hn : 1 ≤ n) (hn' : n ≤ 12) (hM : MemsV w A cap n (lineM sg)) : Calls Tryd.prog 16 #[.agg #[.string ⟨#[97]⟩, .int .i64 0, .slice A n cap]] w fun e w' => e = .returned (.tuple #[.int .i64 n, .nilIface]) ∧ Below w.heap.size w w' := by
  have h := tdepth_any (lineD sg n) A cap w hM
  have g := line_right h1 h2 hn hn'
  rw [dVal_ok g.1, g.1, errV_zero] at h
  have k : depTo (lineD sg n).mem (lineD sg n).n = n := g.2
  rw [k] at h
  exact h
theorem lpath_out {sg : Int} {n : Nat} {i : Int} {A : Option Addr} {cap : Nat} {w : World} (h1 : -1 ≤ sg) (h2 : sg ≤ 1) (hn : 1 ≤ n) (hn' : n ≤ 12) (hi : i < 0 ∨ (n : Int) ≤ i) (hM : MemsV w A cap n (lineM sg)) : Calls Tryd.prog 12 #[.agg #[.string ⟨#[97]⟩, .int .i64 0, .slice A n cap], .int .i64 i] w fun e w' => (∃ A' c', e = .returned (.tuple #[.slice A' 0 c', .iface 53 (.int .i64 1)])) ∧ Below w.heap.size w w' := by
  have h := tpath_any (lineD sg n) A cap i w hM
  have e : treeErr (lineD sg n) [i] = 1 := by rw [line_err h1 h2 hn hn', if_pos hi]
  rw [e, errV_some (by decide), lst_bad (by decide)] at h
  exact h.mono fun e w' ⟨⟨A', c', h3, _⟩, h4⟩ => ⟨⟨A', c', h3⟩, h4⟩
theorem lleafs_out {sg : Int} {n : Nat} {i : Int} {A : Option Addr} {cap : Nat} {w : World} (h1 : -1 ≤ sg) (h2 : sg ≤ 1) (hn : 1 ≤ n) (hn' : n ≤ 12) (hi : i < 0 ∨ (n : Int) ≤ i) (hM : MemsV w A cap n (lineM sg)) : Calls Tryd.prog 11 #[.agg #[.string ⟨#[97]⟩, .int .i64 0, .slice A n cap], .int .i64 i] w fun e w' => (∃ A' c', e = .returned (.tuple #[.slice A' 0 c', .iface 53 (.int .i64 1)])) ∧ Below w.heap.size w w' := by
  have h := leafs_any (lineD sg n) A cap i w hM
  have e : treeErr (lineD sg n) [i] = 1 := by rw [line_err h1 h2 hn hn', if_pos hi]
  rw [e, errV_some (by decide), lst_bad (by decide)] at h
  exact h.mono fun e w' ⟨⟨A', c', h3, _⟩, h4⟩ => ⟨⟨A', c', h3⟩, h4⟩
theorem lweight_out {sg : Int} {n : Nat} {i : Int} {A : Option Addr} {cap : Nat} {w : World} (h1 : -1 ≤ sg) (h2 : sg ≤ 1) (hn : 1 ≤ n) (hn' : n ≤ 12) (hi : i < 0 ∨ (n : Int) ≤ i) (hM : MemsV w A cap n (lineM sg)) : Calls Tryd.prog 15 #[.agg #[.string ⟨#[97]⟩, .int .i64 0, .slice A n cap], .int .i64 i, .int .i64 ((n : Int) - 1)] w fun e w' => e = .returned (.tuple #[.int .i64 0, .iface 53 (.int .i64 1)]) ∧ Below w.heap.size w w' := by
  have h := tweight_any (lineD sg n) A cap i ((n : Int) - 1) w hM
  have e : treeErr (lineD sg n) [i, (n : Int) - 1] = 1 := by
    rw [treeErr_two (line_right h1 h2 hn hn').1, if_pos]
    show i < 0 ∨ (n : Int) ≤ i ∨ (n : Int) - 1 < 0 ∨ (n : Int) ≤ (n : Int) - 1
    omega
  have f : wErr (lineD sg n) i ((n : Int) - 1) = 1 := by rw [wErr_bad (by rw [e]; decide), e]
  rw [wVal_bad (by rw [f]; decide), f, errV_some (by decide)] at h
  exact h

set_option maxHeartbeats 8000000 in
theorem tline_core (n : Nat) (i sg : Int) (w : World) (hn1 : 1 ≤ n) (hn2 : n ≤ 12) (hs1 : -1 ≤ sg) (hs2 : sg ≤ 1) (hk0 : Kind0 w) :
    Calls Tryd.prog 4 #[.int .i64 n, .int .i64 i, .int .i64 sg] w fun e w' => e = .returned (.bool true) ∧ Below w.heap.size w w' := by
  obtain ⟨i0, hi0, hz0, hz1, hz2⟩ := info_parts Tryd.infoMem
  have HK : Hid (Kind0 w) := hk0
  have h1n : (1 : Int) ≤ (n : Int) := by omega
  have h2n : (n : Int) ≤ 12 := by omega
  have hb1 : decide ((n : Int) < 1) = false := decide_eq_false (by omega)
  have hb2 : decide ((12 : Int) < (n : Int)) = false := decide_eq_false (by omega)
  have hb3 : decide (sg < -1) = false := decide_eq_false (by omega)
  have hb4 : decide (1 < sg) = false := decide_eq_false (by omega)
  have HL0 : Hid (LineAt w sg 0 (.slice none 0 0) (Line0 w 24)) := line_start w 24 sg
  clear hk0
  go_enter Tryd.func4, Tryd.ntmps4
  go_wp2_with fail
  go_loopg [8] n (fun g s8 wr => ∃ (k : Nat) (v : Value), k ≤ n ∧ g = n - k ∧ s8 = .int .i64 k ∧ LineAt w sg k v wr)
  case atStart => exact ⟨0, .slice none 0 0, Nat.zero_le _, rfl, rfl, HL0.out⟩
  case round =>
    obtain ⟨k, v, hk, rfl, rfl, hrel⟩ := hrel
    have HR : Hid (LineAt w sg k v wr) := hrel
    by_cases hlt : k < n
    · have hki : (k : Int) < (n : Int) := by omega
      obtain ⟨hown, ⟨c0, c1, c2, c3⟩, hB, hsz⟩ := hrel
      have hqr : w.heap.size < wr.heap.size := by omega
      have HO : Hid (wr.ownsRow (w.heap.size + 1) 31 4 v k (cellsL sg k)) := hown
      have HC : Hid (∀ w', Below wr.heap.size wr w' → w'.cell? ⟨w.heap.size, 2, none⟩ = some v ∧ w'.frozen? ⟨w.heap.size, 2, none⟩ = false) := fun w' hw' => ⟨(hw'.cell (p := ⟨w.heap.size, 2, none⟩) hqr).trans c2, (hw'.frozen (p := ⟨w.heap.size, 2, none⟩) hqr).trans c3⟩
      have HLt : Hid (∀ w', Calls Tryd.prog 18 #[.int .i64 k] w' fun e w'' => e = .returned (.string (lett k)) ∧ Below w'.heap.size w' w'') := fun w' => letters_any k w' (by omega)
      have hwk : IntKind.i64.wrap ((k : Int) - 1) = (k : Int) - 1 := IntWalk.i64_in _ (by omega)
      have HNE : Hid (some w.heap.size ≠ v.ownBlock) := fun e => by have := (hown.lt _ e.symm).1; omega
      clear hB hown
      go_wp2_with fail
      go_region_law ((first
          | (refine step_append_lies _ (by rfl) _ _ _ (by rfl) (w.heap.size + 1) 31 i0 _ 4 48 Tryd.underlying22 hi0 hz0 hz1 hz2 rfl (by omega) v k (cellsL sg k) (by rfl) (own_later HO.out (by go_grown)) ⟨w4.heap.size, 0, none⟩ 1 1 [.string (lett k), .int .i64 ((k : Int) - 1), .int .i64 sg, .string ⟨#[]⟩] (by rfl) (by rfl) (World.news_of_block (cs := #[.string (lett k), .int .i64 ((k : Int) - 1), .int .i64 sg, .string ⟨#[]⟩]) (t := 31) (fr := (0, 0)) (heap_alloc_new w4 _)) (by simp [Value.oneCell']) (by omega) (by unfold maxLen; omega) (by omega) (by simp; omega) (w4.heap.size + 1) (by simp) ?_; intro gg cg w6 hown6 hgrow hat hlt6; have y1 := (hgrow.cell_far ⟨w.heap.size, 2, none⟩ (by simp; omega) HNE.out).trans (HC.out _ (by go_grown)).1; have y2 := (hgrow.frozen_far ⟨w.heap.size, 2, none⟩ (by simp; omega) HNE.out).trans (HC.out _ (by go_grown)).2)
          | (go_simp; refine (HLt.out _).mono ?_; rintro e w4 ⟨rfl, hb4⟩; have hN4 := onB (W0 := wr) (by go_grown) hb4; have hs4 := hN4.size; obtain ⟨x1, x2⟩ := HC.out _ hN4; have hq4 : w.heap.size < w4.heap.size := Nat.lt_of_lt_of_le hqr hs4; clear hb4)))
      all_goals (have HS := line_step HR.out (by go_grown) hown6 hgrow)
      all_goals clear hown6 hgrow
      all_goals go_wp2_with fail
      all_goals go_roundg (n - (k + 1))
      all_goals first | omega | exact ⟨k + 1, _, by omega, rfl, by go_num, HS⟩
    · have hke : n = k := by omega
      subst hke
      obtain ⟨hown, ⟨c0, c1, c2, c3⟩, hB, hsz⟩ := hrel
      obtain ⟨A, cap, rfl, hM⟩ := line_mems hown
      obtain ⟨w1, rfl⟩ : ∃ w1 : World, w1 = wr := ⟨_, rfl⟩
      have HX1 : Hid (LineK w.heap.size n sg A cap w1) := ⟨by omega, ⟨c0, c1, c2⟩, hM, HK.out.later hB⟩
      have HB1 : Hid (Below w.heap.size w w1) := hB
      clear hown hM hB hsz c3 HR
      by_cases hio : i < 0 ∨ (n : Int) ≤ i
      · have hq1 := lpath_out hs1 hs2 hn1 hn2 hio HX1.out.2.2.1
        go_wp2_with fail
        refine hq1.mono ?_
        rintro e w2 ⟨⟨A1, k1, rfl⟩, hb⟩
        have HX2 : Hid (LineK w.heap.size n sg A cap w2) := HX1.out.later hb
        have HB2 : Hid (Below w.heap.size w w2) := onB HB1.out hb
        clear c0 c1 c2 hb hq1
        obtain ⟨c0, c1, c2⟩ := HX2.out.2.1
        have hq2 := lleafs_out hs1 hs2 hn1 hn2 hio HX2.out.2.2.1
        go_wp2_with fail
        refine hq2.mono ?_
        rintro e w3 ⟨⟨A2, k2, rfl⟩, hb⟩
        have HX3 : Hid (LineK w.heap.size n sg A cap w3) := HX2.out.later hb
        have HB3 : Hid (Below w.heap.size w w3) := onB HB2.out hb
        clear c0 c1 c2 hb hq2
        obtain ⟨c0, c1, c2⟩ := HX3.out.2.1
        have hq3 := lweight_out hs1 hs2 hn1 hn2 hio HX3.out.2.2.1
        go_wp2_with fail
        refine hq3.mono ?_
        rintro e w4 ⟨rfl, hb⟩
        have HX4 : Hid (LineK w.heap.size n sg A cap w4) := HX3.out.later hb
        have HB4 : Hid (Below w.heap.size w w4) := onB HB3.out hb
        clear c0 c1 c2 hb hq3
        obtain ⟨c0, c1, c2⟩ := HX4.out.2.1
        have hq4 := ldepth_in hs1 hs2 hn1 hn2 HX4.out.2.2.1
        go_wp2_with fail
        refine hq4.mono ?_
        rintro e w5 ⟨rfl, hb⟩
        have HX5 : Hid (LineK w.heap.size n sg A cap w5) := HX4.out.later hb
        have HB5 : Hid (Below w.heap.size w w5) := onB HB4.out hb
        clear c0 c1 c2 hb hq4
        obtain ⟨c0, c1, c2⟩ := HX5.out.2.1
        have hsm := same_hit 1 1 w5 HX5.out.2.2.2
        by_cases hi0 : i < 0
        · go_wp2_with fail
          refine hsm.mono ?_
          rintro e w6 ⟨rfl, hb⟩
          clear c0 c1 c2
          go_wp2_with fail
          go_ret
          exact ⟨rfl, onB HB5.out hb⟩
        · have hi1 : (n : Int) ≤ i := by omega
          go_wp2_with fail
          refine hsm.mono ?_
          rintro e w6 ⟨rfl, hb⟩
          clear c0 c1 c2
          go_wp2_with fail
          go_ret
          exact ⟨rfl, onB HB5.out hb⟩
      · obtain ⟨I, rfl⟩ : ∃ I : Nat, i = I := ⟨i.toNat, by omega⟩
        have hI : I < n := by omega
        have hIi : (I : Int) < (n : Int) := by omega
        have hb5 : decide ((I : Int) < 0) = false := decide_eq_false (by omega)
        have hb6 : decide (n ≤ I) = false := decide_eq_false (by omega)
        have hq1 := lpath_in hs1 hs2 hI hn2 HX1.out.2.2.1
        go_wp2_with fail
        refine hq1.mono ?_
        rintro e w2 ⟨⟨A1, k1, rfl⟩, hb⟩
        have HX2 : Hid (LineK w.heap.size n sg A cap w2) := HX1.out.later hb
        have HB2 : Hid (Below w.heap.size w w2) := onB HB1.out hb
        clear c0 c1 c2 hb hq1
        obtain ⟨c0, c1, c2⟩ := HX2.out.2.1
        have hq2 := lleafs_in hs1 hs2 hI hn2 HX2.out.2.2.1
        go_wp2_with fail
        refine hq2.mono ?_
        rintro e w3 ⟨⟨b2, k2, rfl, hb2, z0⟩, hb⟩
        have HX3 : Hid (LineK w.heap.size n sg A cap w3) := HX2.out.later hb
        have HB3 : Hid (Below w.heap.size w w3) := onB HB2.out hb
        have Z3 : Hid (b2 < w3.heap.size ∧ w3.cell? ⟨b2, 0, none⟩ = some (.int .i64 ((n : Int) - 1))) := ⟨hb2, z0⟩
        clear hb2 z0
        clear c0 c1 c2 hb hq2
        obtain ⟨c0, c1, c2⟩ := HX3.out.2.1
        have hq3 := lweight_in hs1 hs2 hI hn2 HX3.out.2.2.1
        go_wp2_with fail
        refine hq3.mono ?_
        rintro e w4 ⟨rfl, hb⟩
        have HX4 : Hid (LineK w.heap.size n sg A cap w4) := HX3.out.later hb
        have HB4 : Hid (Below w.heap.size w w4) := onB HB3.out hb
        have Z4 : Hid (b2 < w4.heap.size ∧ w4.cell? ⟨b2, 0, none⟩ = some (.int .i64 ((n : Int) - 1))) := ⟨Nat.lt_of_lt_of_le Z3.out.1 hb.size, (hb.cell (p := ⟨b2, 0, none⟩) Z3.out.1).trans Z3.out.2⟩
        clear c0 c1 c2 hb hq3
        obtain ⟨c0, c1, c2⟩ := HX4.out.2.1
        have hq4 := ldepth_in hs1 hs2 hn1 hn2 HX4.out.2.2.1
        go_wp2_with fail
        refine hq4.mono ?_
        rintro e w5 ⟨rfl, hb⟩
        have HX5 : Hid (LineK w.heap.size n sg A cap w5) := HX4.out.later hb
        have HB5 : Hid (Below w.heap.size w w5) := onB HB4.out hb
        have Z5 : Hid (b2 < w5.heap.size ∧ w5.cell? ⟨b2, 0, none⟩ = some (.int .i64 ((n : Int) - 1))) := ⟨Nat.lt_of_lt_of_le Z4.out.1 hb.size, (hb.cell (p := ⟨b2, 0, none⟩) Z4.out.1).trans Z4.out.2⟩
        clear c0 c1 c2 hb hq4
        obtain ⟨c0, c1, c2⟩ := HX5.out.2.1
        obtain ⟨tt, htt⟩ : ∃ x, n - 1 - I = x := ⟨_, rfl⟩
        have HTT : Hid (n - 1 - I = tt) := htt
        rw [htt]
        clear c0 c1 c2 htt hio
        go_wp2_with fail
        go_loopg [17, 18] tt (fun g s17 s18 wr => ∃ (t : Nat), t ≤ tt ∧ g = tt - t ∧ s18 = .int .i64 ((I + t : Nat) : Int) ∧ s17 = .int .i64 (pw sg t) ∧ wr = w5)
        case atStart => exact ⟨0, Nat.zero_le _, rfl, rfl, rfl, rfl⟩
        case round =>
          obtain ⟨t, ht, rfl, rfl, rfl, rfl⟩ := hrel
          have HP : Hid (-1 ≤ pw sg t ∧ pw sg t ≤ 1) := pw_small hs1 hs2 t
          by_cases hltt : t < tt
          · have hx := HTT.out
            have hti : ((I + t : Nat) : Int) < (n : Int) - 1 := by omega
            have hmul := small_mul HP.out ⟨hs1, hs2⟩
            have hml1 := hmul.1
            have hml2 := hmul.2
            clear hmul
            go_wp2_with fail
            go_roundg (tt - (t + 1))
            case measure => omega
            case rel => exact ⟨t + 1, by omega, rfl, by go_num, by first | rfl | (unfold pw; rfl), rfl⟩
          · have hte : tt = t := by omega
            subst hte
            have hx := HTT.out
            have hti : (n : Int) - 1 ≤ ((I + tt : Nat) : Int) := by omega
            obtain ⟨z1, z2⟩ := Z5.out
            clear hx
            go_wp2_with fail
            go_ret
            exact ⟨by first | rfl | simp, HB5.out⟩

theorem tline_any (n i sg : Int) (w : World) (hk : Kind0 w) :
    Calls Tryd.prog 4 #[.int .i64 n, .int .i64 i, .int .i64 sg] w fun e w' => e = .returned (.bool true) ∧ Below w.heap.size w w' := by
  by_cases h1 : n < 1
  · go_enter Tryd.func4, Tryd.ntmps4
    go_wp2_with fail
    go_ret
    exact ⟨rfl, Below.refl _ _⟩
  · by_cases h2 : 12 < n
    · go_enter Tryd.func4, Tryd.ntmps4
      go_wp2_with fail
      go_ret
      exact ⟨rfl, Below.refl _ _⟩
    · by_cases h3 : sg < -1
      · go_enter Tryd.func4, Tryd.ntmps4
        go_wp2_with fail
        go_ret
        exact ⟨rfl, Below.refl _ _⟩
      · by_cases h4 : 1 < sg
        · go_enter Tryd.func4, Tryd.ntmps4
          go_wp2_with fail
          go_ret
          exact ⟨rfl, Below.refl _ _⟩
        · obtain ⟨N, rfl⟩ : ∃ N : Nat, n = N := ⟨n.toNat, by omega⟩
          exact tline_core N i sg w (by omega) (by omega) (by omega) (by omega) hk
end Go.Proofs.YtiaogjjhpnjhiabDoor
