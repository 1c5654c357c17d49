/-
  What comes of parts, each by its sign: what together of package fold answers, called in whatever memory, and the question that foldMember hands it.
-/
import Derived.Test.YtmjcnlpjnbcfjadGreatDoorFold2
import Derived.Test.YtmjcnlpjnbcfjadGreatDoorOwn1
import Derived.Deep.RegionLaw
import Derived.Deep.RegionHeld3
import Derived.Deep.DeepCutAuto
namespace Go.Proofs.YtmjcnlpjnbcfjadGreatDoor
open Go.ChangeShapes Go.WideShapes Go.ChangeAt Go.RowKit
set_option maxRecDepth 20000

theorem fm1_in : EntersO 51 := fun args w => by simp [callFunc, Tryz.func51]; rfl
set_option maxHeartbeats 2000000 in
theorem fm1_any (q1 q2 q3 q4 g c : Nat) (L : List (Int × Int)) (x m s : Nat) (k : Int) (y : Nat) (w : World) (hLc : L.length ≤ c) (hc : c ≤ 9223372036854775807) (hx : x < L.length) (hy : (x : Int) + (k - (m : Int)) * (s : Int) = y) (hyL : y < L.length) (hk : 0 ≤ k ∧ k ≤ 12) (hm : m ≤ 12)
    (c1 : w.cell? ⟨q1, 0, none⟩ = some (.slice (some ⟨g, 0, none⟩) L.length c)) (c2 : w.cell? ⟨q2, 0, none⟩ = some (.int .i64 x)) (c3 : w.cell? ⟨q3, 0, none⟩ = some (.int .i64 m)) (c4 : w.cell? ⟨q4, 0, none⟩ = some (.int .i64 s)) (hB : CelB w g L) :
    Calls Tryz.prog 51 #[.int .i64 k, .pointer (some ⟨q1, 0, none⟩), .pointer (some ⟨q2, 0, none⟩), .pointer (some ⟨q3, 0, none⟩), .pointer (some ⟨q4, 0, none⟩)] w fun e w' => e = .returned (.agg #[.int .i64 (L.getD y noC).1, .int .i64 (L.getD y noC).2]) ∧ Below w.heap.size w w' := by
  have hmul1 : (k - (m : Int)) * (s : Int) = (y : Int) - (x : Int) := by omega
  have hw1 : IntKind.i64.wrap (k - (m : Int)) = k - (m : Int) := IntWalk.i64_in _ (by omega)
  have hw2 : IntKind.i64.wrap ((k - (m : Int)) * (s : Int)) = (y : Int) - (x : Int) := by rw [hmul1]; exact IntWalk.i64_in _ (by omega)
  have hw3 : IntKind.i64.wrap ((x : Int) + ((y : Int) - (x : Int))) = y := by rw [show (x : Int) + ((y : Int) - (x : Int)) = y by omega]; exact IntWalk.i64_in _ (by omega)
  obtain ⟨y1, y2⟩ := hB.at hyL
  have hgl := hB.lt
  have z1 := World.block_lt_of_cell? _ _ c1
  have z2 := World.block_lt_of_cell? _ _ c2
  have z3 := World.block_lt_of_cell? _ _ c3
  have z4 := World.block_lt_of_cell? _ _ c4
  have d1 : (w.alloc (.cells #[.int .i64 0, .int .i64 0] 42)).cell? ⟨q1, 0, none⟩ = some (.slice (some ⟨g, 0, none⟩) L.length c) := by rw [World.cell?_alloc_lt _ _ ⟨q1, 0, none⟩ z1]; exact c1
  have hyl : (y : Int) < (L.length : Int) := by omega
  generalize (L.getD y noC).1 = a at y1
  generalize (L.getD y noC).2 = b at y2
  generalize L.length = N at c1 d1 hLc hyl
  clear hB hx hyL hy hmul1
  go_enter Tryz.func51, Tryz.ntmps51
  go_wp2_with fail
  refine bodyPost_ret (v := .agg #[.int .i64 a, .int .i64 b]) (by simp [results, Tryz.results51, go_sem]) rfl ⟨rfl, by go_grown⟩

/-- what stands at each of the parts is told -/
def AskC (q1 q2 q3 q4 : Nat) (w : World) (P : List Int) (at' : Int → Int × Int) : Prop := ∀ k, k ∈ P → ∀ (w' : World), Below w.heap.size w w' → Calls Tryz.prog 51 #[.int .i64 k, .pointer (some ⟨q1, 0, none⟩), .pointer (some ⟨q2, 0, none⟩), .pointer (some ⟨q3, 0, none⟩), .pointer (some ⟨q4, 0, none⟩)] w' fun e w'' => e = .returned (.agg #[.int .i64 (at' k).1, .int .i64 (at' k).2]) ∧ Below w'.heap.size w' w''
/-- a dim in a box, and two cells -/
def togW (w : World) (d : Dm) (A : Option Addr) (c : Nat) : World := ((ownDim w d A c 62).alloc (.cells #[.int .i64 0, .int .i64 0] 42)).alloc (.cells #[.int .i64 0, .int .i64 0] 42)
theorem togW_size (w : World) (d : Dm) (A : Option Addr) (c : Nat) : (togW w d A c).heap.size = w.heap.size + 3 := by unfold togW; simp [ownDim_size]
theorem togW_below (w : World) (d : Dm) (A : Option Addr) (c : Nat) : Below w.heap.size w (togW w d A c) := by unfold togW ownDim; go_grown
theorem togW_d (w : World) (d : Dm) (A : Option Addr) (c : Nat) : (togW w d A c).cell? ⟨w.heap.size, 2, none⟩ = some (.slice A d.n c) := by
  unfold togW
  rw [World.cell?_alloc_lt _ _ ⟨w.heap.size, 2, none⟩ (by simp [ownDim_size] <;> omega), World.cell?_alloc_lt _ _ ⟨w.heap.size, 2, none⟩ (by simp [ownDim_size])]
  exact (ownDim_at ..).2.2
theorem togW_1 (w : World) (d : Dm) (A : Option Addr) (c : Nat) : (togW w d A c).heap[w.heap.size + 1]? = some (.cells #[.int .i64 0, .int .i64 0] 42) := by
  unfold togW
  rw [Below.heap_alloc _ _ _ (by simp [ownDim_size])]
  have h := heap_alloc_new (ownDim w d A c 62) (.cells #[.int .i64 0, .int .i64 0] 42)
  rw [ownDim_size] at h
  exact h
theorem togW_2 (w : World) (d : Dm) (A : Option Addr) (c : Nat) : (togW w d A c).heap[w.heap.size + 2]? = some (.cells #[.int .i64 0, .int .i64 0] 42) := by
  have h := heap_alloc_new ((ownDim w d A c 62).alloc (.cells #[.int .i64 0, .int .i64 0] 42)) (.cells #[.int .i64 0, .int .i64 0] 42)
  rw [show ((ownDim w d A c 62).alloc (.cells #[.int .i64 0, .int .i64 0] 42)).heap.size = w.heap.size + 2 by simp [ownDim_size]] at h
  exact h
theorem pair_set {w : World} {q : Nat} {x y a b : Value} {T : Nat} (h : w.heap[q]? = some (.cells #[x, y] T)) : ((w.setCell ⟨q, 0, none⟩ a).setCell ⟨q, 1, none⟩ b).heap[q]? = some (.cells #[a, b] T) := by
  simp [World.setCell, Array.getElem?_modify, h]
theorem pair_grown {w w' : World} {q : Nat} {a b : Value} (h : w.grownBy w' (some q)) : w.grownBy ((w'.setCell ⟨q, 0, none⟩ a).setCell ⟨q, 1, none⟩ b) (some q) :=
  ⟨h.os, h.tape, h.output, by simpa [World.setCell] using h.size, fun i hi hr => (Below.heap_setCell _ ⟨q, 1, none⟩ b i fun e => hr (by rw [e])).trans ((Below.heap_setCell w' ⟨q, 0, none⟩ a i fun e => hr (by rw [e])).trans (h.block i hi hr))⟩
theorem grown_then {w w1 w2 : World} {r : Option Nat} (h : w.grownBy w1 r) (k : Below w1.heap.size w1 w2) : w.grownBy w2 r :=
  ⟨k.os.trans h.os, k.tape.trans h.tape, k.output.trans h.output, Nat.le_trans h.size k.size, fun i hi hr => (k.block i (Nat.lt_of_lt_of_le hi h.size)).trans (h.block i hi hr)⟩
theorem pair_at {w : World} {q : Nat} {x y : Value} {T : Nat} (h : w.heap[q]? = some (.cells #[x, y] T)) : w.cell? ⟨q, 0, none⟩ = some x ∧ w.cell? ⟨q, 1, none⟩ = some y ∧ w.frozen? ⟨q, 0, none⟩ = false ∧ w.frozen? ⟨q, 1, none⟩ = false :=
  ⟨by rw [Lib.cell_of_heap h]; rfl, by rw [Lib.cell_of_heap h]; rfl, Lib.frozen_of_heap h 0, Lib.frozen_of_heap h 1⟩
theorem take_part {M : Nat → Mem} {at' : Int → Int × Int} {P : List Int} {k : Nat} (h : k < P.length) : (P.take (k + 1)).foldl (partStep M at') (0, 0) = partStep M at' ((P.take k).foldl (partStep M at') (0, 0)) (P.getD k 0) := by
  rw [List.take_succ_eq_append_getElem h, List.foldl_append, List.getD_eq_getElem?_getD, List.getElem?_eq_getElem h]
  rfl

set_option maxHeartbeats 8000000 in
theorem tog_any (q1 q2 q3 q4 bm om c : Nat) (d : Dm) (AP : Option Addr) (cP : Nat) (P : List Int) (at' : Int → Int × Int) (w : World) (hd12 : d.n ≤ 12) (hP12 : P.length ≤ 12) (hIn : ∀ k ∈ P, ∃ j : Nat, k = j ∧ j < d.n) (hSg : Sg d.mem d.n) (hG : ∀ k ∈ P, goodC (at' k)) (hMm : MemsAt w bm om d.n d.mem) (hP : IntsAt w AP cP P) (hA : AskC q1 q2 q3 q4 w P at') :
    Calls Tryz.prog 50 #[dimV d (some ⟨bm, om, none⟩) c, .slice AP P.length cP, .func (.func 51) #[] #[.pointer (some ⟨q1, 0, none⟩), .pointer (some ⟨q2, 0, none⟩), .pointer (some ⟨q3, 0, none⟩), .pointer (some ⟨q4, 0, none⟩)]] w fun e w' => e = .returned (.tuple #[.agg #[.int .i64 (partsV d.mem at' P).1, .int .i64 (partsV d.mem at' P).2], .nilIface]) ∧ Below w.heap.size w w' := by
  have HIn : Hid (∀ k ∈ P, ∃ j : Nat, k = j ∧ j < d.n) := hIn
  have HSg : Hid (Sg d.mem d.n) := hSg
  have HG : Hid (∀ k ∈ P, goodC (at' k)) := hG
  have HMm : Hid (MemsAt w bm om d.n d.mem) := hMm
  have HP : Hid (IntsAt w AP cP P) := hP
  have HA : Hid (AskC q1 q2 q3 q4 w P at') := hA
  have HB0 : Hid (Below w.heap.size w (togW w d (some ⟨bm, om, none⟩) c)) := togW_below ..
  have HW0 : Hid ((togW w d (some ⟨bm, om, none⟩) c).cell? ⟨w.heap.size, 2, none⟩ = some (.slice (some ⟨bm, om, none⟩) d.n c) ∧ (togW w d (some ⟨bm, om, none⟩) c).heap[w.heap.size + 1]? = some (.cells #[.int .i64 0, .int .i64 0] 42) ∧ (togW w d (some ⟨bm, om, none⟩) c).heap.size = w.heap.size + 3) := ⟨togW_d .., togW_1 .., togW_size ..⟩
  have HFin : Hid ((P.take P.length).foldl (partStep d.mem at') (0, 0) = partsV d.mem at' P) := by show _ = _; rw [List.take_length]; rfl
  obtain ⟨N, hN⟩ : ∃ N, P.length = N := ⟨_, rfl⟩
  have HN : Hid (P.length = N) := hN
  rw [hN] at HFin hP12 ⊢
  generalize partsV d.mem at' P = V at HFin
  have hN' : (N : Int) ≤ 12 := by omega
  have hd12' : (d.n : Int) ≤ 12 := by omega
  unfold dimV
  clear hIn hSg hG hMm hP hA hN
  go_enter Tryz.func50, Tryz.ntmps50
  go_wp2_with fail
  go_loopg [9, 15] N (fun g s9 s15 wr => ∃ (k : Nat) (a b : Int), k ≤ N ∧ g = N - k ∧ s15 = .int .i64 k ∧ s9 = .nilIface ∧ Hid ((P.take k).foldl (partStep d.mem at') (0, 0) = (a, b)) ∧ Hid (wr.heap[w.heap.size + 2]? = some (.cells #[.int .i64 a, .int .i64 b] 42)) ∧ Hid ((togW w d (some ⟨bm, om, none⟩) c).grownBy wr (some (w.heap.size + 2))))
  case atStart => exact ⟨0, 0, 0, Nat.zero_le _, rfl, rfl, rfl, (rfl : (P.take 0).foldl (partStep d.mem at') (0, 0) = (0, 0)), togW_2 w d (some ⟨bm, om, none⟩) c, (grown_refl _ _ : (togW w d (some ⟨bm, om, none⟩) c).grownBy (togW w d (some ⟨bm, om, none⟩) c) (some (w.heap.size + 2)))⟩
  case round =>
    obtain ⟨k, a, b, hk, rfl, rfl, rfl, HF, HC, HGr⟩ := hrel
    have hB : Below w.heap.size w wr := HB0.out.grown HGr.out (by rw [HW0.out.2.2]; omega) (fun j hj => by cases hj; omega)
    have HBw : Hid (Below w.heap.size w wr) := hB
    have hzr : w.heap.size + 2 < wr.heap.size := by have := HGr.out.size; rw [HW0.out.2.2] at this; omega
    by_cases hlt : k < N
    · have hkP : k < P.length := by rw [HN.out]; exact hlt
      have hki : (k : Int) < (N : Int) := by omega
      obtain ⟨hcP, h0 | ⟨bp, rfl, hbp, hcell⟩⟩ := HP.out.later hB
      · have := HN.out; rw [h0] at this; simp at this; omega
      rw [HN.out] at hcP
      have cP1 := hcell k hkP
      have hmem : P.getD k 0 ∈ P := by rw [List.getD_eq_getElem?_getD, List.getElem?_eq_getElem hkP]; exact List.getElem_mem hkP
      obtain ⟨j, hj, hjn⟩ := HIn.out _ hmem
      have hgd := HG.out _ hmem
      have HAt : Hid (∀ w', Below wr.heap.size wr w' → _) := fun w' hw' => HA.out _ hmem w' (onB HBw.out hw')
      have HSt := take_part (M := d.mem) (at' := at') hkP
      rw [HF.out] at HSt
      rw [hj] at HAt HSt hgd cP1
      have hgab : goodC (a, b) := by rw [← HF.out]; exact good_fold _ _ _ _ good_zero
      unfold partStep at HSt
      rw [show ((j : Int)).toNat = j by omega] at HSt
      simp only at HSt
      obtain ⟨-, -, m2, -⟩ := (HMm.out.later hB).2 j hjn
      have hsg := HSg.out j hjn
      have cD : wr.cell? ⟨w.heap.size, 2, none⟩ = some (.slice (some ⟨bm, om, none⟩) d.n c) := (World.cell?_of_block (a := ⟨w.heap.size, 2, none⟩) (HGr.out.block w.heap.size (by rw [HW0.out.2.2]; omega) (fun e => by simp at e))).trans HW0.out.1
      obtain ⟨s0, s1, f0, f1⟩ := pair_at HC.out
      have hji : (j : Int) < (d.n : Int) := by omega
      have hADD := fun w' => add_yes a b (at' (j : Int)).1 (at' (j : Int)).2 hgab hgd w'
      have hSUB := fun w' => sub_yes a b (at' (j : Int)).1 (at' (j : Int)).2 hgab hgd w'
      generalize (at' (j : Int)).1 = x at HAt HSt hADD hSUB
      generalize (at' (j : Int)).2 = y at HAt HSt hADD hSUB
      generalize (d.mem j).sign = sg at m2 HSt hsg
      have HKeep : Hid (∀ w', Below wr.heap.size wr w' → w'.cell? ⟨w.heap.size + 2, 0, none⟩ = some (.int .i64 a) ∧ w'.cell? ⟨w.heap.size + 2, 1, none⟩ = some (.int .i64 b) ∧ w'.frozen? ⟨w.heap.size + 2, 0, none⟩ = false ∧ w'.frozen? ⟨w.heap.size + 2, 1, none⟩ = false) := fun w' hw' => pair_at ((hw'.block _ hzr).trans HC.out)
      clear hB hj hgd hgab hmem hcell
      by_cases hs1 : sg = 1
      · subst hs1
        rw [if_pos rfl] at HSt
        obtain ⟨r1, hr1⟩ : ∃ r, plusP a b x y = r := ⟨_, rfl⟩
        obtain ⟨rk, rn⟩ := r1
        rw [hr1] at HSt hADD
        simp only at hADD
        have HNx : Hid ((P.take (k + 1)).foldl (partStep d.mem at') (0, 0) = (rk, rn)) := HSt
        have HADD : Hid (∀ w', Calls Tryz.prog 70 #[.agg #[.int .i64 a, .int .i64 b], .agg #[.int .i64 x, .int .i64 y]] w' fun e w'' => e = .returned (.tuple #[.agg #[.int .i64 rk, .int .i64 rn], .nilIface]) ∧ Below w'.heap.size w' w'') := hADD
        clear hADD hSUB HSt hr1 hsg
        go_wp2_with fail
        go_region_law ((first
          | (go_simp; refine (HAt.out _ (by go_grown)).mono ?_; rintro e w3 ⟨rfl, hb3⟩; have hN3 := onB (W0 := wr) (by go_grown) hb3; obtain ⟨l0, l1, l2, l3⟩ := HKeep.out _ hN3; clear hb3)
          | (go_simp; refine (HADD.out _).mono ?_; rintro e w4 ⟨rfl, hb4⟩; have hN4 := onB (W0 := wr) (by go_grown) hb4; obtain ⟨n0, n1, n2, n3⟩ := HKeep.out _ hN4; have HN4 : Hid (Below wr.heap.size wr _) := hN4; clear hb4)))
        all_goals clear hN3 hN4
        all_goals go_wp2_with fail
        all_goals go_roundg (N - (k + 1))
        all_goals first
          | omega
          | exact ⟨k + 1, rk, rn, by omega, rfl, by go_num, rfl, HNx, pair_set ((HN4.out.block _ hzr).trans HC.out), pair_grown (grown_then HGr.out HN4.out)⟩
          | exact ⟨k + 1, rk, rn, by omega, rfl, by go_num, rfl, HNx, pair_set ((HN4.out.block _ hzr).trans HC.out), grown_drew (pair_grown (grown_then HGr.out HN4.out))⟩
      by_cases hs2 : sg = -1
      · subst hs2
        rw [if_neg (by decide), if_pos rfl] at HSt
        obtain ⟨r1, hr1⟩ : ∃ r, minusP a b x y = r := ⟨_, rfl⟩
        obtain ⟨rk, rn⟩ := r1
        rw [hr1] at HSt hSUB
        simp only at hSUB
        have HNx : Hid ((P.take (k + 1)).foldl (partStep d.mem at') (0, 0) = (rk, rn)) := HSt
        have HSUB : Hid (∀ w', Calls Tryz.prog 71 #[.agg #[.int .i64 a, .int .i64 b], .agg #[.int .i64 x, .int .i64 y]] w' fun e w'' => e = .returned (.tuple #[.agg #[.int .i64 rk, .int .i64 rn], .nilIface]) ∧ Below w'.heap.size w' w'') := hSUB
        clear hADD hSUB HSt hr1 hsg hs1
        go_wp2_with fail
        go_region_law ((first
          | (go_simp; refine (HAt.out _ (by go_grown)).mono ?_; rintro e w3 ⟨rfl, hb3⟩; have hN3 := onB (W0 := wr) (by go_grown) hb3; obtain ⟨l0, l1, l2, l3⟩ := HKeep.out _ hN3; clear hb3)
          | (go_simp; refine (HSUB.out _).mono ?_; rintro e w4 ⟨rfl, hb4⟩; have hN4 := onB (W0 := wr) (by go_grown) hb4; obtain ⟨n0, n1, n2, n3⟩ := HKeep.out _ hN4; have HN4 : Hid (Below wr.heap.size wr _) := hN4; clear hb4)))
        all_goals clear hN3 hN4
        all_goals go_wp2_with fail
        all_goals go_roundg (N - (k + 1))
        all_goals first
          | omega
          | exact ⟨k + 1, rk, rn, by omega, rfl, by go_num, rfl, HNx, pair_set ((HN4.out.block _ hzr).trans HC.out), pair_grown (grown_then HGr.out HN4.out)⟩
          | exact ⟨k + 1, rk, rn, by omega, rfl, by go_num, rfl, HNx, pair_set ((HN4.out.block _ hzr).trans HC.out), grown_drew (pair_grown (grown_then HGr.out HN4.out))⟩
      · have hs0 : sg = 0 := by omega
        subst hs0
        rw [if_neg (by decide), if_neg (by decide)] at HSt
        have HNx : Hid ((P.take (k + 1)).foldl (partStep d.mem at') (0, 0) = (a, b)) := HSt
        clear hADD hSUB HSt hsg hs1 hs2
        go_wp2_with fail
        go_roundg (N - (k + 1))
        case measure => omega
        case rel => exact ⟨k + 1, a, b, by omega, rfl, by go_num, rfl, HNx, HC, HGr⟩
    · have hke : k = N := by omega
      subst hke
      have HV : Hid (V = (a, b)) := by show _ = _; rw [← HFin.out]; exact HF.out
      obtain ⟨s0, s1, f0, f1⟩ := pair_at HC.out
      have k1 : wr.heap[w.heap.size + 1]? = some (.cells #[.int .i64 0, .int .i64 0] 42) := (HGr.out.block (w.heap.size + 1) (by rw [HW0.out.2.2]; omega) (fun e => by simp at e)).trans HW0.out.2.1
      obtain ⟨e0, e1, g0, g1⟩ := pair_at k1
      clear hB k1
      go_wp2_with fail
      refine bodyPost_ret (v := .tuple #[.agg #[.int .i64 a, .int .i64 b], .nilIface]) (by simp [results, Tryz.results50, go_sem, e0, e1]) rfl ⟨by rw [HV.out], ?_⟩
      exact (HBw.out.setCell (by show w.heap.size ≤ w.heap.size + 1; omega) _).setCell (by show w.heap.size ≤ w.heap.size + 1; omega) _
end Go.Proofs.YtmjcnlpjnbcfjadGreatDoor
