/-
  The walk of tallylaw4.RollCorner: what comes of the whole of a square is the sum of what is written in it, by rows as by columns.
-/
import Derived.Test.YtfngmnhkhfgmjadJRBM
namespace Go.Proofs.Ytfngmnhkhfgmjad
open Go.ChangeShapes Go.WideShapes Go.ChangeAt Go.RowKit
set_option maxRecDepth 20000
theorem two_news {W : World} {o : Obj} {x y z : Value} {T : Nat} : ∀ j u, [x, y, z][j]? = some u → ((W.alloc o).alloc (.cells #[x, y, z] T)).cell? ((⟨W.heap.size + 1, 0, none⟩ : Addr).add j) = some u := by
 intro j u hj
 have h := heap_alloc_new (W.alloc o) (.cells #[x, y, z] T)
 rw [show (W.alloc o).heap.size = W.heap.size + 1 by simp] at h
 rw [plain_add, Lib.cell_of_heap h]
 simpa using hj
theorem two_first {W : World} {o o' : Obj} : ((W.alloc o).alloc o').heap[W.heap.size]? = some o := by
 rw [Below.heap_alloc _ _ _ (by simp)]
 exact heap_alloc_new W o
theorem cornD_succ (n : Nat) (v : Nat → Int) (k : Nat) : cornD n v (k + 1) = cornD n v k ++ [cornX n v k] := by simp [cornD, List.range_succ]
theorem corn_step {v1 wr X w6 : World} {v v' : Value} {k : Nat} {ys : List EdL} {a b x : Int} (hb : Below wr.heap.size wr X) (hown : wr.ownsRow v1.heap.size 50 3 v k (cellsX ys)) (hB : Below v1.heap.size v1 wr) (hp : ∀ y ∈ ys, PlTy wr y.A y.c y.x.pl) (hX : X.heap[wr.heap.size]? = some (.cells #[.int .i64 a, .int .i64 b] 3 (0, 0)))
  (hown6 : w6.ownsRow v1.heap.size 50 3 v' (k + 1) (cellsX ys ++ [.slice (some ⟨wr.heap.size, 0, none⟩) 2 2, .int .i64 x, .bool false])) (hgrow : X.grownBy w6 v.ownBlock) :
  (∀ y ∈ ys ++ [⟨⟨[a, b], x, false⟩, some ⟨wr.heap.size, 0, none⟩, 2⟩], PlTy w6 y.A y.c y.x.pl) ∧ w6.ownsRow v1.heap.size 50 3 v' (k + 1) (cellsX (ys ++ [⟨⟨[a, b], x, false⟩, some ⟨wr.heap.size, 0, none⟩, 2⟩])) ∧ Below v1.heap.size v1 w6 := by
 have hownX := own_later hown hb
 refine ⟨fun y hy => ?_, by rw [cellsX_append]; exact hown6, (onB hB hb).grown hgrow (onB hB hb).size fun j hj => (hown.lt j hj).1⟩
 rcases List.mem_append.1 hy with hy | hy
 ·exact plty_own_stays ((hp y hy).later hb) hownX hgrow
 ·rw [List.mem_singleton.1 hy]
  refine plty_own_stays (w := X) ⟨by simp, Or.inr ⟨_, _, _, _, rfl, hX, fun j hj => ?_⟩⟩ hownX hgrow
  rw [Lib.cell_of_heap hX]
  match j, hj with
  | 0, _ => rfl
  | 1, _ => rfl
theorem pl2_made (w : World) (a b : Int) : PlAt (w.alloc (.cells #[.int .i64 a, .int .i64 b] 3)) (some ⟨w.heap.size, 0, none⟩) 2 [a, b] := by
 refine ⟨by simp, Or.inr ⟨_, _, rfl, by simp, fun j hj => ?_⟩⟩
 have h := heap_alloc_new w (.cells #[.int .i64 a, .int .i64 b] 3)
 rw [Lib.cell_of_heap h]
 match j, hj with
 | 0, _ => rfl
 | 1, _ => rfl
theorem three_at (w : World) (a b c : Obj) : (((w.alloc a).alloc b).alloc c).heap[w.heap.size]? = some a ∧ (((w.alloc a).alloc b).alloc c).heap[w.heap.size + 1]? = some b ∧ (((w.alloc a).alloc b).alloc c).heap[w.heap.size + 2]? = some c := by
 refine ⟨?_, ?_, ?_⟩
 ·rw [Below.heap_alloc _ _ _ (by simp; omega)]; exact two_first
 ·rw [Below.heap_alloc _ _ _ (by simp)]
  have h := heap_alloc_new (w.alloc a) b
  rw [show (w.alloc a).heap.size = w.heap.size + 1 by simp] at h
  exact h
 ·have h := heap_alloc_new ((w.alloc a).alloc b) c
  rw [show ((w.alloc a).alloc b).heap.size = w.heap.size + 2 by simp] at h
  exact h
def BoxK (w : World) (b : Nat) (x y : Int) : Prop := b < w.heap.size ∧ w.cell? ⟨b, 0, none⟩ = some (.int .i64 x) ∧ w.cell? ⟨b, 1, none⟩ = some (.int .i64 y)
theorem BoxK.later {w w' : World} {b : Nat} {x y : Int} (h : BoxK w b x y) (hB : Below w.heap.size w w') : BoxK w' b x y :=
 ⟨Nat.lt_of_lt_of_le h.1 hB.size, (hB.cell (p := ⟨b, 0, none⟩) h.1).trans h.2.1, (hB.cell (p := ⟨b, 1, none⟩) h.1).trans h.2.2⟩
theorem BoxK.made (w : World) (x y : Int) (T : Nat) : BoxK (w.alloc (.cells #[.int .i64 x, .int .i64 y] T)) w.heap.size x y := ⟨by simp, by simp, by simp⟩
theorem acc_sets {W : World} {q : Nat} {T : Nat} {c0 : Obj} {a0 a1 b0 b1 : Value} (u0 u1 x0 x1 : Value) (h0 : W.heap[q]? = some c0) (h1 : W.heap[q + 1]? = some (.cells #[a0, a1] T)) (h2 : W.heap[q + 2]? = some (.cells #[b0, b1] T)) :
  ((((W.setCell ⟨q + 1, 0, none⟩ u0).setCell ⟨q + 1, 1, none⟩ u1).setCell ⟨q + 2, 0, none⟩ x0).setCell ⟨q + 2, 1, none⟩ x1).heap[q]? = some c0 ∧ ((((W.setCell ⟨q + 1, 0, none⟩ u0).setCell ⟨q + 1, 1, none⟩ u1).setCell ⟨q + 2, 0, none⟩ x0).setCell ⟨q + 2, 1, none⟩ x1).heap[q + 1]? = some (.cells #[u0, u1] T) ∧ ((((W.setCell ⟨q + 1, 0, none⟩ u0).setCell ⟨q + 1, 1, none⟩ u1).setCell ⟨q + 2, 0, none⟩ x0).setCell ⟨q + 2, 1, none⟩ x1).heap[q + 2]? = some (.cells #[x0, x1] T) := by
 simp [World.setCell, Array.getElem?_modify, h0, h1, h2]
theorem acc_below {w W : World} {q : Nat} (u0 u1 x0 x1 : Value) (h : Below q w W) : Below q w ((((W.setCell ⟨q + 1, 0, none⟩ u0).setCell ⟨q + 1, 1, none⟩ u1).setCell ⟨q + 2, 0, none⟩ x0).setCell ⟨q + 2, 1, none⟩ x1) :=
 (((h.setCell (by show q ≤ q + 1; omega) _).setCell (by show q ≤ q + 1; omega) _).setCell (by show q ≤ q + 2; omega) _).setCell (by show q ≤ q + 2; omega) _
def Thr (W : World) (q : Nat) (a b : Int) : Prop := BoxK W q a b ∧ BoxK W (q + 1) a b ∧ BoxK W (q + 2) a b
theorem keepT {W w' : World} {q : Nat} {a b : Int} (h : Thr W q a b) (hB : Below W.heap.size W w') : Below W.heap.size W w' ∧ w'.cell? ⟨q, 0, none⟩ = some (.int .i64 a) ∧ w'.cell? ⟨q, 1, none⟩ = some (.int .i64 b) ∧ w'.cell? ⟨q + 1, 0, none⟩ = some (.int .i64 a) ∧ w'.cell? ⟨q + 1, 1, none⟩ = some (.int .i64 b) ∧ w'.cell? ⟨q + 2, 0, none⟩ = some (.int .i64 a) ∧ w'.cell? ⟨q + 2, 1, none⟩ = some (.int .i64 b) :=
 ⟨hB, (h.1.later hB).2.1, (h.1.later hB).2.2, (h.2.1.later hB).2.1, (h.2.1.later hB).2.2, (h.2.2.later hB).2.1, (h.2.2.later hB).2.2⟩
theorem BoxK.of {w : World} {b : Nat} {x y : Int} {T : Nat} (h : w.heap[b]? = some (.cells #[.int .i64 x, .int .i64 y] T (0, 0))) : BoxK w b x y :=
 ⟨(Array.getElem?_eq_some_iff.1 h).1, by rw [Lib.cell_of_heap h]; rfl, by rw [Lib.cell_of_heap h]; rfl⟩
def CtxK (q n : Nat) (A0 : Option Addr) (A : Nat → Option Addr) (C : Nat → Nat) (B : Option Addr) (c : Nat) (zs : List EnL) (v : Nat → Int) (k : Nat) (w : World) : Prop :=
 q < w.heap.size ∧ w.cell? ⟨q, 0, none⟩ = some (.slice A0 2 2) ∧ DimsV w A0 2 2 (squareD n) A C ∧ EnsV w B c zs ∧ lE zs = cornL n v k
theorem CtxK.later {q n : Nat} {A0 : Option Addr} {A : Nat → Option Addr} {C : Nat → Nat} {B : Option Addr} {c : Nat} {zs : List EnL} {v : Nat → Int} {k : Nat} {w w' : World} (h : CtxK q n A0 A C B c zs v k w) (hB : Below w.heap.size w w') : CtxK q n A0 A C B c zs v k w' := by
 obtain ⟨h1, h2, h3, h4, h5⟩ := h
 exact ⟨Nat.lt_of_lt_of_le h1 hB.size, (hB.cell (p := ⟨q, 0, none⟩) h1).trans h2, h3.later hB, h4.later hB, h5⟩
set_option maxHeartbeats 32000000 in
theorem rcorner_core (n : Nat) (AL : Option Addr) (cL : Nat) (L : List Int) (w : World) (hn1 : 1 ≤ n) (hn8 : n ≤ 8) (hL : PlAt w AL cL L) :
  Calls Try.prog 4 #[.int .i64 n, .slice AL L.length cL] w fun e w' => e = .returned (.bool true) ∧ Below w.heap.size w w' := by
 obtain ⟨i0, hi0, hz0, hz1, hz2⟩ := info_parts Try.infoEd
 have hof := fun w' => of_any 5 w'
 rw [show ofP 5 = (1, 5) from rfl] at hof
 have hn8' : (n : Int) ≤ 8 := by omega
 have hn1' : (1 : Int) ≤ (n : Int) := by omega
 have hd1 : decide ((n : Int) < 1) = false := decide_eq_false (by omega)
 have hd8 : decide (8 < (n : Int)) = false := decide_eq_false (by omega)
 have hn0 : ((n : Int) == 0) = false := by simp; omega
 obtain ⟨NN, hNN⟩ : ∃ NN : Nat, n * n = NN := ⟨_, rfl⟩
 have HNN : Hid (n * n = NN) := hNN
 have hnn : (n : Int) * (n : Int) = (NN : Int) := by rw [← hNN]; exact (Int.natCast_mul _ _).symm
 have hNN1 : 1 ≤ NN := by rw [← hNN]; exact Nat.mul_le_mul hn1 hn1
 have hN64 : NN ≤ 64 := by rw [← hNN]; exact Nat.le_trans (Nat.mul_le_mul hn8 hn8) (by decide)
 have hN64' : (NN : Int) ≤ 64 := by omega
 obtain ⟨v, hv⟩ : ∃ v : Nat → Int, v = fun j => L.getD j 0 := ⟨_, rfl⟩
 have HV : Hid (∀ j, L.getD j 0 = v j) := fun j => by rw [hv]
 clear hNN hv
 have HSq : Hid (∀ w', Calls Try.prog 12 #[.int .i64 n] w' fun e w'' => (∃ A0 A C, e = .returned (.agg #[.slice A0 2 2]) ∧ DimsV w'' A0 2 2 (squareD n) A C) ∧ Below w'.heap.size w' w'') := fun w' => square_any n w' (by omega)
 have HPL : Hid (PlAt w AL cL L) := hL
 clear hL
 go_enter Try.func4, Try.ntmps4
 go_wp2_with fail
 refine (hof _).mono ?_
 rintro e w0 ⟨rfl, hb0⟩
 have HB0 : Hid (Below w.heap.size w w0) := onB (by first | exact Below.refl _ _ | go_grown) hb0
 clear hb0 hof
 go_wp2_with fail
 refine (HSq.out _).mono ?_
 rintro e w1 ⟨⟨A0, A, C, rfl, hD⟩, hb⟩
 have HB1 : Hid (Below w.heap.size w w1) := onB (onB HB0.out (by first | exact Below.refl _ _ | go_grown)) hb
 have HD1 : Hid (DimsV w1 A0 2 2 (squareD n) A C) := hD
 clear hb hD HSq
 go_wp2_with fail
 obtain ⟨v1, hv1⟩ : ∃ v1, w1.alloc (.cells #[.slice A0 2 2] 24) = v1 := ⟨_, rfl⟩
 have hBv : Below w1.heap.size w1 v1 := by rw [← hv1]; go_grown
 have HDv : Hid (DimsV v1 A0 2 2 (squareD n) A C) := HD1.out.later hBv
 have HBv : Hid (Below w.heap.size w v1) := onB HB1.out hBv
 have HPv : Hid (PlAt v1 AL cL L) := HPL.out.later HBv.out
 have cv : v1.cell? ⟨w1.heap.size, 0, none⟩ = some (.slice A0 2 2) := by rw [← hv1]; simp
 have hzv : w1.heap.size < v1.heap.size := by rw [← hv1]; simp
 obtain ⟨NL, hNL⟩ : ∃ NL, L.length = NL := ⟨_, rfl⟩
 have HNL : Hid (L.length = NL) := hNL
 rw [hv1, hNL]
 clear hv1 hBv HD1 hNL
 go_loopg [7, 8, 9] 60 (fun g s7 s8 s9 wr => ∃ (k : Nat) (ys : List EdL), (k ≤ 60 ∧ k ≤ NN ∧ k ≤ NL) ∧ g = 60 - k ∧ s9 = .int .i64 k ∧ s8 = .int .i64 (sumIf (fun _ => true) v k) ∧ Hid (ys.length = k ∧ lD ys = cornD n v k ∧ ∀ y ∈ ys, PlTy wr y.A y.c y.x.pl) ∧ Hid (∀ j, j < k → -1000000 ≤ v j ∧ v j ≤ 1000000) ∧ wr.ownsRow v1.heap.size 50 3 s7 k (cellsX ys) ∧ Below v1.heap.size v1 wr)
 case atStart => exact ⟨0, [], ⟨Nat.zero_le _, Nat.zero_le _, Nat.zero_le _⟩, rfl, rfl, rfl, (⟨rfl, rfl, fun y hy => by cases hy⟩ : _ ∧ _ ∧ _), (fun j hj => absurd hj (Nat.not_lt_zero j) : ∀ j, j < 0 → _), World.ownsRow_nil _ _ _ _, Below.refl _ _⟩
 case round =>
  obtain ⟨k, ys, ⟨hk60, hkN, hkL⟩, rfl, rfl, rfl, HY, HVB, hown, hBw⟩ := hrel
  have HBw : Hid (Below v1.heap.size v1 wr) := hBw
  have HOwn : Hid (wr.ownsRow v1.heap.size 50 3 u7 k (cellsX ys)) := hown
  have hsb := sumIf_bound (b := fun _ => true) k HVB.out
  have HSM : Hid (sumIf (fun _ => true) v (k + 1) = sumIf (fun _ => true) v k + v k) := by show _ = _; rw [sumIf, if_pos rfl]
  by_cases hlt : k < 60 ∧ k < NN ∧ k < NL
  ·obtain ⟨hl1, hl2, hl3⟩ := hlt
   have t1 : decide ((k : Int) < 60) = true := decide_eq_true (by omega)
   have t2 : decide ((k : Int) < (NN : Int)) = true := decide_eq_true (by omega)
   have t3 : decide ((k : Int) < (NL : Int)) = true := decide_eq_true (by omega)
   obtain ⟨hcl, h0 | ⟨bL, oL, rfl, hbL, hLc⟩⟩ := HPv.out
   ·have := HNL.out; rw [h0] at this; simp at this; omega
   have cx := (hBw.cell (p := ⟨bL, oL + k, none⟩) hbL).trans (hLc k (by rw [HNL.out]; exact hl3))
   rw [HV.out] at cx
   rw [HNL.out] at hcl
   have hki : (k : Int) < (NL : Int) := by omega
   have hbLz : bL < wr.heap.size := Nat.lt_of_lt_of_le hbL hBw.size
   have HNE : Hid (some bL ≠ u7.ownBlock) := fun e => by have := (hown.lt _ e.symm).1; omega
   generalize hS : sumIf (fun _ => true) v k = SM at hsb HSM
   generalize hx : v k = x at cx HSM
   clear hLc hbL
   by_cases hx1 : x < -1000000
   ·have tx1 : decide (x < -1000000) = true := decide_eq_true hx1
    go_wp2_with fail
    first | (go_quiet (fail); go_wp2_with fail) | skip
    go_ret
    exact ⟨rfl, by first | exact onB HBv.out HBw.out | exact below_drewN (onB HBv.out HBw.out) _⟩
   by_cases hx2 : 1000000 < x
   ·have tx1 : decide (x < -1000000) = false := decide_eq_false hx1
    have tx2 : decide (1000000 < x) = true := decide_eq_true hx2
    go_wp2_with fail
    first | (go_quiet (fail); go_wp2_with fail) | skip
    go_ret
    exact ⟨rfl, by first | exact onB HBv.out HBw.out | exact below_drewN (onB HBv.out HBw.out) _⟩
   have tx1 : decide (x < -1000000) = false := decide_eq_false hx1
   have tx2 : decide (1000000 < x) = false := decide_eq_false hx2
   obtain ⟨q, hq⟩ : ∃ q : Nat, k / n = q := ⟨_, rfl⟩
   obtain ⟨r, hr⟩ : ∃ r : Nat, k % n = r := ⟨_, rfl⟩
   have hqi : (k : Int) / (n : Int) = (q : Int) := by rw [← hq]; exact (Int.natCast_ediv _ _).symm
   have hri : (k : Int).tmod (n : Int) = (r : Int) := by rw [← hr]; rfl
   have hq8 : q ≤ 64 := by rw [← hq]; exact Nat.le_trans (Nat.div_le_self _ _) (by omega)
   have hr8 : r ≤ 64 := by rw [← hr]; exact Nat.le_trans (Nat.mod_le _ _) (by omega)
   have hq8' : (q : Int) ≤ 64 := by omega
   have hr8' : (r : Int) ≤ 64 := by omega
   have HED : Hid ((⟨[1 + (q : Int), 1 + (r : Int)], x, false⟩ : Ed) = cornX n v k) := by
    show _ = _
    unfold cornX cornP
    rw [hq, hr, hx, show ((1 + q : Nat) : Int) = 1 + (q : Int) by omega, show ((1 + r : Nat) : Int) = 1 + (r : Int) by omega]
   have HVB2 : Hid (∀ j, j < k + 1 → -1000000 ≤ v j ∧ v j ≤ 1000000) := fun j hj => by
    rcases Nat.lt_succ_iff_lt_or_eq.1 hj with h | rfl
    ·exact HVB.out j h
    ·rw [hx]; omega
   have hkz : (0 : Int) ≤ (k : Int) := by omega
   have hnz : ¬ n = 0 := by omega
   have hwq : IntKind.i64.wrap (q : Int) = (q : Int) := IntWalk.i64_in _ (by omega)
   have hwr : IntKind.i64.wrap (r : Int) = (r : Int) := IntWalk.i64_in _ (by omega)
   have hwq1 : IntKind.i64.wrap (1 + (q : Int)) = 1 + (q : Int) := IntWalk.i64_in _ (by omega)
   have hwr1 : IntKind.i64.wrap (1 + (r : Int)) = 1 + (r : Int) := IntWalk.i64_in _ (by omega)
   clear hq hr hown hBw hx hS
   go_wp2_with fail
   go_region_law ((refine step_append_lies _ (by rfl) _ _ _ (by rfl) v1.heap.size 50 i0 _ 3 40 Try.underlying48 hi0 hz0 hz1 hz2 ?g2 ?g3 u7 k (cellsX ys) ?h1 ?h2 ⟨wr.heap.size + 1, 0, none⟩ 1 1 [.slice (some ⟨wr.heap.size, 0, none⟩) 2 2, .int .i64 x, .bool false] ?h3 ?h4 ?h5 ?h6 ?g4 ?h7 ?h8 ?h9 (wr.heap.size + 2) ?h10 ?_; (case g2 => rfl); (case g3 => omega); (case h1 => rfl); (case h2 => exact (own_later HOwn.out (by go_grown))); (case h3 => rfl); (case h4 => rfl); (case h5 => exact two_news); (case h6 => simp [Value.oneCell']); (case g4 => omega); (case h7 => (unfold maxLen; omega)); (case h8 => omega); (case h9 => (have := HBw.out.size; simp; omega)); (case h10 => simp); (intro gg cg w6 hown6 hgrow hat hlt6)))
   all_goals (have y1 := (hgrow.cell_far ⟨bL, oL + k, none⟩ (by simp; omega) HNE.out).trans (((show Below wr.heap.size wr _ from by go_grown).cell (p := ⟨bL, oL + k, none⟩) hbLz).trans cx))
   all_goals (have HST : Hid _ := corn_step (by go_grown) HOwn.out HBw.out HY.out.2.2 (by exact two_first) hown6 hgrow)
   all_goals clear hown6 hgrow cx
   all_goals go_wp2_with fail
   all_goals go_roundg (60 - (k + 1))
   all_goals first | omega | exact ⟨k + 1, _, ⟨by omega, by omega, by omega⟩, rfl, by go_num, by rw [HSM.out], ⟨by rw [List.length_append, HY.out.1]; rfl, by rw [lD_append, HY.out.2.1, cornD_succ, ← HED.out]; rfl, HST.out.1⟩, HVB2, HST.out.2.1, HST.out.2.2⟩
  ·obtain ⟨AX, cx, hs7, hX⟩ := eds_own (by rw [HY.out.1]; exact hown) HY.out.2.2
   rw [HY.out.1] at hs7
   have hall := iall_any A0 2 2 (squareD n) A C none 0 [] AX cx ys wr (HDv.out.later hBw) (EnsV.nil _ _ _ (by decide)) hX
   have e0 : lE [] = [] := rfl
   have hkn : k ≤ n * n := by rw [HNN.out]; exact hkN
   rw [e0, HY.out.2.1, HY.out.1, corn_all hn1 hn8 hkn hk60 HVB.out] at hall
   simp only [List.length_nil] at hall
   unfold Answer3 at hall
   simp only [errV_zero] at hall
   have c1 : wr.cell? ⟨w1.heap.size, 0, none⟩ = some (.slice A0 2 2) := (hBw.cell (p := ⟨w1.heap.size, 0, none⟩) hzv).trans cv
   have HDr : Hid (DimsV wr A0 2 2 (squareD n) A C) := HDv.out.later hBw
   have hzr : w1.heap.size < wr.heap.size := Nat.lt_of_lt_of_le hzv hBw.size
   have HZ : Hid (∀ zs, lE zs = cornL n v k → zs.length = k) := fun zs hl => by rw [← lE_len, hl]; simp [cornL]
   have HVal : Hid (∀ (i j : Nat) w' B c zs Ap, i ≤ n → j ≤ n → DimsV w' A0 2 2 (squareD n) A C → EnsV w' B c zs → lE zs = cornL n v k → PlAt w' Ap 2 [(i : Int), (j : Int)] → Calls Try.prog 7 #[.agg #[.slice A0 2 2], .slice B k c, .slice Ap 2 2] w' fun e w'' => e = .returned (.tuple #[.agg #[.int .i64 (cornK n k i j), .int .i64 (sumIf (atB n i j) v k)], .nilIface]) ∧ Below w'.heap.size w' w'') := fun i j w' B c zs Ap hi hj hD hE hl hP => by
    have h := rval_any A0 2 2 (squareD n) A C B c zs Ap 2 [(i : Int), (j : Int)] w' hD hE hP
    rw [hl, corn_err hn1 hn8 hkn hk60 HVB.out hi hj, corn_val hn1 hn8 hkn hk60 HVB.out hi hj, HZ.out zs hl] at h
    exact h
   have HSM2 : Hid (∃ SM, SM = sumIf (fun _ => true) v k) := ⟨_, rfl⟩
   obtain ⟨SM, hSM⟩ := HSM2.out
   have HSM3 : Hid (SM = sumIf (fun _ => true) v k) := hSM
   rw [← hSM] at hsb ⊢
   subst hs7
   have hcs : (¬ k < NL) ∨ (k < NL ∧ ¬ k < NN) ∨ (k < NL ∧ k < NN ∧ ¬ k < 60) := by omega
   clear hown hBw hX e0 HOwn hlt hSM HSM HSM2
   rcases hcs with a3 | ⟨a3, a2⟩ | ⟨a3, a2, a1⟩
   case' inl =>
    have t3 : decide ((k : Int) < (NL : Int)) = false := decide_eq_false (by omega)
   case' inr.inl =>
    have t3 : decide ((k : Int) < (NL : Int)) = true := decide_eq_true (by omega)
    have t2 : decide ((k : Int) < (NN : Int)) = false := decide_eq_false (by omega)
   case' inr.inr =>
    have t3 : decide ((k : Int) < (NL : Int)) = true := decide_eq_true (by omega)
    have t2 : decide ((k : Int) < (NN : Int)) = true := decide_eq_true (by omega)
    have t1 : decide ((k : Int) < 60) = false := decide_eq_false (by omega)
   all_goals
    go_wp2_with fail
    refine hall.mono ?_
    rintro e w2 ⟨⟨B, c, zs, rfl, hE, hl⟩, hb⟩
    have c2 : w2.cell? ⟨w1.heap.size, 0, none⟩ = some (.slice A0 2 2) := (hb.cell (p := ⟨w1.heap.size, 0, none⟩) hzr).trans c1
    have HX2 : Hid (CtxK w1.heap.size n A0 A C B c zs v k w2) := ⟨Nat.lt_of_lt_of_le hzr hb.size, c2, HDr.out.later hb, hE, hl⟩
    have HB2 : Hid (Below w.heap.size w w2) := onB (onB HBv.out HBw.out) hb
    rw [HZ.out zs hl]
    clear hb hall hE hl c1 hzr HDr HBw
    go_wp2_with fail
    obtain ⟨y2, hy2⟩ : ∃ y, w2.alloc (.cells #[.int .i64 0, .int .i64 0] 3) = y := ⟨_, rfl⟩
    have hBy : Below w2.heap.size w2 y2 := by rw [← hy2]; go_grown
    have HXy : Hid (CtxK w1.heap.size n A0 A C B c zs v k y2) := HX2.out.later hBy
    have HBy : Hid (Below w.heap.size w y2) := onB HB2.out hBy
    have hval := HVal.out 0 0 y2 B c zs (some ⟨w2.heap.size, 0, none⟩) (Nat.zero_le _) (Nat.zero_le _) HXy.out.2.2.1 HXy.out.2.2.2.1 HXy.out.2.2.2.2 (by rw [← hy2]; exact pl2_made w2 0 0)
    rw [hy2]
    clear hy2 hBy HX2 HB2 c2
    refine hval.mono ?_
    rintro e w3 ⟨rfl, hb⟩
    have HX3 : Hid (CtxK w1.heap.size n A0 A C B c zs v k w3) := HXy.out.later hb
    have HB3 : Hid (Below w.heap.size w w3) := onB HBy.out hb
    clear hb hval HXy HBy
    have hsum : sumIf (atB n 0 0) v k = SM := by rw [HSM3.out]; exact sumIf_same k fun j _ => by simp [atB]
    rw [hsum]
    by_cases hk0 : k = 0
    ·first
      | (exfalso; omega)
      | ((have hK0 : cornK n k 0 0 = 0 := (by rw [hk0]; rfl)); (rw [hK0]); (have hkz : ((k : Int) == 0) = true := (by simp [hk0])); (clear hsum hK0); (go_wp2_with fail); (first | (go_quiet (fail); go_wp2_with fail) | skip); go_ret; (exact ⟨rfl, by first | exact onB HB3.out (by go_grown) | exact below_drewN (onB HB3.out (by go_grown)) _⟩))
    have hK1 : cornK n k 0 0 = 1 := cornK_one (by omega) (by simp [atB])
    rw [hK1]
    have hkz : ((k : Int) == 0) = false := by simp; omega
    clear hsum hK1
    go_wp2_with fail
    obtain ⟨Y, hY⟩ : ∃ Y, ((w3.alloc (.cells #[.int .i64 1, .int .i64 SM] 34)).alloc (.cells #[.int .i64 0, .int .i64 0] 34)).alloc (.cells #[.int .i64 0, .int .i64 0] 34) = Y := ⟨_, rfl⟩
    have HBY : Hid (Below w3.heap.size w3 Y) := by show Below _ _ _; rw [← hY]; go_grown
    have HT3 : Hid (Y.heap[w3.heap.size]? = some (.cells #[.int .i64 1, .int .i64 SM] 34) ∧ Y.heap[w3.heap.size + 1]? = some (.cells #[.int .i64 0, .int .i64 0] 34) ∧ Y.heap[w3.heap.size + 2]? = some (.cells #[.int .i64 0, .int .i64 0] 34)) := by
     rw [← hY]
     exact three_at w3 _ _ _
    rw [hY]
    clear hY
    go_loopg [16] n (fun g s16 wr => ∃ (i : Nat), i ≤ n ∧ g = n - i ∧ s16 = .int .i64 ((i : Int) + 1) ∧ Hid (wr.heap[w3.heap.size]? = some (.cells #[.int .i64 1, .int .i64 SM] 34) ∧ wr.heap[w3.heap.size + 1]? = some (.cells #[.int .i64 (accP (fun j => 1 + j / n) v k i).1, .int .i64 (accP (fun j => 1 + j / n) v k i).2] 34) ∧ wr.heap[w3.heap.size + 2]? = some (.cells #[.int .i64 (accP (fun j => 1 + j % n) v k i).1, .int .i64 (accP (fun j => 1 + j % n) v k i).2] 34)) ∧ Below w3.heap.size w3 wr)
    case atStart => exact ⟨0, Nat.zero_le _, rfl, rfl, HT3.out, HBY.out⟩
    case round =>
     obtain ⟨wi, rfl⟩ : ∃ wi : World, wi = wr := ⟨_, rfl⟩
     obtain ⟨i, hi, rfl, rfl, HBX, hBi⟩ := hrel
     have HBi : Hid (Below w3.heap.size w3 wi) := hBi
     by_cases hlt : i < n
     ·have hki : ((i : Int) + 1) ≤ (n : Int) := by omega
      have hdi : decide ((i : Int) + 1 ≤ (n : Int)) = true := decide_eq_true hki
      have HXi : Hid (CtxK w1.heap.size n A0 A C B c zs v k wi) := HX3.out.later hBi
      have hr := acc_step (f := fun j => 1 + j / n) (i := i) (b := atB n (i + 1) 0) hk60 (by omega) HVB.out (fun j _ => by simp [atB]) (cornK_two n k (i + 1) 0 v) (fun h => by subst h; exact cornK_one (by omega) (by simp [atB]))
      have hc := acc_step (f := fun j => 1 + j % n) (i := i) (b := atB n 0 (i + 1)) hk60 (by omega) HVB.out (fun j _ => by simp [atB]) (cornK_two n k 0 (i + 1) v) (fun h => by subst h; exact cornK_one (by omega) (by simp [atB]))
      have HAR := add_yes _ _ _ _ hr.1 hr.2.1
      have HAC := add_yes _ _ _ _ hc.1 hc.2.1
      rw [hr.2.2] at HAR
      rw [hc.2.2] at HAC
      unfold OpTo at HAR HAC
      have HVR : Hid (∀ w' Ap, CtxK w1.heap.size n A0 A C B c zs v k w' → PlAt w' Ap 2 [((i + 1 : Nat) : Int), ((0 : Nat) : Int)] → _) := fun w' Ap hX hP => HVal.out (i + 1) 0 w' B c zs Ap (by omega) (Nat.zero_le _) hX.2.2.1 hX.2.2.2.1 hX.2.2.2.2 hP
      have HVC : Hid (∀ w' Ap, CtxK w1.heap.size n A0 A C B c zs v k w' → PlAt w' Ap 2 [((0 : Nat) : Int), ((i + 1 : Nat) : Int)] → _) := fun w' Ap hX hP => HVal.out 0 (i + 1) w' B c zs Ap (Nat.zero_le _) (by omega) hX.2.2.1 hX.2.2.2.1 hX.2.2.2.2 hP
      have HRX : Hid (∀ u, u = accP (fun j => 1 + j / n) v k (i + 1) → u = accP (fun j => 1 + j / n) v k (i + 1)) := fun _ h => h
      generalize cornK n k (i + 1) 0 = aK at HVR HAR
      generalize sumIf (atB n (i + 1) 0) v k = aN at HVR HAR
      generalize cornK n k 0 (i + 1) = bK at HVC HAC
      generalize sumIf (atB n 0 (i + 1)) v k = bN at HVC HAC
      obtain ⟨R1, hR1⟩ : ∃ R, R = accP (fun j => 1 + j / n) v k (i + 1) := ⟨_, rfl⟩
      obtain ⟨C1, hC1⟩ : ∃ R, R = accP (fun j => 1 + j % n) v k (i + 1) := ⟨_, rfl⟩
      have HR1 : Hid (R1 = accP (fun j => 1 + j / n) v k (i + 1)) := hR1
      have HC1 : Hid (C1 = accP (fun j => 1 + j % n) v k (i + 1)) := hC1
      rw [← hR1] at HAR
      rw [← hC1] at HAC
      obtain ⟨R1k, R1n⟩ := R1
      obtain ⟨C1k, C1n⟩ := C1
      have HBX2 := HBX.out
      generalize accP (fun j => 1 + j / n) v k i = R0 at HAR HBX2
      generalize accP (fun j => 1 + j % n) v k i = C0 at HAC HBX2
      obtain ⟨R0k, R0n⟩ := R0
      obtain ⟨C0k, C0n⟩ := C0
      simp only at HAR HAC HBX2
      have HT0 : Hid (wi.heap[w3.heap.size]? = some (.cells #[.int .i64 1, .int .i64 SM] 34) ∧ wi.heap[w3.heap.size + 1]? = some (.cells #[.int .i64 R0k, .int .i64 R0n] 34) ∧ wi.heap[w3.heap.size + 2]? = some (.cells #[.int .i64 C0k, .int .i64 C0n] 34)) := HBX2
      have HADR : Hid (∀ w', Calls Try.prog 14 #[.agg #[.int .i64 R0k, .int .i64 R0n], .agg #[.int .i64 aK, .int .i64 aN]] w' fun e w'' => e = .returned (.tuple #[.agg #[.int .i64 R1k, .int .i64 R1n], .nilIface]) ∧ Below w'.heap.size w' w'') := HAR
      have HADC : Hid (∀ w', Calls Try.prog 14 #[.agg #[.int .i64 C0k, .int .i64 C0n], .agg #[.int .i64 bK, .int .i64 bN]] w' fun e w'' => e = .returned (.tuple #[.agg #[.int .i64 C1k, .int .i64 C1n], .nilIface]) ∧ Below w'.heap.size w' w'') := HAC
      have ci := HXi.out.2.1
      clear hr hc hBi hR1 hC1 HAR HAC HBX HBX2 HRX HX3 HBY HT3
      go_wp2_with fail
      obtain ⟨y1, hy1⟩ : ∃ y, wi.alloc (.cells #[.int .i64 ((i : Int) + 1), .int .i64 0] 3) = y := ⟨_, rfl⟩
      have hBy1 : Below wi.heap.size wi y1 := by rw [← hy1]; go_grown
      have hv1' := HVR.out y1 (some ⟨wi.heap.size, 0, none⟩) (HXi.out.later hBy1) (by rw [← hy1]; exact pl2_made wi ((i : Int) + 1) 0)
      rw [hy1]
      refine hv1'.mono ?_
      rintro e w4 ⟨rfl, hb⟩
      obtain ⟨y4, hy4⟩ : ∃ y, w4.alloc (.cells #[.int .i64 aK, .int .i64 aN] 34) = y := ⟨_, rfl⟩
      have hBy4 : Below w4.heap.size w4 y4 := by rw [← hy4]; go_grown
      have HB4 : Hid (Below wi.heap.size wi y4) := onB (onB hBy1 hb) hBy4
      have HXa : Hid (CtxK w1.heap.size n A0 A C B c zs v k y4) := HXi.out.later HB4.out
      have HA4 : Hid (BoxK y4 w4.heap.size aK aN) := by rw [← hy4]; exact BoxK.made ..
      have c4 := HXa.out.2.1
      clear hb hv1' hBy1 hy1 hBy4 ci
      go_wp2_with fail
      clear hy4
      obtain ⟨y5, hy5⟩ : ∃ y, y4.alloc (.cells #[.int .i64 0, .int .i64 ((i : Int) + 1)] 3) = y := ⟨_, rfl⟩
      have hBy5 : Below y4.heap.size y4 y5 := by rw [← hy5]; go_grown
      have hv5 := HVC.out y5 (some ⟨y4.heap.size, 0, none⟩) (HXa.out.later hBy5) (by rw [← hy5]; exact pl2_made y4 0 ((i : Int) + 1))
      rw [hy5]
      refine hv5.mono ?_
      rintro e w6 ⟨rfl, hb⟩
      obtain ⟨y6, hy6⟩ : ∃ y, w6.alloc (.cells #[.int .i64 bK, .int .i64 bN] 34) = y := ⟨_, rfl⟩
      have hBy6 : Below w6.heap.size w6 y6 := by rw [← hy6]; go_grown
      have hB46 : Below y4.heap.size y4 y6 := onB (onB hBy5 hb) hBy6
      have HB6 : Hid (Below wi.heap.size wi y6) := onB HB4.out hB46
      have HA6 : Hid (BoxK y6 w4.heap.size aK aN) := HA4.out.later hB46
      have HD6 : Hid (BoxK y6 w6.heap.size bK bN) := by rw [← hy6]; exact BoxK.made ..
      have HRW : Hid (BoxK y6 (w3.heap.size + 1) R0k R0n) := (BoxK.of HT0.out.2.1).later HB6.out
      have HCW : Hid (BoxK y6 (w3.heap.size + 2) C0k C0n) := (BoxK.of HT0.out.2.2).later HB6.out
      clear hb hv5 hBy5 hy5 hBy6 hB46 c4 HXa HA4 HB4 HVR HVC
      obtain ⟨za, r0, r1⟩ := HRW.out
      obtain ⟨zb, a0, a1⟩ := HA6.out
      go_wp2_with fail
      clear hy6
      refine (HADR.out _).mono ?_
      rintro e w7 ⟨rfl, hb⟩
      obtain ⟨y7, hy7⟩ : ∃ y, w7.alloc (.cells #[.int .i64 R1k, .int .i64 R1n] 34) = y := ⟨_, rfl⟩
      have hBy7 : Below w7.heap.size w7 y7 := by rw [← hy7]; go_grown
      have hB67 : Below y6.heap.size y6 y7 := onB hb hBy7
      have HB7 : Hid (Below wi.heap.size wi y7) := onB HB6.out hB67
      have HP7 : Hid (BoxK y7 w7.heap.size R1k R1n) := by rw [← hy7]; exact BoxK.made ..
      have hz7 : y6.heap.size ≤ w7.heap.size := hb.size
      have hs66 := HB6.out.size
      obtain ⟨zc, q0, q1⟩ := HCW.out.later hB67
      obtain ⟨zd, b0, b1⟩ := HD6.out.later hB67
      clear hb hBy7 hB67 HB6 HCW HD6 HRW HA6 za r0 r1 zb a0 a1
      go_wp2_with fail
      clear hy7
      refine (HADC.out _).mono ?_
      rintro e w8 ⟨rfl, hb⟩
      obtain ⟨y8, hy8⟩ : ∃ y, w8.alloc (.cells #[.int .i64 C1k, .int .i64 C1n] 34) = y := ⟨_, rfl⟩
      have hBy8 : Below w8.heap.size w8 y8 := by rw [← hy8]; go_grown
      have hB78 : Below y7.heap.size y7 y8 := onB hb hBy8
      have HB8 : Hid (Below wi.heap.size wi y8) := onB HB7.out hB78
      have hz8 : y7.heap.size ≤ w8.heap.size := hb.size
      have hzi := HBi.out.size
      have hz3 : w3.heap.size + 2 < wi.heap.size := (Array.getElem?_eq_some_iff.1 HT0.out.2.2).1
      have HK0 : Hid (y8.heap[w3.heap.size]? = some (.cells #[.int .i64 1, .int .i64 SM] 34)) := (HB8.out.block _ (by omega)).trans HT0.out.1
      have k1 : y8.heap[w3.heap.size + 1]? = some (.cells #[.int .i64 R0k, .int .i64 R0n] 34) := (HB8.out.block _ (by omega)).trans HT0.out.2.1
      have k2 : y8.heap[w3.heap.size + 2]? = some (.cells #[.int .i64 C0k, .int .i64 C0n] 34) := (HB8.out.block _ (by omega)).trans HT0.out.2.2
      have HK1 : Hid (y8.heap[w3.heap.size + 1]? = some (.cells #[.int .i64 R0k, .int .i64 R0n] 34)) := k1
      have HK2 : Hid (y8.heap[w3.heap.size + 2]? = some (.cells #[.int .i64 C0k, .int .i64 C0n] 34)) := k2
      obtain ⟨ze, p0, p1⟩ := HP7.out.later hB78
      obtain ⟨zf, o0, o1⟩ : BoxK y8 w8.heap.size C1k C1n := by rw [← hy8]; exact BoxK.made ..
      have g0 : y8.cell? ⟨w3.heap.size + 1, 0, none⟩ = some (.int .i64 R0k) := by rw [Lib.cell_of_heap k1]; rfl
      have g1 : y8.cell? ⟨w3.heap.size + 1, 1, none⟩ = some (.int .i64 R0n) := by rw [Lib.cell_of_heap k1]; rfl
      have g2 : y8.cell? ⟨w3.heap.size + 2, 0, none⟩ = some (.int .i64 C0k) := by rw [Lib.cell_of_heap k2]; rfl
      have g3 : y8.cell? ⟨w3.heap.size + 2, 1, none⟩ = some (.int .i64 C0n) := by rw [Lib.cell_of_heap k2]; rfl
      have f0 : y8.frozen? ⟨w3.heap.size + 1, 0, none⟩ = false := Lib.frozen_of_heap k1 0
      have f1 : y8.frozen? ⟨w3.heap.size + 1, 1, none⟩ = false := Lib.frozen_of_heap k1 1
      have f2 : y8.frozen? ⟨w3.heap.size + 2, 0, none⟩ = false := Lib.frozen_of_heap k2 0
      have f3 : y8.frozen? ⟨w3.heap.size + 2, 1, none⟩ = false := Lib.frozen_of_heap k2 1
      have hy6z := zc
      have hs6 := HB7.out.size
      have hm1 : ¬ (w8.heap.size = w3.heap.size + 1) := by omega
      have hm2 : ¬ (w8.heap.size = w3.heap.size + 2) := by omega
      have hm3 : ¬ (w7.heap.size = w3.heap.size + 1) := by omega
      clear hb hBy8 hB78 HB7 HP7 k1 k2 zc q0 q1 zd b0 b1 hy6z
      go_wp2_with fail
      clear hy8
      go_roundg (n - (i + 1))
      case measure => omega
      case rel =>
       refine ⟨i + 1, by omega, rfl, by go_num, ?_, acc_below _ _ _ _ (onB HBi.out HB8.out)⟩
       have := acc_sets (.int .i64 R1k) (.int .i64 R1n) (.int .i64 C1k) (.int .i64 C1n) HK0.out HK1.out HK2.out
       rw [← HR1.out, ← HC1.out]
       exact this
     ·have hie : i = n := by omega
      subst hie
      have hdi : decide ((i : Int) + 1 ≤ (i : Int)) = false := decide_eq_false (by omega)
      have hr1 : accP (fun j => 1 + j / i) v k i = (1, SM) := by
       unfold accP
       rw [if_neg (by omega), sum_rows _ v i k fun j hj => ⟨(corn_row hn1 (by omega : j < i * i)).1, by have := (corn_row hn1 (by omega : j < i * i)).2.1; omega⟩, HSM3.out]
      have hc1 : accP (fun j => 1 + j % i) v k i = (1, SM) := by
       unfold accP
       rw [if_neg (by omega), sum_rows _ v i k fun j hj => ⟨(corn_row hn1 (by omega : j < i * i)).2.2.1, by have := (corn_row hn1 (by omega : j < i * i)).2.2.2; omega⟩, HSM3.out]
      have HBX2 := HBX.out
      rw [hr1, hc1] at HBX2
      have HTh : Hid (Thr wi w3.heap.size 1 SM) := ⟨BoxK.of HBX2.1, BoxK.of HBX2.2.1, BoxK.of HBX2.2.2⟩
      have hofS := fun w' => of_any SM w'
      rw [ofP_in (by omega) (by omega)] at hofS
      have HOfS : Hid (∀ w', Calls Try.prog 11 #[.int .i64 SM] w' fun e w'' => e = .returned (.agg #[.int .i64 1, .int .i64 SM]) ∧ Below w'.heap.size w' w'') := hofS
      obtain ⟨zz, x0, x1⟩ := HTh.out.1
      obtain ⟨zz1, x2, x3⟩ := HTh.out.2.1
      obtain ⟨zz2, x4, x5⟩ := HTh.out.2.2
      clear hr1 hc1 HBX HBX2 hofS hBi
      go_wp2_with fail
      go_region_held3 (fun w' => Below wi.heap.size wi w' ∧ w'.cell? ⟨w3.heap.size, 0, none⟩ = some (.int .i64 1) ∧ w'.cell? ⟨w3.heap.size, 1, none⟩ = some (.int .i64 SM) ∧ w'.cell? ⟨w3.heap.size + 1, 0, none⟩ = some (.int .i64 1) ∧ w'.cell? ⟨w3.heap.size + 1, 1, none⟩ = some (.int .i64 SM) ∧ w'.cell? ⟨w3.heap.size + 2, 0, none⟩ = some (.int .i64 1) ∧ w'.cell? ⟨w3.heap.size + 2, 1, none⟩ = some (.int .i64 SM))
       ((refine keepT HTh.out ?_; go_grown; done))
       (first | (go_at_call 11; refine (HOfS.out _).mono ?_; rintro e w4 ⟨rfl, hb4⟩; have hN4 := onB (W0 := wi) (by go_grown) hb4; have hy4 := hN4.size; clear hb4))
      all_goals go_wp2_with fail
      all_goals go_ret
      all_goals exact ⟨by simp, onB HB3.out (onB HBi.out (by go_grown))⟩
set_option maxHeartbeats 4000000 in
theorem rcorner_any (x : Int) (AL : Option Addr) (cL : Nat) (L : List Int) (w : World) (hL : PlAt w AL cL L) :
  Calls Try.prog 4 #[.int .i64 x, .slice AL L.length cL] w fun e w' => e = .returned (.bool true) ∧ Below w.heap.size w w' := by
 by_cases h1 : x < 1
 ·have hd1 : decide (x < 1) = true := decide_eq_true h1
  have hof := fun w' => of_any 5 w'
  rw [show ofP 5 = (1, 5) from rfl] at hof
  generalize L.length = NL
  clear hL
  go_enter Try.func4, Try.ntmps4
  go_wp2_with fail
  refine (hof _).mono ?_
  rintro e w0 ⟨rfl, hb0⟩
  have HB0 : Hid (Below w.heap.size w w0) := onB (by first | exact Below.refl _ _ | go_grown) hb0
  clear hb0 hof
  go_wp2_with fail
  first | (go_quiet (fail); go_wp2_with fail) | skip
  go_ret
  exact ⟨rfl, by first | exact onB HB0.out (by go_grown) | exact below_drewN (onB HB0.out (by go_grown)) _⟩
 by_cases h8 : 8 < x
 ·have hd1 : decide (x < 1) = false := decide_eq_false h1
  have hd8 : decide (8 < x) = true := decide_eq_true h8
  have hof := fun w' => of_any 5 w'
  rw [show ofP 5 = (1, 5) from rfl] at hof
  generalize L.length = NL
  clear hL
  go_enter Try.func4, Try.ntmps4
  go_wp2_with fail
  refine (hof _).mono ?_
  rintro e w0 ⟨rfl, hb0⟩
  have HB0 : Hid (Below w.heap.size w w0) := onB (by first | exact Below.refl _ _ | go_grown) hb0
  clear hb0 hof
  go_wp2_with fail
  first | (go_quiet (fail); go_wp2_with fail) | skip
  go_ret
  exact ⟨rfl, by first | exact onB HB0.out (by go_grown) | exact below_drewN (onB HB0.out (by go_grown)) _⟩
 obtain ⟨n, rfl⟩ : ∃ n : Nat, x = n := ⟨x.toNat, by omega⟩
 exact rcorner_core n AL cL L w (by omega) (by omega) hL
end Go.Proofs.Ytfngmnhkhfgmjad
