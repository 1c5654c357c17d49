/-
  The walk of tallylaw1.InputTells: what is wrong with any entries, what is written at any place, with a number there, without; edit by edit: the program answers as the document does.
-/
import Derived.Test.YtfngmnhkhfgmjacDoorJIBP
namespace Go.Proofs.YtfngmnhkhfgmjacDoor
open Go.ChangeShapes Go.WideShapes Go.ChangeAt Go.RowKit
set_option maxRecDepth 20000
theorem same_err (c : Int) (w : World) (hk : Kind0 w) : Calls Tryd.prog 10 #[errV c, .int .i64 c] w fun e w' => e = .returned (.bool true) ∧ Below w.heap.size w w' := by
 by_cases h : c = 0
 ·subst h
  have := same_nil 0 w
  simpa [errV] using this
 ·rw [errV_some h]
  have := same_hit c c w hk
  simpa using this
theorem same_of {D : Nat → Dm} {n : Nat} (A B : Option Addr) (ca cb : Nat) (zs ws : List EnL) (L : List En) (w : World) (hz : lE zs = L) (hw : lE ws = L) (hOk : L = [] ∨ Ens D n L) (hA : EnsV w A ca zs) (hB : EnsV w B cb ws) : Calls Tryd.prog 21 #[.slice A zs.length ca, .slice B ws.length cb] w fun e w' => e = .returned (.bool true) ∧ Below w.heap.size w w' := by
 refine sameents_any A B ca cb zs ws w (hz.trans hw.symm) ?_ ?_ hA hB
 ·rcases hOk with h | h
  ·rw [← lE_len, hz, h]; simp
  ·have := h.few; rw [← hz, lE_len] at this; exact this
 ·rcases hOk with h | h
  ·intro k hk; rw [← lE_len, hz, h] at hk; simp at hk
  ·rw [← hz] at h; exact fresh_of h
theorem edits_ens {D : Nat → Dm} {n : Nat} : ∀ (xs : List Ed) (l : List En) (i : Nat), Ens D n l → (editsFrom D n l i xs).1 = [] ∨ Ens D n (editsFrom D n l i xs).1
 | [], l, i, h => Or.inr h
 | x :: r, l, i, h => by
  by_cases he : editErr D n l x = 0
  ·rw [editsFrom_ok r he]
   exact edits_ens r _ _ (h.edit he).2
  ·rw [editsFrom_bad r he]
   exact Or.inl rfl
theorem editsV_ens (D : Nat → Dm) (n : Nat) (l : List En) (xs : List Ed) : (editsV D n l xs).1 = [] ∨ Ens D n (editsV D n l xs).1 := by
 unfold editsV
 split
 ·exact Or.inl rfl
 ·split
  ·exact Or.inl rfl
  ·rename_i h
   exact edits_ens xs l 0 (ens_of (by simpa using h))
theorem change_ens {D : Nat → Dm} {n : Nat} {l : List En} (x : Ed) : pickL (changeErr D n l x) (editV l x) = [] ∨ Ens D n (pickL (changeErr D n l x) (editV l x)) := by
 by_cases h : changeErr D n l x = 0
 ·have he : entsErr D n l = 0 := Decidable.byContradiction fun h1 => h1 (by rw [← change_bad x h1]; exact h)
  have h2 := h
  rw [change_in x he] at h2
  rw [h, pickL_in]
  exact Or.inr ((ens_of he).edit h2).2
 ·exact Or.inl (pickL_bad h _)
def CellB (q : Nat) (a b : Int) (w : World) : Prop := q < w.heap.size ∧ w.cell? ⟨q, 0, none⟩ = some (.int .i64 a) ∧ w.cell? ⟨q, 1, none⟩ = some (.int .i64 b)
theorem CellB.later {q : Nat} {a b : Int} {w w' : World} (h : CellB q a b w) (hB : Below w.heap.size w w') : CellB q a b w' := ⟨Nat.lt_of_lt_of_le h.1 hB.size, (hB.cell (p := ⟨q, 0, none⟩) h.1).trans h.2.1, (hB.cell (p := ⟨q, 1, none⟩) h.1).trans h.2.2⟩
theorem CellB.new (w : World) (a b : Int) : CellB w.heap.size a b (w.alloc (.cells #[.int .i64 a, .int .i64 b] 49)) := ⟨by simp, by simp, by simp⟩
theorem CellB.set {q : Nat} {w : World} {x y : Int} (h : w.heap[q]? = some (.cells #[.int .i64 0, .int .i64 0] 49)) : CellB q x y ((w.setCell ⟨q, 0, none⟩ (.int .i64 x)).setCell ⟨q, 1, none⟩ (.int .i64 y)) := by
 have d0 : w.cell? ⟨q, 0, none⟩ = some (.int .i64 0) := by rw [Lib.cell_of_heap h]; rfl
 have d1 : w.cell? ⟨q, 1, none⟩ = some (.int .i64 0) := by rw [Lib.cell_of_heap h]; rfl
 have hq : q < w.heap.size := (Array.getElem?_eq_some_iff.1 h).1
 refine ⟨by simpa using hq, ?_, ?_⟩ <;> simp [go_sem, d0, d1]
structure Tells (W : World) (A0 : Option Addr) (cap n : Nat) (AE : Option Addr) (nx ce : Nat) (Ap : Option Addr) (m cp : Nat) (N : Int) (AX : Option Addr) (ny cx : Nat) (E G a1 a2 e1 e2 k5 e5 : Int) (L1 L2 L5 : List En) : Prop where
 entries : ∀ w', Below W.heap.size W w' → Calls Tryd.prog 14 #[.agg #[.slice A0 n cap], .slice AE nx ce] w' fun e w'' => e = .returned (.int .i64 E) ∧ Below w'.heap.size w' w''
 check : ∀ w', Below W.heap.size W w' → Calls Tryd.prog 15 #[.agg #[.slice A0 n cap], .slice AE nx ce] w' fun e w'' => e = .returned (errV E) ∧ Below w'.heap.size w' w''
 err : ∀ (c : Int) w', Below W.heap.size W w' → Calls Tryd.prog 10 #[errV c, .int .i64 c] w' fun e w'' => e = .returned (.bool true) ∧ Below w'.heap.size w' w''
 get : ∀ w', Below W.heap.size W w' → Calls Tryd.prog 18 #[.agg #[.slice A0 n cap], .slice AE nx ce, .slice Ap m cp] w' fun e w'' => e = .returned (.tuple #[.agg #[.int .i64 a1, .int .i64 a2], errV G]) ∧ Below w'.heap.size w' w''
 set : ∀ w', Below W.heap.size W w' → Calls Tryd.prog 20 #[.agg #[.slice A0 n cap], .slice AE nx ce, .slice Ap m cp, .int .i64 N] w' fun e w'' => (∃ B c zs, e = .returned (.tuple #[.slice B zs.length c, errV e1]) ∧ EnsV w'' B c zs ∧ lE zs = L1) ∧ Below w'.heap.size w' w''
 clr : ∀ w', Below W.heap.size W w' → Calls Tryd.prog 22 #[.agg #[.slice A0 n cap], .slice AE nx ce, .slice Ap m cp] w' fun e w'' => (∃ B c zs, e = .returned (.tuple #[.slice B zs.length c, errV e2]) ∧ EnsV w'' B c zs ∧ lE zs = L2) ∧ Below w'.heap.size w' w''
 edits : ∀ w', Below W.heap.size W w' → Calls Tryd.prog 23 #[.agg #[.slice A0 n cap], .slice AE nx ce, .slice AX ny cx] w' fun e w'' => (∃ B c zs, e = .returned (.tuple #[.slice B zs.length c, .int .i64 k5, .int .i64 e5]) ∧ EnsV w'' B c zs ∧ lE zs = L5) ∧ Below w'.heap.size w' w''
 all : ∀ w', Below W.heap.size W w' → Calls Tryd.prog 24 #[.agg #[.slice A0 n cap], .slice AE nx ce, .slice AX ny cx] w' fun e w'' => (∃ B c zs, e = .returned (.tuple #[.slice B zs.length c, .int .i64 k5, errV e5]) ∧ EnsV w'' B c zs ∧ lE zs = L5) ∧ Below w'.heap.size w' w''
 same : ∀ (A B : Option Addr) (ca cb : Nat) (zs ws : List EnL) (l : List En) w', l = L1 ∨ l = L2 ∨ l = L5 → lE zs = l → lE ws = l → EnsV w' A ca zs → EnsV w' B cb ws → Calls Tryd.prog 21 #[.slice A zs.length ca, .slice B ws.length cb] w' fun e w'' => e = .returned (.bool true) ∧ Below w'.heap.size w' w''
structure TellsIn (W : World) (A0 : Option Addr) (cap n : Nat) (AE : Option Addr) (nx ce : Nat) (Ap : Option Addr) (m cp : Nat) (N : Int) (G e1 e2 : Int) (L1 L2 : List En) : Prop where
 place : ∀ w', Below W.heap.size W w' → Calls Tryd.prog 16 #[.agg #[.slice A0 n cap], .slice Ap m cp] w' fun e w'' => e = .returned (.int .i64 G) ∧ Below w'.heap.size w' w''
 rset : ∀ w', Below W.heap.size W w' → Calls Tryd.prog 19 #[.agg #[.slice A0 n cap], .slice AE nx ce, .agg #[.slice Ap m cp, .int .i64 N, .bool false]] w' fun e w'' => (∃ B c zs, e = .returned (.tuple #[.slice B zs.length c, .int .i64 e1]) ∧ EnsN w'' B c zs ∧ lE zs = L1) ∧ Below w'.heap.size w' w''
 rclr : ∀ w', Below W.heap.size W w' → Calls Tryd.prog 19 #[.agg #[.slice A0 n cap], .slice AE nx ce, .agg #[.slice Ap m cp, .int .i64 0, .bool true]] w' fun e w'' => (∃ B c zs, e = .returned (.tuple #[.slice B zs.length c, .int .i64 e2]) ∧ EnsN w'' B c zs ∧ lE zs = L2) ∧ Below w'.heap.size w' w''
structure TellsC (W : World) (AE : Option Addr) (nx ce : Nat) (Ap : Option Addr) (m cp : Nat) (a1 a2 : Int) : Prop where
 input : ∀ w', Below W.heap.size W w' → Calls Tryd.prog 17 #[.slice AE nx ce, .slice Ap m cp] w' fun e w'' => e = .returned (.agg #[.int .i64 a1, .int .i64 a2]) ∧ Below w'.heap.size w' w''
set_option maxHeartbeats 64000000 in
theorem tells_a (A0 : Option Addr) (cap n : Nat) (AE : Option Addr) (nx ce : Nat) (Ap : Option Addr) (m cp : Nat) (N : Int) (AX : Option Addr) (ny cx : Nat) (E G a1 a2 e1 e2 k5 e5 : Int) (L1 L2 L5 : List En) (w : World) (hT : Tells (ownOut w A0 n cap 24) A0 cap n AE nx ce Ap m cp N AX ny cx E G a1 a2 e1 e2 k5 e5 L1 L2 L5) (hE : E ≠ 0) (hL : L1 = [] ∧ L2 = []) (he : E = e1 ∧ E = e2 ∧ E = G) (ha : a1 = 0 ∧ a2 = 0) :
  Calls Tryd.prog 5 #[.agg #[.slice A0 n cap], .slice AE nx ce, .slice Ap m cp, .int .i64 N, .slice AX ny cx] w fun e w' => e = .returned (.bool true) ∧ Below w.heap.size w w' := by
 obtain ⟨rfl, rfl, rfl⟩ := he
 obtain ⟨rfl, rfl⟩ := ha
 obtain ⟨h1l, h2l⟩ := hL
 have HL1 : Hid (lE [] = L1) := by show _ = _; rw [h1l]; rfl
 have HL2 : Hid (lE [] = L2) := by show _ = _; rw [h2l]; rfl
 clear h1l h2l
 obtain ⟨W, hW⟩ : ∃ W, w.alloc (.cells #[.slice A0 n cap] 24) = W := ⟨_, rfl⟩
 have hW' : ownOut w A0 n cap 24 = W := hW
 rw [hW'] at hT
 have HB0 : Hid (Below w.heap.size w W) := by show Below ..; rw [← hW']; exact ownOut_below ..
 have HQ : Hid (w.heap.size < W.heap.size ∧ W.cell? ⟨w.heap.size, 0, none⟩ = some (.slice A0 n cap)) := by rw [← hW']; exact ⟨by rw [ownOut_size]; omega, ownOut_at ..⟩
 have HBW : Hid (Below W.heap.size W W) := Below.refl _ _
 have HT : Hid _ := hT
 clear hT hW'
 have hE' : (E == 0) = false := by simpa using hE
 clear hE
 go_enter Tryd.func5, Tryd.ntmps5
 have h1 := HT.out.entries W HBW.out
 have c1 : W.cell? ⟨w.heap.size, 0, none⟩ = some (.slice A0 n cap) := (HBW.out.cell (p := ⟨w.heap.size, 0, none⟩) HQ.out.1).trans HQ.out.2
 go_wp2_with fail
 clear hW
 refine h1.mono ?_
 rintro e w1 ⟨rfl, hb⟩
 have HB1 : Hid (Below W.heap.size W w1) := onB HBW.out hb
 clear hb h1 c1
 have h2 := HT.out.check w1 HB1.out
 have c2 : w1.cell? ⟨w.heap.size, 0, none⟩ = some (.slice A0 n cap) := (HB1.out.cell (p := ⟨w.heap.size, 0, none⟩) HQ.out.1).trans HQ.out.2
 go_wp2_with fail
 refine h2.mono ?_
 rintro e w2 ⟨rfl, hb⟩
 have HB2 : Hid (Below W.heap.size W w2) := onB HB1.out hb
 clear hb h2 c2 HB1
 have h3 := HT.out.err E w2 HB2.out
 have c3 : w2.cell? ⟨w.heap.size, 0, none⟩ = some (.slice A0 n cap) := (HB2.out.cell (p := ⟨w.heap.size, 0, none⟩) HQ.out.1).trans HQ.out.2
 go_wp2_with fail
 refine h3.mono ?_
 rintro e w3 ⟨rfl, hb⟩
 have HB3 : Hid (Below W.heap.size W w3) := onB HB2.out hb
 clear hb h3 c3 HB2
 obtain ⟨v3, hv3⟩ : ∃ v, w3.alloc (.cells #[.int .i64 0, .int .i64 0] 49) = v := ⟨_, rfl⟩
 have hbv : Below w3.heap.size w3 v3 := by rw [← hv3]; go_grown
 have HBv : Hid (Below W.heap.size W v3) := onB HB3.out hbv
 have HQc : Hid (w3.heap.size = w3.heap.size ∧ W.heap.size ≤ w3.heap.size) := ⟨rfl, HB3.out.size⟩
 have Lc : Hid (CellB w3.heap.size 0 0 v3) := by show CellB ..; rw [← hv3]; exact CellB.new ..
 clear hbv
 have h4 := HT.out.get v3 HBv.out
 have c4 : v3.cell? ⟨w.heap.size, 0, none⟩ = some (.slice A0 n cap) := (HBv.out.cell (p := ⟨w.heap.size, 0, none⟩) HQ.out.1).trans HQ.out.2
 go_wp2_with fail
 clear hv3
 refine h4.mono ?_
 rintro e w4 ⟨rfl, hb⟩
 have HB4 : Hid (Below W.heap.size W w4) := onB HBv.out hb
 have Lcx4 : Hid (CellB w3.heap.size 0 0 w4) := Lc.out.later hb
 clear Lc
 clear hb h4 c4 HBv
 obtain ⟨v4, hv4⟩ : ∃ v, w4.alloc (.cells #[.int .i64 0, .int .i64 0] 49) = v := ⟨_, rfl⟩
 have hb : Below w4.heap.size w4 v4 := by rw [← hv4]; go_grown
 have HBg : Hid (Below W.heap.size W v4) := onB HB4.out hb
 have Lcx4g : Hid (CellB w3.heap.size 0 0 v4) := Lcx4.out.later hb
 clear Lcx4
 have Lg : Hid (CellB w4.heap.size 0 0 v4) := by show CellB ..; rw [← hv4]; exact CellB.new ..
 clear hb
 have HVg : Hid (w4.alloc (.cells #[.int .i64 0, .int .i64 0] 49) = v4) := hv4
 clear hv4
 have h5 := HT.out.err E v4 HBg.out
 have c5 : v4.cell? ⟨w.heap.size, 0, none⟩ = some (.slice A0 n cap) := (HBg.out.cell (p := ⟨w.heap.size, 0, none⟩) HQ.out.1).trans HQ.out.2
 go_wp2_with fail
 rw [HVg.out]
 clear HVg
 refine h5.mono ?_
 rintro e w5 ⟨rfl, hb⟩
 have HB5 : Hid (Below W.heap.size W w5) := onB HBg.out hb
 have Lcx4gx5 : Hid (CellB w3.heap.size 0 0 w5) := Lcx4g.out.later hb
 have Lgx5 : Hid (CellB w4.heap.size 0 0 w5) := Lg.out.later hb
 clear Lcx4g
 clear Lg
 clear hb h5 c5 HBg
 have h6 := HT.out.set w5 HB5.out
 have c6 : w5.cell? ⟨w.heap.size, 0, none⟩ = some (.slice A0 n cap) := (HB5.out.cell (p := ⟨w.heap.size, 0, none⟩) HQ.out.1).trans HQ.out.2
 go_wp2_with fail
 refine h6.mono ?_
 rintro e w6 ⟨⟨Y1, y1, ys1, rfl, hV, hl⟩, hb⟩
 have HB6 : Hid (Below W.heap.size W w6) := onB HB5.out hb
 have Lcx4gx5x6 : Hid (CellB w3.heap.size 0 0 w6) := Lcx4gx5.out.later hb
 have Lgx5x6 : Hid (CellB w4.heap.size 0 0 w6) := Lgx5.out.later hb
 clear Lcx4gx5
 clear Lgx5
 have Ly1 : Hid (EnsV w6 Y1 y1 ys1) := hV
 clear hb h6 c6 HB5
 have HLy1 : Hid (lE ys1 = L1) := hl
 clear hV hl
 have h7 := HT.out.err E w6 HB6.out
 have c7 : w6.cell? ⟨w.heap.size, 0, none⟩ = some (.slice A0 n cap) := (HB6.out.cell (p := ⟨w.heap.size, 0, none⟩) HQ.out.1).trans HQ.out.2
 go_wp2_with fail
 refine h7.mono ?_
 rintro e w7 ⟨rfl, hb⟩
 have HB7 : Hid (Below W.heap.size W w7) := onB HB6.out hb
 have Lcx4gx5x6x7 : Hid (CellB w3.heap.size 0 0 w7) := Lcx4gx5x6.out.later hb
 have Lgx5x6x7 : Hid (CellB w4.heap.size 0 0 w7) := Lgx5x6.out.later hb
 have Ly1x7 : Hid (EnsV w7 Y1 y1 ys1) := Ly1.out.later hb
 clear Lcx4gx5x6
 clear Lgx5x6
 clear Ly1
 clear hb h7 c7 HB6
 have h8 := HT.out.same Y1 none y1 0 ys1 [] L1 w7 (Or.inl rfl) HLy1.out HL1.out Ly1x7.out (EnsV.nil _ _ _ (by decide))
 have c8 : w7.cell? ⟨w.heap.size, 0, none⟩ = some (.slice A0 n cap) := (HB7.out.cell (p := ⟨w.heap.size, 0, none⟩) HQ.out.1).trans HQ.out.2
 go_wp2_with fail
 refine h8.mono ?_
 rintro e w8 ⟨rfl, hb⟩
 have HB8 : Hid (Below W.heap.size W w8) := onB HB7.out hb
 have Lcx4gx5x6x7x8 : Hid (CellB w3.heap.size 0 0 w8) := Lcx4gx5x6x7.out.later hb
 have Lgx5x6x7x8 : Hid (CellB w4.heap.size 0 0 w8) := Lgx5x6x7.out.later hb
 have Ly1x7x8 : Hid (EnsV w8 Y1 y1 ys1) := Ly1x7.out.later hb
 clear Lcx4gx5x6x7
 clear Lgx5x6x7
 clear Ly1x7
 clear hb h8 c8 HB7
 clear Ly1x7x8
 have h9 := HT.out.clr w8 HB8.out
 have c9 : w8.cell? ⟨w.heap.size, 0, none⟩ = some (.slice A0 n cap) := (HB8.out.cell (p := ⟨w.heap.size, 0, none⟩) HQ.out.1).trans HQ.out.2
 go_wp2_with fail
 refine h9.mono ?_
 rintro e w9 ⟨⟨Y2, y2, ys2, rfl, hV, hl⟩, hb⟩
 have HB9 : Hid (Below W.heap.size W w9) := onB HB8.out hb
 have Lcx4gx5x6x7x8x9 : Hid (CellB w3.heap.size 0 0 w9) := Lcx4gx5x6x7x8.out.later hb
 have Lgx5x6x7x8x9 : Hid (CellB w4.heap.size 0 0 w9) := Lgx5x6x7x8.out.later hb
 clear Lcx4gx5x6x7x8
 clear Lgx5x6x7x8
 have Ly2 : Hid (EnsV w9 Y2 y2 ys2) := hV
 clear hb h9 c9 HB8
 have HLy2 : Hid (lE ys2 = L2) := hl
 clear hV hl
 have h10 := HT.out.err E w9 HB9.out
 have c10 : w9.cell? ⟨w.heap.size, 0, none⟩ = some (.slice A0 n cap) := (HB9.out.cell (p := ⟨w.heap.size, 0, none⟩) HQ.out.1).trans HQ.out.2
 go_wp2_with fail
 refine h10.mono ?_
 rintro e w10 ⟨rfl, hb⟩
 have HB10 : Hid (Below W.heap.size W w10) := onB HB9.out hb
 have Lcx4gx5x6x7x8x9x10 : Hid (CellB w3.heap.size 0 0 w10) := Lcx4gx5x6x7x8x9.out.later hb
 have Lgx5x6x7x8x9x10 : Hid (CellB w4.heap.size 0 0 w10) := Lgx5x6x7x8x9.out.later hb
 have Ly2x10 : Hid (EnsV w10 Y2 y2 ys2) := Ly2.out.later hb
 clear Lcx4gx5x6x7x8x9
 clear Lgx5x6x7x8x9
 clear Ly2
 clear hb h10 c10 HB9
 have h11 := HT.out.same Y2 none y2 0 ys2 [] L2 w10 (Or.inr (Or.inl rfl)) HLy2.out HL2.out Ly2x10.out (EnsV.nil _ _ _ (by decide))
 have c11 : w10.cell? ⟨w.heap.size, 0, none⟩ = some (.slice A0 n cap) := (HB10.out.cell (p := ⟨w.heap.size, 0, none⟩) HQ.out.1).trans HQ.out.2
 go_wp2_with fail
 refine h11.mono ?_
 rintro e w11 ⟨rfl, hb⟩
 have HB11 : Hid (Below W.heap.size W w11) := onB HB10.out hb
 have Lcx4gx5x6x7x8x9x10x11 : Hid (CellB w3.heap.size 0 0 w11) := Lcx4gx5x6x7x8x9x10.out.later hb
 have Lgx5x6x7x8x9x10x11 : Hid (CellB w4.heap.size 0 0 w11) := Lgx5x6x7x8x9x10.out.later hb
 have Ly2x10x11 : Hid (EnsV w11 Y2 y2 ys2) := Ly2x10.out.later hb
 clear Lcx4gx5x6x7x8x9x10
 clear Lgx5x6x7x8x9x10
 clear Ly2x10
 clear hb h11 c11 HB10
 clear Ly2x10x11
 have h12 := HT.out.edits w11 HB11.out
 have c12 : w11.cell? ⟨w.heap.size, 0, none⟩ = some (.slice A0 n cap) := (HB11.out.cell (p := ⟨w.heap.size, 0, none⟩) HQ.out.1).trans HQ.out.2
 go_wp2_with fail
 refine h12.mono ?_
 rintro e w12 ⟨⟨R5, r5, rs5, rfl, hV, hl⟩, hb⟩
 have HB12 : Hid (Below W.heap.size W w12) := onB HB11.out hb
 have Lcx4gx5x6x7x8x9x10x11x12 : Hid (CellB w3.heap.size 0 0 w12) := Lcx4gx5x6x7x8x9x10x11.out.later hb
 have Lgx5x6x7x8x9x10x11x12 : Hid (CellB w4.heap.size 0 0 w12) := Lgx5x6x7x8x9x10x11.out.later hb
 clear Lcx4gx5x6x7x8x9x10x11
 clear Lgx5x6x7x8x9x10x11
 have Lr5 : Hid (EnsV w12 R5 r5 rs5) := hV
 clear hb h12 c12 HB11
 have HLr5 : Hid (lE rs5 = L5) := hl
 clear hV hl
 have h13 := HT.out.all w12 HB12.out
 have c13 : w12.cell? ⟨w.heap.size, 0, none⟩ = some (.slice A0 n cap) := (HB12.out.cell (p := ⟨w.heap.size, 0, none⟩) HQ.out.1).trans HQ.out.2
 go_wp2_with fail
 refine h13.mono ?_
 rintro e w13 ⟨⟨Y5, y5, ys5, rfl, hV, hl⟩, hb⟩
 have HB13 : Hid (Below W.heap.size W w13) := onB HB12.out hb
 have Lcx4gx5x6x7x8x9x10x11x12x13 : Hid (CellB w3.heap.size 0 0 w13) := Lcx4gx5x6x7x8x9x10x11x12.out.later hb
 have Lgx5x6x7x8x9x10x11x12x13 : Hid (CellB w4.heap.size 0 0 w13) := Lgx5x6x7x8x9x10x11x12.out.later hb
 have Lr5x13 : Hid (EnsV w13 R5 r5 rs5) := Lr5.out.later hb
 clear Lcx4gx5x6x7x8x9x10x11x12
 clear Lgx5x6x7x8x9x10x11x12
 clear Lr5
 have Ly5 : Hid (EnsV w13 Y5 y5 ys5) := hV
 clear hb h13 c13 HB12
 have HLy5 : Hid (lE ys5 = L5) := hl
 clear hV hl
 have h14 := HT.out.err e5 w13 HB13.out
 have c14 : w13.cell? ⟨w.heap.size, 0, none⟩ = some (.slice A0 n cap) := (HB13.out.cell (p := ⟨w.heap.size, 0, none⟩) HQ.out.1).trans HQ.out.2
 go_wp2_with fail
 refine h14.mono ?_
 rintro e w14 ⟨rfl, hb⟩
 have HB14 : Hid (Below W.heap.size W w14) := onB HB13.out hb
 have Lcx4gx5x6x7x8x9x10x11x12x13x14 : Hid (CellB w3.heap.size 0 0 w14) := Lcx4gx5x6x7x8x9x10x11x12x13.out.later hb
 have Lgx5x6x7x8x9x10x11x12x13x14 : Hid (CellB w4.heap.size 0 0 w14) := Lgx5x6x7x8x9x10x11x12x13.out.later hb
 have Lr5x13x14 : Hid (EnsV w14 R5 r5 rs5) := Lr5x13.out.later hb
 have Ly5x14 : Hid (EnsV w14 Y5 y5 ys5) := Ly5.out.later hb
 clear Lcx4gx5x6x7x8x9x10x11x12x13
 clear Lgx5x6x7x8x9x10x11x12x13
 clear Lr5x13
 clear Ly5
 clear hb h14 c14 HB13
 have h15 := HT.out.same Y5 R5 y5 r5 ys5 rs5 L5 w14 (Or.inr (Or.inr rfl)) HLy5.out HLr5.out Ly5x14.out Lr5x13x14.out
 have c15 : w14.cell? ⟨w.heap.size, 0, none⟩ = some (.slice A0 n cap) := (HB14.out.cell (p := ⟨w.heap.size, 0, none⟩) HQ.out.1).trans HQ.out.2
 go_wp2_with fail
 refine h15.mono ?_
 rintro e w15 ⟨rfl, hb⟩
 have HB15 : Hid (Below W.heap.size W w15) := onB HB14.out hb
 have Lcx4gx5x6x7x8x9x10x11x12x13x14x15 : Hid (CellB w3.heap.size 0 0 w15) := Lcx4gx5x6x7x8x9x10x11x12x13x14.out.later hb
 have Lgx5x6x7x8x9x10x11x12x13x14x15 : Hid (CellB w4.heap.size 0 0 w15) := Lgx5x6x7x8x9x10x11x12x13x14.out.later hb
 have Lr5x13x14x15 : Hid (EnsV w15 R5 r5 rs5) := Lr5x13x14.out.later hb
 have Ly5x14x15 : Hid (EnsV w15 Y5 y5 ys5) := Ly5x14.out.later hb
 clear Lcx4gx5x6x7x8x9x10x11x12x13x14
 clear Lgx5x6x7x8x9x10x11x12x13x14
 clear Lr5x13x14
 clear Ly5x14
 clear hb h15 c15 HB14
 obtain ⟨-, q0, q1⟩ := Lcx4gx5x6x7x8x9x10x11x12x13x14x15.out
 obtain ⟨-, s0, s1⟩ := Lgx5x6x7x8x9x10x11x12x13x14x15.out
 go_wp2_with fail
 go_ret
 exact ⟨rfl, onB HB0.out HB15.out⟩
set_option maxHeartbeats 64000000 in
theorem tells_b (A0 : Option Addr) (cap n : Nat) (AE : Option Addr) (nx ce : Nat) (Ap : Option Addr) (m cp : Nat) (N : Int) (AX : Option Addr) (ny cx : Nat) (E G a1 a2 e1 e2 k5 e5 : Int) (L1 L2 L5 : List En) (w : World) (hT : Tells (ownOut w A0 n cap 24) A0 cap n AE nx ce Ap m cp N AX ny cx E G a1 a2 e1 e2 k5 e5 L1 L2 L5) (hE : E = 0) (hG : G ≠ 0) (ha : a1 = 0 ∧ a2 = 0) (hI : TellsIn (ownOut w A0 n cap 24) A0 cap n AE nx ce Ap m cp N G e1 e2 L1 L2) :
  Calls Tryd.prog 5 #[.agg #[.slice A0 n cap], .slice AE nx ce, .slice Ap m cp, .int .i64 N, .slice AX ny cx] w fun e w' => e = .returned (.bool true) ∧ Below w.heap.size w w' := by
 subst hE
 obtain ⟨rfl, rfl⟩ := ha
 obtain ⟨W, hW⟩ : ∃ W, w.alloc (.cells #[.slice A0 n cap] 24) = W := ⟨_, rfl⟩
 have hW' : ownOut w A0 n cap 24 = W := hW
 rw [hW'] at hT hI
 have HB0 : Hid (Below w.heap.size w W) := by show Below ..; rw [← hW']; exact ownOut_below ..
 have HQ : Hid (w.heap.size < W.heap.size ∧ W.cell? ⟨w.heap.size, 0, none⟩ = some (.slice A0 n cap)) := by rw [← hW']; exact ⟨by rw [ownOut_size]; omega, ownOut_at ..⟩
 have HBW : Hid (Below W.heap.size W W) := Below.refl _ _
 have HT : Hid _ := hT
 have HI : Hid _ := hI
 clear hT hI hW'
 have hG' : (G == 0) = false := by simpa using hG
 clear hG
 go_enter Tryd.func5, Tryd.ntmps5
 have h1 := HT.out.entries W HBW.out
 have c1 : W.cell? ⟨w.heap.size, 0, none⟩ = some (.slice A0 n cap) := (HBW.out.cell (p := ⟨w.heap.size, 0, none⟩) HQ.out.1).trans HQ.out.2
 go_wp2_with fail
 clear hW
 refine h1.mono ?_
 rintro e w1 ⟨rfl, hb⟩
 have HB1 : Hid (Below W.heap.size W w1) := onB HBW.out hb
 clear hb h1 c1
 have h2 := HT.out.check w1 HB1.out
 have c2 : w1.cell? ⟨w.heap.size, 0, none⟩ = some (.slice A0 n cap) := (HB1.out.cell (p := ⟨w.heap.size, 0, none⟩) HQ.out.1).trans HQ.out.2
 go_wp2_with fail
 refine h2.mono ?_
 rintro e w2 ⟨rfl, hb⟩
 have HB2 : Hid (Below W.heap.size W w2) := onB HB1.out hb
 clear hb h2 c2 HB1
 have h3 := HT.out.err 0 w2 HB2.out
 have c3 : w2.cell? ⟨w.heap.size, 0, none⟩ = some (.slice A0 n cap) := (HB2.out.cell (p := ⟨w.heap.size, 0, none⟩) HQ.out.1).trans HQ.out.2
 go_wp2_with fail
 refine h3.mono ?_
 rintro e w3 ⟨rfl, hb⟩
 have HB3 : Hid (Below W.heap.size W w3) := onB HB2.out hb
 clear hb h3 c3 HB2
 have h4 := HI.out.place w3 HB3.out
 have c4 : w3.cell? ⟨w.heap.size, 0, none⟩ = some (.slice A0 n cap) := (HB3.out.cell (p := ⟨w.heap.size, 0, none⟩) HQ.out.1).trans HQ.out.2
 go_wp2_with fail
 refine h4.mono ?_
 rintro e w4 ⟨rfl, hb⟩
 have HB4 : Hid (Below W.heap.size W w4) := onB HB3.out hb
 clear hb h4 c4 HB3
 obtain ⟨v4, hv4⟩ : ∃ v, w4.alloc (.cells #[.int .i64 0, .int .i64 0] 49) = v := ⟨_, rfl⟩
 have hbv : Below w4.heap.size w4 v4 := by rw [← hv4]; go_grown
 have HBv : Hid (Below W.heap.size W v4) := onB HB4.out hbv
 have HQc : Hid (w4.heap.size = w4.heap.size ∧ W.heap.size ≤ w4.heap.size) := ⟨rfl, HB4.out.size⟩
 have Lc : Hid (CellB w4.heap.size 0 0 v4) := by show CellB ..; rw [← hv4]; exact CellB.new ..
 clear hbv
 have h5 := HT.out.get v4 HBv.out
 have c5 : v4.cell? ⟨w.heap.size, 0, none⟩ = some (.slice A0 n cap) := (HBv.out.cell (p := ⟨w.heap.size, 0, none⟩) HQ.out.1).trans HQ.out.2
 go_wp2_with fail
 clear hv4
 refine h5.mono ?_
 rintro e w5 ⟨rfl, hb⟩
 have HB5 : Hid (Below W.heap.size W w5) := onB HBv.out hb
 have Lcx5 : Hid (CellB w4.heap.size 0 0 w5) := Lc.out.later hb
 clear Lc
 clear hb h5 c5 HBv
 obtain ⟨v5, hv5⟩ : ∃ v, w5.alloc (.cells #[.int .i64 0, .int .i64 0] 49) = v := ⟨_, rfl⟩
 have hb : Below w5.heap.size w5 v5 := by rw [← hv5]; go_grown
 have HBg : Hid (Below W.heap.size W v5) := onB HB5.out hb
 have Lcx5g : Hid (CellB w4.heap.size 0 0 v5) := Lcx5.out.later hb
 clear Lcx5
 have Lg : Hid (CellB w5.heap.size 0 0 v5) := by show CellB ..; rw [← hv5]; exact CellB.new ..
 clear hb
 have HVg : Hid (w5.alloc (.cells #[.int .i64 0, .int .i64 0] 49) = v5) := hv5
 clear hv5
 have h6 := HT.out.err G v5 HBg.out
 have c6 : v5.cell? ⟨w.heap.size, 0, none⟩ = some (.slice A0 n cap) := (HBg.out.cell (p := ⟨w.heap.size, 0, none⟩) HQ.out.1).trans HQ.out.2
 go_wp2_with fail
 rw [HVg.out]
 clear HVg
 refine h6.mono ?_
 rintro e w6 ⟨rfl, hb⟩
 have HB6 : Hid (Below W.heap.size W w6) := onB HBg.out hb
 have Lcx5gx6 : Hid (CellB w4.heap.size 0 0 w6) := Lcx5g.out.later hb
 have Lgx6 : Hid (CellB w5.heap.size 0 0 w6) := Lg.out.later hb
 clear Lcx5g
 clear Lg
 clear hb h6 c6 HBg
 have h7 := HI.out.rset w6 HB6.out
 have c7 : w6.cell? ⟨w.heap.size, 0, none⟩ = some (.slice A0 n cap) := (HB6.out.cell (p := ⟨w.heap.size, 0, none⟩) HQ.out.1).trans HQ.out.2
 go_wp2_with fail
 refine h7.mono ?_
 rintro e w7 ⟨⟨R1, r1, rs1, rfl, hV, hl⟩, hb⟩
 have HB7 : Hid (Below W.heap.size W w7) := onB HB6.out hb
 have Lcx5gx6x7 : Hid (CellB w4.heap.size 0 0 w7) := Lcx5gx6.out.later hb
 have Lgx6x7 : Hid (CellB w5.heap.size 0 0 w7) := Lgx6.out.later hb
 clear Lcx5gx6
 clear Lgx6
 have Lr1 : Hid (EnsV w7 R1 r1 rs1) := hV.1
 clear hb h7 c7 HB6
 have HLr1 : Hid (lE rs1 = L1) := hl
 clear hV hl
 have h8 := HT.out.set w7 HB7.out
 have c8 : w7.cell? ⟨w.heap.size, 0, none⟩ = some (.slice A0 n cap) := (HB7.out.cell (p := ⟨w.heap.size, 0, none⟩) HQ.out.1).trans HQ.out.2
 go_wp2_with fail
 refine h8.mono ?_
 rintro e w8 ⟨⟨Y1, y1, ys1, rfl, hV, hl⟩, hb⟩
 have HB8 : Hid (Below W.heap.size W w8) := onB HB7.out hb
 have Lcx5gx6x7x8 : Hid (CellB w4.heap.size 0 0 w8) := Lcx5gx6x7.out.later hb
 have Lgx6x7x8 : Hid (CellB w5.heap.size 0 0 w8) := Lgx6x7.out.later hb
 have Lr1x8 : Hid (EnsV w8 R1 r1 rs1) := Lr1.out.later hb
 clear Lcx5gx6x7
 clear Lgx6x7
 clear Lr1
 have Ly1 : Hid (EnsV w8 Y1 y1 ys1) := hV
 clear hb h8 c8 HB7
 have HLy1 : Hid (lE ys1 = L1) := hl
 clear hV hl
 have h9 := HT.out.err e1 w8 HB8.out
 have c9 : w8.cell? ⟨w.heap.size, 0, none⟩ = some (.slice A0 n cap) := (HB8.out.cell (p := ⟨w.heap.size, 0, none⟩) HQ.out.1).trans HQ.out.2
 go_wp2_with fail
 refine h9.mono ?_
 rintro e w9 ⟨rfl, hb⟩
 have HB9 : Hid (Below W.heap.size W w9) := onB HB8.out hb
 have Lcx5gx6x7x8x9 : Hid (CellB w4.heap.size 0 0 w9) := Lcx5gx6x7x8.out.later hb
 have Lgx6x7x8x9 : Hid (CellB w5.heap.size 0 0 w9) := Lgx6x7x8.out.later hb
 have Lr1x8x9 : Hid (EnsV w9 R1 r1 rs1) := Lr1x8.out.later hb
 have Ly1x9 : Hid (EnsV w9 Y1 y1 ys1) := Ly1.out.later hb
 clear Lcx5gx6x7x8
 clear Lgx6x7x8
 clear Lr1x8
 clear Ly1
 clear hb h9 c9 HB8
 have h10 := HT.out.same Y1 R1 y1 r1 ys1 rs1 L1 w9 (Or.inl rfl) HLy1.out HLr1.out Ly1x9.out Lr1x8x9.out
 have c10 : w9.cell? ⟨w.heap.size, 0, none⟩ = some (.slice A0 n cap) := (HB9.out.cell (p := ⟨w.heap.size, 0, none⟩) HQ.out.1).trans HQ.out.2
 go_wp2_with fail
 refine h10.mono ?_
 rintro e w10 ⟨rfl, hb⟩
 have HB10 : Hid (Below W.heap.size W w10) := onB HB9.out hb
 have Lcx5gx6x7x8x9x10 : Hid (CellB w4.heap.size 0 0 w10) := Lcx5gx6x7x8x9.out.later hb
 have Lgx6x7x8x9x10 : Hid (CellB w5.heap.size 0 0 w10) := Lgx6x7x8x9.out.later hb
 have Lr1x8x9x10 : Hid (EnsV w10 R1 r1 rs1) := Lr1x8x9.out.later hb
 have Ly1x9x10 : Hid (EnsV w10 Y1 y1 ys1) := Ly1x9.out.later hb
 clear Lcx5gx6x7x8x9
 clear Lgx6x7x8x9
 clear Lr1x8x9
 clear Ly1x9
 clear hb h10 c10 HB9
 clear Ly1x9x10
 clear Lr1x8x9x10
 have h11 := HI.out.rclr w10 HB10.out
 have c11 : w10.cell? ⟨w.heap.size, 0, none⟩ = some (.slice A0 n cap) := (HB10.out.cell (p := ⟨w.heap.size, 0, none⟩) HQ.out.1).trans HQ.out.2
 go_wp2_with fail
 refine h11.mono ?_
 rintro e w11 ⟨⟨R2, r2, rs2, rfl, hV, hl⟩, hb⟩
 have HB11 : Hid (Below W.heap.size W w11) := onB HB10.out hb
 have Lcx5gx6x7x8x9x10x11 : Hid (CellB w4.heap.size 0 0 w11) := Lcx5gx6x7x8x9x10.out.later hb
 have Lgx6x7x8x9x10x11 : Hid (CellB w5.heap.size 0 0 w11) := Lgx6x7x8x9x10.out.later hb
 clear Lcx5gx6x7x8x9x10
 clear Lgx6x7x8x9x10
 have Lr2 : Hid (EnsV w11 R2 r2 rs2) := hV.1
 clear hb h11 c11 HB10
 have HLr2 : Hid (lE rs2 = L2) := hl
 clear hV hl
 have h12 := HT.out.clr w11 HB11.out
 have c12 : w11.cell? ⟨w.heap.size, 0, none⟩ = some (.slice A0 n cap) := (HB11.out.cell (p := ⟨w.heap.size, 0, none⟩) HQ.out.1).trans HQ.out.2
 go_wp2_with fail
 refine h12.mono ?_
 rintro e w12 ⟨⟨Y2, y2, ys2, rfl, hV, hl⟩, hb⟩
 have HB12 : Hid (Below W.heap.size W w12) := onB HB11.out hb
 have Lcx5gx6x7x8x9x10x11x12 : Hid (CellB w4.heap.size 0 0 w12) := Lcx5gx6x7x8x9x10x11.out.later hb
 have Lgx6x7x8x9x10x11x12 : Hid (CellB w5.heap.size 0 0 w12) := Lgx6x7x8x9x10x11.out.later hb
 have Lr2x12 : Hid (EnsV w12 R2 r2 rs2) := Lr2.out.later hb
 clear Lcx5gx6x7x8x9x10x11
 clear Lgx6x7x8x9x10x11
 clear Lr2
 have Ly2 : Hid (EnsV w12 Y2 y2 ys2) := hV
 clear hb h12 c12 HB11
 have HLy2 : Hid (lE ys2 = L2) := hl
 clear hV hl
 have h13 := HT.out.err e2 w12 HB12.out
 have c13 : w12.cell? ⟨w.heap.size, 0, none⟩ = some (.slice A0 n cap) := (HB12.out.cell (p := ⟨w.heap.size, 0, none⟩) HQ.out.1).trans HQ.out.2
 go_wp2_with fail
 refine h13.mono ?_
 rintro e w13 ⟨rfl, hb⟩
 have HB13 : Hid (Below W.heap.size W w13) := onB HB12.out hb
 have Lcx5gx6x7x8x9x10x11x12x13 : Hid (CellB w4.heap.size 0 0 w13) := Lcx5gx6x7x8x9x10x11x12.out.later hb
 have Lgx6x7x8x9x10x11x12x13 : Hid (CellB w5.heap.size 0 0 w13) := Lgx6x7x8x9x10x11x12.out.later hb
 have Lr2x12x13 : Hid (EnsV w13 R2 r2 rs2) := Lr2x12.out.later hb
 have Ly2x13 : Hid (EnsV w13 Y2 y2 ys2) := Ly2.out.later hb
 clear Lcx5gx6x7x8x9x10x11x12
 clear Lgx6x7x8x9x10x11x12
 clear Lr2x12
 clear Ly2
 clear hb h13 c13 HB12
 have h14 := HT.out.same Y2 R2 y2 r2 ys2 rs2 L2 w13 (Or.inr (Or.inl rfl)) HLy2.out HLr2.out Ly2x13.out Lr2x12x13.out
 have c14 : w13.cell? ⟨w.heap.size, 0, none⟩ = some (.slice A0 n cap) := (HB13.out.cell (p := ⟨w.heap.size, 0, none⟩) HQ.out.1).trans HQ.out.2
 go_wp2_with fail
 refine h14.mono ?_
 rintro e w14 ⟨rfl, hb⟩
 have HB14 : Hid (Below W.heap.size W w14) := onB HB13.out hb
 have Lcx5gx6x7x8x9x10x11x12x13x14 : Hid (CellB w4.heap.size 0 0 w14) := Lcx5gx6x7x8x9x10x11x12x13.out.later hb
 have Lgx6x7x8x9x10x11x12x13x14 : Hid (CellB w5.heap.size 0 0 w14) := Lgx6x7x8x9x10x11x12x13.out.later hb
 have Lr2x12x13x14 : Hid (EnsV w14 R2 r2 rs2) := Lr2x12x13.out.later hb
 have Ly2x13x14 : Hid (EnsV w14 Y2 y2 ys2) := Ly2x13.out.later hb
 clear Lcx5gx6x7x8x9x10x11x12x13
 clear Lgx6x7x8x9x10x11x12x13
 clear Lr2x12x13
 clear Ly2x13
 clear hb h14 c14 HB13
 clear Ly2x13x14
 clear Lr2x12x13x14
 have h15 := HT.out.edits w14 HB14.out
 have c15 : w14.cell? ⟨w.heap.size, 0, none⟩ = some (.slice A0 n cap) := (HB14.out.cell (p := ⟨w.heap.size, 0, none⟩) HQ.out.1).trans HQ.out.2
 go_wp2_with fail
 refine h15.mono ?_
 rintro e w15 ⟨⟨R5, r5, rs5, rfl, hV, hl⟩, hb⟩
 have HB15 : Hid (Below W.heap.size W w15) := onB HB14.out hb
 have Lcx5gx6x7x8x9x10x11x12x13x14x15 : Hid (CellB w4.heap.size 0 0 w15) := Lcx5gx6x7x8x9x10x11x12x13x14.out.later hb
 have Lgx6x7x8x9x10x11x12x13x14x15 : Hid (CellB w5.heap.size 0 0 w15) := Lgx6x7x8x9x10x11x12x13x14.out.later hb
 clear Lcx5gx6x7x8x9x10x11x12x13x14
 clear Lgx6x7x8x9x10x11x12x13x14
 have Lr5 : Hid (EnsV w15 R5 r5 rs5) := hV
 clear hb h15 c15 HB14
 have HLr5 : Hid (lE rs5 = L5) := hl
 clear hV hl
 have h16 := HT.out.all w15 HB15.out
 have c16 : w15.cell? ⟨w.heap.size, 0, none⟩ = some (.slice A0 n cap) := (HB15.out.cell (p := ⟨w.heap.size, 0, none⟩) HQ.out.1).trans HQ.out.2
 go_wp2_with fail
 refine h16.mono ?_
 rintro e w16 ⟨⟨Y5, y5, ys5, rfl, hV, hl⟩, hb⟩
 have HB16 : Hid (Below W.heap.size W w16) := onB HB15.out hb
 have Lcx5gx6x7x8x9x10x11x12x13x14x15x16 : Hid (CellB w4.heap.size 0 0 w16) := Lcx5gx6x7x8x9x10x11x12x13x14x15.out.later hb
 have Lgx6x7x8x9x10x11x12x13x14x15x16 : Hid (CellB w5.heap.size 0 0 w16) := Lgx6x7x8x9x10x11x12x13x14x15.out.later hb
 have Lr5x16 : Hid (EnsV w16 R5 r5 rs5) := Lr5.out.later hb
 clear Lcx5gx6x7x8x9x10x11x12x13x14x15
 clear Lgx6x7x8x9x10x11x12x13x14x15
 clear Lr5
 have Ly5 : Hid (EnsV w16 Y5 y5 ys5) := hV
 clear hb h16 c16 HB15
 have HLy5 : Hid (lE ys5 = L5) := hl
 clear hV hl
 have h17 := HT.out.err e5 w16 HB16.out
 have c17 : w16.cell? ⟨w.heap.size, 0, none⟩ = some (.slice A0 n cap) := (HB16.out.cell (p := ⟨w.heap.size, 0, none⟩) HQ.out.1).trans HQ.out.2
 go_wp2_with fail
 refine h17.mono ?_
 rintro e w17 ⟨rfl, hb⟩
 have HB17 : Hid (Below W.heap.size W w17) := onB HB16.out hb
 have Lcx5gx6x7x8x9x10x11x12x13x14x15x16x17 : Hid (CellB w4.heap.size 0 0 w17) := Lcx5gx6x7x8x9x10x11x12x13x14x15x16.out.later hb
 have Lgx6x7x8x9x10x11x12x13x14x15x16x17 : Hid (CellB w5.heap.size 0 0 w17) := Lgx6x7x8x9x10x11x12x13x14x15x16.out.later hb
 have Lr5x16x17 : Hid (EnsV w17 R5 r5 rs5) := Lr5x16.out.later hb
 have Ly5x17 : Hid (EnsV w17 Y5 y5 ys5) := Ly5.out.later hb
 clear Lcx5gx6x7x8x9x10x11x12x13x14x15x16
 clear Lgx6x7x8x9x10x11x12x13x14x15x16
 clear Lr5x16
 clear Ly5
 clear hb h17 c17 HB16
 have h18 := HT.out.same Y5 R5 y5 r5 ys5 rs5 L5 w17 (Or.inr (Or.inr rfl)) HLy5.out HLr5.out Ly5x17.out Lr5x16x17.out
 have c18 : w17.cell? ⟨w.heap.size, 0, none⟩ = some (.slice A0 n cap) := (HB17.out.cell (p := ⟨w.heap.size, 0, none⟩) HQ.out.1).trans HQ.out.2
 go_wp2_with fail
 refine h18.mono ?_
 rintro e w18 ⟨rfl, hb⟩
 have HB18 : Hid (Below W.heap.size W w18) := onB HB17.out hb
 have Lcx5gx6x7x8x9x10x11x12x13x14x15x16x17x18 : Hid (CellB w4.heap.size 0 0 w18) := Lcx5gx6x7x8x9x10x11x12x13x14x15x16x17.out.later hb
 have Lgx6x7x8x9x10x11x12x13x14x15x16x17x18 : Hid (CellB w5.heap.size 0 0 w18) := Lgx6x7x8x9x10x11x12x13x14x15x16x17.out.later hb
 have Lr5x16x17x18 : Hid (EnsV w18 R5 r5 rs5) := Lr5x16x17.out.later hb
 have Ly5x17x18 : Hid (EnsV w18 Y5 y5 ys5) := Ly5x17.out.later hb
 clear Lcx5gx6x7x8x9x10x11x12x13x14x15x16x17
 clear Lgx6x7x8x9x10x11x12x13x14x15x16x17
 clear Lr5x16x17
 clear Ly5x17
 clear hb h18 c18 HB17
 obtain ⟨-, q0, q1⟩ := Lcx5gx6x7x8x9x10x11x12x13x14x15x16x17x18.out
 obtain ⟨-, s0, s1⟩ := Lgx6x7x8x9x10x11x12x13x14x15x16x17x18.out
 go_wp2_with fail
 go_ret
 exact ⟨rfl, onB HB0.out HB18.out⟩
set_option maxHeartbeats 64000000 in
theorem tells_c (A0 : Option Addr) (cap n : Nat) (AE : Option Addr) (nx ce : Nat) (Ap : Option Addr) (m cp : Nat) (N : Int) (AX : Option Addr) (ny cx : Nat) (E G a1 a2 e1 e2 k5 e5 : Int) (L1 L2 L5 : List En) (w : World) (hT : Tells (ownOut w A0 n cap 24) A0 cap n AE nx ce Ap m cp N AX ny cx E G a1 a2 e1 e2 k5 e5 L1 L2 L5) (hE : E = 0) (hG : G = 0) (hI : TellsIn (ownOut w A0 n cap 24) A0 cap n AE nx ce Ap m cp N G e1 e2 L1 L2) (hC : TellsC (ownOut w A0 n cap 24) AE nx ce Ap m cp a1 a2) :
  Calls Tryd.prog 5 #[.agg #[.slice A0 n cap], .slice AE nx ce, .slice Ap m cp, .int .i64 N, .slice AX ny cx] w fun e w' => e = .returned (.bool true) ∧ Below w.heap.size w w' := by
 subst hE
 subst hG
 obtain ⟨W, hW⟩ : ∃ W, w.alloc (.cells #[.slice A0 n cap] 24) = W := ⟨_, rfl⟩
 have hW' : ownOut w A0 n cap 24 = W := hW
 rw [hW'] at hT hI hC
 have HB0 : Hid (Below w.heap.size w W) := by show Below ..; rw [← hW']; exact ownOut_below ..
 have HQ : Hid (w.heap.size < W.heap.size ∧ W.cell? ⟨w.heap.size, 0, none⟩ = some (.slice A0 n cap)) := by rw [← hW']; exact ⟨by rw [ownOut_size]; omega, ownOut_at ..⟩
 have HBW : Hid (Below W.heap.size W W) := Below.refl _ _
 have HT : Hid _ := hT
 have HI : Hid _ := hI
 have HC : Hid _ := hC
 clear hT hI hC hW'
 go_enter Tryd.func5, Tryd.ntmps5
 have h1 := HT.out.entries W HBW.out
 have c1 : W.cell? ⟨w.heap.size, 0, none⟩ = some (.slice A0 n cap) := (HBW.out.cell (p := ⟨w.heap.size, 0, none⟩) HQ.out.1).trans HQ.out.2
 go_wp2_with fail
 clear hW
 refine h1.mono ?_
 rintro e w1 ⟨rfl, hb⟩
 have HB1 : Hid (Below W.heap.size W w1) := onB HBW.out hb
 clear hb h1 c1
 have h2 := HT.out.check w1 HB1.out
 have c2 : w1.cell? ⟨w.heap.size, 0, none⟩ = some (.slice A0 n cap) := (HB1.out.cell (p := ⟨w.heap.size, 0, none⟩) HQ.out.1).trans HQ.out.2
 go_wp2_with fail
 refine h2.mono ?_
 rintro e w2 ⟨rfl, hb⟩
 have HB2 : Hid (Below W.heap.size W w2) := onB HB1.out hb
 clear hb h2 c2 HB1
 have h3 := HT.out.err 0 w2 HB2.out
 have c3 : w2.cell? ⟨w.heap.size, 0, none⟩ = some (.slice A0 n cap) := (HB2.out.cell (p := ⟨w.heap.size, 0, none⟩) HQ.out.1).trans HQ.out.2
 go_wp2_with fail
 refine h3.mono ?_
 rintro e w3 ⟨rfl, hb⟩
 have HB3 : Hid (Below W.heap.size W w3) := onB HB2.out hb
 clear hb h3 c3 HB2
 have h4 := HI.out.place w3 HB3.out
 have c4 : w3.cell? ⟨w.heap.size, 0, none⟩ = some (.slice A0 n cap) := (HB3.out.cell (p := ⟨w.heap.size, 0, none⟩) HQ.out.1).trans HQ.out.2
 go_wp2_with fail
 refine h4.mono ?_
 rintro e w4 ⟨rfl, hb⟩
 have HB4 : Hid (Below W.heap.size W w4) := onB HB3.out hb
 clear hb h4 c4 HB3
 obtain ⟨v4, hv4⟩ : ∃ v, w4.alloc (.cells #[.int .i64 0, .int .i64 0] 49) = v := ⟨_, rfl⟩
 have hbv : Below w4.heap.size w4 v4 := by rw [← hv4]; go_grown
 have HBv : Hid (Below W.heap.size W v4) := onB HB4.out hbv
 have HQc : Hid (w4.heap.size = w4.heap.size ∧ W.heap.size ≤ w4.heap.size) := ⟨rfl, HB4.out.size⟩
 have HKc : Hid (v4.heap[w4.heap.size]? = some (.cells #[.int .i64 0, .int .i64 0] 49)) := by show _ = _; rw [← hv4]; exact heap_alloc_new w4 _
 have hzc : w4.heap.size < v4.heap.size := by rw [← hv4]; simp
 clear hbv
 have h5 := HC.out.input v4 HBv.out
 have c5 : v4.cell? ⟨w.heap.size, 0, none⟩ = some (.slice A0 n cap) := (HBv.out.cell (p := ⟨w.heap.size, 0, none⟩) HQ.out.1).trans HQ.out.2
 go_wp2_with fail
 clear hv4
 refine h5.mono ?_
 rintro e w5 ⟨rfl, hb⟩
 have HB5 : Hid (Below W.heap.size W w5) := onB HBv.out hb
 have HKc2 : Hid (w5.heap[w4.heap.size]? = some (.cells #[.int .i64 0, .int .i64 0] 49)) := (hb.block _ hzc).trans HKc.out
 clear hb h5 c5 HBv
 have kc : w5.heap[w4.heap.size]? = some (.cells #[.int .i64 0, .int .i64 0] 49) := HKc2.out
 have d0 : w5.cell? ⟨w4.heap.size, 0, none⟩ = some (.int .i64 0) := by rw [Lib.cell_of_heap kc]; rfl
 have d1 : w5.cell? ⟨w4.heap.size, 1, none⟩ = some (.int .i64 0) := by rw [Lib.cell_of_heap kc]; rfl
 have f0 : w5.frozen? ⟨w4.heap.size, 0, none⟩ = false := Lib.frozen_of_heap kc 0
 have f1 : w5.frozen? ⟨w4.heap.size, 1, none⟩ = false := Lib.frozen_of_heap kc 1
 obtain ⟨u5, hu5⟩ : ∃ v, (w5.setCell ⟨w4.heap.size, 0, none⟩ (.int .i64 a1)).setCell ⟨w4.heap.size, 1, none⟩ (.int .i64 a2) = v := ⟨_, rfl⟩
 have HBu : Hid (Below W.heap.size W u5) := by show Below ..; rw [← hu5]; exact (HB5.out.setCell HQc.out.2 _).setCell HQc.out.2 _
 have Lc : Hid (CellB w4.heap.size a1 a2 u5) := by show CellB ..; rw [← hu5]; exact CellB.set HKc2.out
 clear kc HKc HKc2 hzc
 have h6 := HT.out.get u5 HBu.out
 have c6 : u5.cell? ⟨w.heap.size, 0, none⟩ = some (.slice A0 n cap) := (HBu.out.cell (p := ⟨w.heap.size, 0, none⟩) HQ.out.1).trans HQ.out.2
 go_wp2_with fail
 clear hu5 d0 d1 f0 f1
 refine h6.mono ?_
 rintro e w6 ⟨rfl, hb⟩
 have HB6 : Hid (Below W.heap.size W w6) := onB HBu.out hb
 have Lcx6 : Hid (CellB w4.heap.size a1 a2 w6) := Lc.out.later hb
 clear Lc
 clear hb h6 c6 HBu
 obtain ⟨v6, hv6⟩ : ∃ v, w6.alloc (.cells #[.int .i64 a1, .int .i64 a2] 49) = v := ⟨_, rfl⟩
 have hb : Below w6.heap.size w6 v6 := by rw [← hv6]; go_grown
 have HBg : Hid (Below W.heap.size W v6) := onB HB6.out hb
 have Lcx6g : Hid (CellB w4.heap.size a1 a2 v6) := Lcx6.out.later hb
 clear Lcx6
 have Lg : Hid (CellB w6.heap.size a1 a2 v6) := by show CellB ..; rw [← hv6]; exact CellB.new ..
 clear hb
 have h7 := HT.out.err 0 v6 HBg.out
 have c7 : v6.cell? ⟨w.heap.size, 0, none⟩ = some (.slice A0 n cap) := (HBg.out.cell (p := ⟨w.heap.size, 0, none⟩) HQ.out.1).trans HQ.out.2
 go_wp2_with fail
 clear hv6
 refine h7.mono ?_
 rintro e w7 ⟨rfl, hb⟩
 have HB7 : Hid (Below W.heap.size W w7) := onB HBg.out hb
 have Lcx6gx7 : Hid (CellB w4.heap.size a1 a2 w7) := Lcx6g.out.later hb
 have Lgx7 : Hid (CellB w6.heap.size a1 a2 w7) := Lg.out.later hb
 clear Lcx6g
 clear Lg
 clear hb h7 c7 HBg
 have h8 := HI.out.rset w7 HB7.out
 have c8 : w7.cell? ⟨w.heap.size, 0, none⟩ = some (.slice A0 n cap) := (HB7.out.cell (p := ⟨w.heap.size, 0, none⟩) HQ.out.1).trans HQ.out.2
 go_wp2_with fail
 refine h8.mono ?_
 rintro e w8 ⟨⟨R1, r1, rs1, rfl, hV, hl⟩, hb⟩
 have HB8 : Hid (Below W.heap.size W w8) := onB HB7.out hb
 have Lcx6gx7x8 : Hid (CellB w4.heap.size a1 a2 w8) := Lcx6gx7.out.later hb
 have Lgx7x8 : Hid (CellB w6.heap.size a1 a2 w8) := Lgx7.out.later hb
 clear Lcx6gx7
 clear Lgx7
 have Lr1 : Hid (EnsV w8 R1 r1 rs1) := hV.1
 clear hb h8 c8 HB7
 have HLr1 : Hid (lE rs1 = L1) := hl
 clear hV hl
 have h9 := HT.out.set w8 HB8.out
 have c9 : w8.cell? ⟨w.heap.size, 0, none⟩ = some (.slice A0 n cap) := (HB8.out.cell (p := ⟨w.heap.size, 0, none⟩) HQ.out.1).trans HQ.out.2
 go_wp2_with fail
 refine h9.mono ?_
 rintro e w9 ⟨⟨Y1, y1, ys1, rfl, hV, hl⟩, hb⟩
 have HB9 : Hid (Below W.heap.size W w9) := onB HB8.out hb
 have Lcx6gx7x8x9 : Hid (CellB w4.heap.size a1 a2 w9) := Lcx6gx7x8.out.later hb
 have Lgx7x8x9 : Hid (CellB w6.heap.size a1 a2 w9) := Lgx7x8.out.later hb
 have Lr1x9 : Hid (EnsV w9 R1 r1 rs1) := Lr1.out.later hb
 clear Lcx6gx7x8
 clear Lgx7x8
 clear Lr1
 have Ly1 : Hid (EnsV w9 Y1 y1 ys1) := hV
 clear hb h9 c9 HB8
 have HLy1 : Hid (lE ys1 = L1) := hl
 clear hV hl
 have h10 := HT.out.err e1 w9 HB9.out
 have c10 : w9.cell? ⟨w.heap.size, 0, none⟩ = some (.slice A0 n cap) := (HB9.out.cell (p := ⟨w.heap.size, 0, none⟩) HQ.out.1).trans HQ.out.2
 go_wp2_with fail
 refine h10.mono ?_
 rintro e w10 ⟨rfl, hb⟩
 have HB10 : Hid (Below W.heap.size W w10) := onB HB9.out hb
 have Lcx6gx7x8x9x10 : Hid (CellB w4.heap.size a1 a2 w10) := Lcx6gx7x8x9.out.later hb
 have Lgx7x8x9x10 : Hid (CellB w6.heap.size a1 a2 w10) := Lgx7x8x9.out.later hb
 have Lr1x9x10 : Hid (EnsV w10 R1 r1 rs1) := Lr1x9.out.later hb
 have Ly1x10 : Hid (EnsV w10 Y1 y1 ys1) := Ly1.out.later hb
 clear Lcx6gx7x8x9
 clear Lgx7x8x9
 clear Lr1x9
 clear Ly1
 clear hb h10 c10 HB9
 have h11 := HT.out.same Y1 R1 y1 r1 ys1 rs1 L1 w10 (Or.inl rfl) HLy1.out HLr1.out Ly1x10.out Lr1x9x10.out
 have c11 : w10.cell? ⟨w.heap.size, 0, none⟩ = some (.slice A0 n cap) := (HB10.out.cell (p := ⟨w.heap.size, 0, none⟩) HQ.out.1).trans HQ.out.2
 go_wp2_with fail
 refine h11.mono ?_
 rintro e w11 ⟨rfl, hb⟩
 have HB11 : Hid (Below W.heap.size W w11) := onB HB10.out hb
 have Lcx6gx7x8x9x10x11 : Hid (CellB w4.heap.size a1 a2 w11) := Lcx6gx7x8x9x10.out.later hb
 have Lgx7x8x9x10x11 : Hid (CellB w6.heap.size a1 a2 w11) := Lgx7x8x9x10.out.later hb
 have Lr1x9x10x11 : Hid (EnsV w11 R1 r1 rs1) := Lr1x9x10.out.later hb
 have Ly1x10x11 : Hid (EnsV w11 Y1 y1 ys1) := Ly1x10.out.later hb
 clear Lcx6gx7x8x9x10
 clear Lgx7x8x9x10
 clear Lr1x9x10
 clear Ly1x10
 clear hb h11 c11 HB10
 clear Ly1x10x11
 clear Lr1x9x10x11
 have h12 := HI.out.rclr w11 HB11.out
 have c12 : w11.cell? ⟨w.heap.size, 0, none⟩ = some (.slice A0 n cap) := (HB11.out.cell (p := ⟨w.heap.size, 0, none⟩) HQ.out.1).trans HQ.out.2
 go_wp2_with fail
 refine h12.mono ?_
 rintro e w12 ⟨⟨R2, r2, rs2, rfl, hV, hl⟩, hb⟩
 have HB12 : Hid (Below W.heap.size W w12) := onB HB11.out hb
 have Lcx6gx7x8x9x10x11x12 : Hid (CellB w4.heap.size a1 a2 w12) := Lcx6gx7x8x9x10x11.out.later hb
 have Lgx7x8x9x10x11x12 : Hid (CellB w6.heap.size a1 a2 w12) := Lgx7x8x9x10x11.out.later hb
 clear Lcx6gx7x8x9x10x11
 clear Lgx7x8x9x10x11
 have Lr2 : Hid (EnsV w12 R2 r2 rs2) := hV.1
 clear hb h12 c12 HB11
 have HLr2 : Hid (lE rs2 = L2) := hl
 clear hV hl
 have h13 := HT.out.clr w12 HB12.out
 have c13 : w12.cell? ⟨w.heap.size, 0, none⟩ = some (.slice A0 n cap) := (HB12.out.cell (p := ⟨w.heap.size, 0, none⟩) HQ.out.1).trans HQ.out.2
 go_wp2_with fail
 refine h13.mono ?_
 rintro e w13 ⟨⟨Y2, y2, ys2, rfl, hV, hl⟩, hb⟩
 have HB13 : Hid (Below W.heap.size W w13) := onB HB12.out hb
 have Lcx6gx7x8x9x10x11x12x13 : Hid (CellB w4.heap.size a1 a2 w13) := Lcx6gx7x8x9x10x11x12.out.later hb
 have Lgx7x8x9x10x11x12x13 : Hid (CellB w6.heap.size a1 a2 w13) := Lgx7x8x9x10x11x12.out.later hb
 have Lr2x13 : Hid (EnsV w13 R2 r2 rs2) := Lr2.out.later hb
 clear Lcx6gx7x8x9x10x11x12
 clear Lgx7x8x9x10x11x12
 clear Lr2
 have Ly2 : Hid (EnsV w13 Y2 y2 ys2) := hV
 clear hb h13 c13 HB12
 have HLy2 : Hid (lE ys2 = L2) := hl
 clear hV hl
 have h14 := HT.out.err e2 w13 HB13.out
 have c14 : w13.cell? ⟨w.heap.size, 0, none⟩ = some (.slice A0 n cap) := (HB13.out.cell (p := ⟨w.heap.size, 0, none⟩) HQ.out.1).trans HQ.out.2
 go_wp2_with fail
 refine h14.mono ?_
 rintro e w14 ⟨rfl, hb⟩
 have HB14 : Hid (Below W.heap.size W w14) := onB HB13.out hb
 have Lcx6gx7x8x9x10x11x12x13x14 : Hid (CellB w4.heap.size a1 a2 w14) := Lcx6gx7x8x9x10x11x12x13.out.later hb
 have Lgx7x8x9x10x11x12x13x14 : Hid (CellB w6.heap.size a1 a2 w14) := Lgx7x8x9x10x11x12x13.out.later hb
 have Lr2x13x14 : Hid (EnsV w14 R2 r2 rs2) := Lr2x13.out.later hb
 have Ly2x14 : Hid (EnsV w14 Y2 y2 ys2) := Ly2.out.later hb
 clear Lcx6gx7x8x9x10x11x12x13
 clear Lgx7x8x9x10x11x12x13
 clear Lr2x13
 clear Ly2
 clear hb h14 c14 HB13
 have h15 := HT.out.same Y2 R2 y2 r2 ys2 rs2 L2 w14 (Or.inr (Or.inl rfl)) HLy2.out HLr2.out Ly2x14.out Lr2x13x14.out
 have c15 : w14.cell? ⟨w.heap.size, 0, none⟩ = some (.slice A0 n cap) := (HB14.out.cell (p := ⟨w.heap.size, 0, none⟩) HQ.out.1).trans HQ.out.2
 go_wp2_with fail
 refine h15.mono ?_
 rintro e w15 ⟨rfl, hb⟩
 have HB15 : Hid (Below W.heap.size W w15) := onB HB14.out hb
 have Lcx6gx7x8x9x10x11x12x13x14x15 : Hid (CellB w4.heap.size a1 a2 w15) := Lcx6gx7x8x9x10x11x12x13x14.out.later hb
 have Lgx7x8x9x10x11x12x13x14x15 : Hid (CellB w6.heap.size a1 a2 w15) := Lgx7x8x9x10x11x12x13x14.out.later hb
 have Lr2x13x14x15 : Hid (EnsV w15 R2 r2 rs2) := Lr2x13x14.out.later hb
 have Ly2x14x15 : Hid (EnsV w15 Y2 y2 ys2) := Ly2x14.out.later hb
 clear Lcx6gx7x8x9x10x11x12x13x14
 clear Lgx7x8x9x10x11x12x13x14
 clear Lr2x13x14
 clear Ly2x14
 clear hb h15 c15 HB14
 clear Ly2x14x15
 clear Lr2x13x14x15
 have h16 := HT.out.edits w15 HB15.out
 have c16 : w15.cell? ⟨w.heap.size, 0, none⟩ = some (.slice A0 n cap) := (HB15.out.cell (p := ⟨w.heap.size, 0, none⟩) HQ.out.1).trans HQ.out.2
 go_wp2_with fail
 refine h16.mono ?_
 rintro e w16 ⟨⟨R5, r5, rs5, rfl, hV, hl⟩, hb⟩
 have HB16 : Hid (Below W.heap.size W w16) := onB HB15.out hb
 have Lcx6gx7x8x9x10x11x12x13x14x15x16 : Hid (CellB w4.heap.size a1 a2 w16) := Lcx6gx7x8x9x10x11x12x13x14x15.out.later hb
 have Lgx7x8x9x10x11x12x13x14x15x16 : Hid (CellB w6.heap.size a1 a2 w16) := Lgx7x8x9x10x11x12x13x14x15.out.later hb
 clear Lcx6gx7x8x9x10x11x12x13x14x15
 clear Lgx7x8x9x10x11x12x13x14x15
 have Lr5 : Hid (EnsV w16 R5 r5 rs5) := hV
 clear hb h16 c16 HB15
 have HLr5 : Hid (lE rs5 = L5) := hl
 clear hV hl
 have h17 := HT.out.all w16 HB16.out
 have c17 : w16.cell? ⟨w.heap.size, 0, none⟩ = some (.slice A0 n cap) := (HB16.out.cell (p := ⟨w.heap.size, 0, none⟩) HQ.out.1).trans HQ.out.2
 go_wp2_with fail
 refine h17.mono ?_
 rintro e w17 ⟨⟨Y5, y5, ys5, rfl, hV, hl⟩, hb⟩
 have HB17 : Hid (Below W.heap.size W w17) := onB HB16.out hb
 have Lcx6gx7x8x9x10x11x12x13x14x15x16x17 : Hid (CellB w4.heap.size a1 a2 w17) := Lcx6gx7x8x9x10x11x12x13x14x15x16.out.later hb
 have Lgx7x8x9x10x11x12x13x14x15x16x17 : Hid (CellB w6.heap.size a1 a2 w17) := Lgx7x8x9x10x11x12x13x14x15x16.out.later hb
 have Lr5x17 : Hid (EnsV w17 R5 r5 rs5) := Lr5.out.later hb
 clear Lcx6gx7x8x9x10x11x12x13x14x15x16
 clear Lgx7x8x9x10x11x12x13x14x15x16
 clear Lr5
 have Ly5 : Hid (EnsV w17 Y5 y5 ys5) := hV
 clear hb h17 c17 HB16
 have HLy5 : Hid (lE ys5 = L5) := hl
 clear hV hl
 have h18 := HT.out.err e5 w17 HB17.out
 have c18 : w17.cell? ⟨w.heap.size, 0, none⟩ = some (.slice A0 n cap) := (HB17.out.cell (p := ⟨w.heap.size, 0, none⟩) HQ.out.1).trans HQ.out.2
 go_wp2_with fail
 refine h18.mono ?_
 rintro e w18 ⟨rfl, hb⟩
 have HB18 : Hid (Below W.heap.size W w18) := onB HB17.out hb
 have Lcx6gx7x8x9x10x11x12x13x14x15x16x17x18 : Hid (CellB w4.heap.size a1 a2 w18) := Lcx6gx7x8x9x10x11x12x13x14x15x16x17.out.later hb
 have Lgx7x8x9x10x11x12x13x14x15x16x17x18 : Hid (CellB w6.heap.size a1 a2 w18) := Lgx7x8x9x10x11x12x13x14x15x16x17.out.later hb
 have Lr5x17x18 : Hid (EnsV w18 R5 r5 rs5) := Lr5x17.out.later hb
 have Ly5x18 : Hid (EnsV w18 Y5 y5 ys5) := Ly5.out.later hb
 clear Lcx6gx7x8x9x10x11x12x13x14x15x16x17
 clear Lgx7x8x9x10x11x12x13x14x15x16x17
 clear Lr5x17
 clear Ly5
 clear hb h18 c18 HB17
 have h19 := HT.out.same Y5 R5 y5 r5 ys5 rs5 L5 w18 (Or.inr (Or.inr rfl)) HLy5.out HLr5.out Ly5x18.out Lr5x17x18.out
 have c19 : w18.cell? ⟨w.heap.size, 0, none⟩ = some (.slice A0 n cap) := (HB18.out.cell (p := ⟨w.heap.size, 0, none⟩) HQ.out.1).trans HQ.out.2
 go_wp2_with fail
 refine h19.mono ?_
 rintro e w19 ⟨rfl, hb⟩
 have HB19 : Hid (Below W.heap.size W w19) := onB HB18.out hb
 have Lcx6gx7x8x9x10x11x12x13x14x15x16x17x18x19 : Hid (CellB w4.heap.size a1 a2 w19) := Lcx6gx7x8x9x10x11x12x13x14x15x16x17x18.out.later hb
 have Lgx7x8x9x10x11x12x13x14x15x16x17x18x19 : Hid (CellB w6.heap.size a1 a2 w19) := Lgx7x8x9x10x11x12x13x14x15x16x17x18.out.later hb
 have Lr5x17x18x19 : Hid (EnsV w19 R5 r5 rs5) := Lr5x17x18.out.later hb
 have Ly5x18x19 : Hid (EnsV w19 Y5 y5 ys5) := Ly5x18.out.later hb
 clear Lcx6gx7x8x9x10x11x12x13x14x15x16x17x18
 clear Lgx7x8x9x10x11x12x13x14x15x16x17x18
 clear Lr5x17x18
 clear Ly5x18
 clear hb h19 c19 HB18
 obtain ⟨-, q0, q1⟩ := Lcx6gx7x8x9x10x11x12x13x14x15x16x17x18x19.out
 obtain ⟨-, s0, s1⟩ := Lgx7x8x9x10x11x12x13x14x15x16x17x18x19.out
 go_wp2_with fail
 go_ret
 exact ⟨rfl, onB HB0.out HB19.out⟩
end Go.Proofs.YtfngmnhkhfgmjacDoor
