/-
  An edit of entries, as the document does it: what its Edit answers, called in whatever memory.
-/
import Derived.Laws.AppendOwnNone
import Derived.Test.YtfngmnhkhfgmjacDoorJIBK
import Derived.Test.YtfngmnhkhfgmjacDoorJIBL
namespace Go.Proofs.YtfngmnhkhfgmjacDoor
open Go.ChangeShapes Go.WideShapes Go.ChangeAt Go.RowKit
set_option maxRecDepth 20000
def EnsN (w : World) (A : Option Addr) (c : Nat) (zs : List EnL) : Prop := EnsV w A c zs ∧ (A = none → c = 0)
theorem EnsN.later {w w' : World} {A : Option Addr} {c : Nat} {zs : List EnL} (h : EnsN w A c zs) (hB : Below w.heap.size w w') : EnsN w' A c zs := ⟨h.1.later hB, h.2⟩
theorem ens_own {w : World} {base : Nat} {v : Value} {zs : List EnL} (h : w.ownsRow base 77 2 v zs.length (cellsE zs)) (hp : ∀ x ∈ zs, PlAt w x.A x.c x.e.pl) : ∃ A c, v = .slice A zs.length c ∧ EnsN w A c zs := by
 rcases h.2 with ⟨rfl, h0⟩ | ⟨g, cap, cur, rfl, hb, hg, hc, hm, _, _⟩
 ·refine ⟨none, 0, by rw [h0], ⟨by omega, by decide, Or.inl (List.eq_nil_of_length_eq_zero h0)⟩, fun _ => rfl⟩
 ·refine ⟨_, cap, rfl, ⟨hc, by unfold maxLen at hm; omega, Or.inr ⟨g, 0, rfl, (Array.getElem?_eq_some_iff.1 hg).1, fun j u hj => ?_, hp⟩⟩, fun h => by cases h⟩
  have y := h.cells (g := g) rfl j u hj
  rw [plain_add] at y
  exact y
theorem own_on {w w' W : World} {base : Nat} {v : Value} {n : Nat} {zs : List Value} (hB : Below base W w) (hb : base ≤ w.heap.size) (hown : w.ownsRow base 77 2 v n zs) (hG : w.grownBy w' v.ownBlock) : Below base W w' :=
 hB.grown hG hb fun k hk => (hown.lt k hk).1
def REdited (w : World) (E : Int) (l : List En) (e : Ending) (w' : World) : Prop := (∃ B c zs, e = .returned (.tuple #[.slice B zs.length c, .int .i64 E]) ∧ EnsN w' B c zs ∧ lE zs = pickL E l) ∧ Below w.heap.size w w'
structure EditCalls (W : World) (A0 : Option Addr) (cap n : Nat) (AE : Option Addr) (nx ce : Nat) (Ax : Option Addr) (m cx : Nat) (SE : Int) (cnt : Nat) (has lf : Bool) : Prop where
 place : ∀ w', Below W.heap.size W w' → Calls Tryd.prog 16 #[.agg #[.slice A0 n cap], .slice Ax m cx] w' fun e w'' => e = .returned (.int .i64 SE) ∧ Below w'.heap.size w' w''
 find : SE = 0 → ∀ w', Below W.heap.size W w' → Calls Tryd.prog 36 #[.slice AE nx ce, .slice Ax m cx] w' fun e w'' => e = .returned (.tuple #[.int .i64 (cnt : Nat), .bool has]) ∧ Below w'.heap.size w' w''
 leaf : SE = 0 → ∀ w', Below W.heap.size W w' → Calls Tryd.prog 32 #[.agg #[.slice A0 n cap], .slice Ax m cx] w' fun e w'' => e = .returned (.bool lf) ∧ Below w'.heap.size w' w''
theorem ownOX_size (w : World) (A0 : Option Addr) (n cap : Nat) (A : Option Addr) (m c : Nat) (N : Int) (cl : Bool) : (ownOX w A0 n cap A m c N cl).heap.size = w.heap.size + 2 := by unfold ownOX; rw [ownEd_size, ownOut_size]
theorem ownOX_o (w : World) (A0 : Option Addr) (n cap : Nat) (A : Option Addr) (m c : Nat) (N : Int) (cl : Bool) : (ownOX w A0 n cap A m c N cl).cell? ⟨w.heap.size, 0, none⟩ = some (.slice A0 n cap) :=
 ((ownEd_below (ownOut w A0 n cap 24) A m c N cl).cell (p := ⟨w.heap.size, 0, none⟩) (by show w.heap.size < _; rw [ownOut_size]; omega)).trans (ownOut_at ..)
theorem ownOX_x (w : World) (A0 : Option Addr) (n cap : Nat) (A : Option Addr) (m c : Nat) (N : Int) (cl : Bool) : (ownOX w A0 n cap A m c N cl).cell? ⟨w.heap.size + 1, 0, none⟩ = some (.slice A m c) ∧ (ownOX w A0 n cap A m c N cl).cell? ⟨w.heap.size + 1, 1, none⟩ = some (.int .i64 N) ∧ (ownOX w A0 n cap A m c N cl).cell? ⟨w.heap.size + 1, 2, none⟩ = some (.bool cl) := by
 have h := heap_alloc_new (ownOut w A0 n cap 24) (.cells #[.slice A m c, .int .i64 N, .bool cl] 56)
 rw [ownOut_size] at h
 exact ⟨by rw [ownOX, ownEd, Lib.cell_of_heap h]; rfl, by rw [ownOX, ownEd, Lib.cell_of_heap h]; rfl, by rw [ownOX, ownEd, Lib.cell_of_heap h]; rfl⟩
set_option maxHeartbeats 8000000 in
theorem redit_bad (A0 : Option Addr) (cap n : Nat) (AE : Option Addr) (nx ce : Nat) (Ax : Option Addr) (m cx : Nat) (N : Int) (cl : Bool) (SE : Int) (cnt : Nat) (has lf : Bool) (E : Int) (w : World) (hX : EditCalls (ownOX w A0 n cap Ax m cx N cl) A0 cap n AE nx ce Ax m cx SE cnt has lf)
  (hE : E = if SE ≠ 0 then SE else if cl = true then (if has = true then 0 else 5) else if lf = false then 6 else if numOk N = false then 1 else 0) (h0 : E ≠ 0) :
  Calls Tryd.prog 19 #[.agg #[.slice A0 n cap], .slice AE nx ce, .agg #[.slice Ax m cx, .int .i64 N, .bool cl]] w fun e w' => e = .returned (.tuple #[.slice none 0 0, .int .i64 E]) ∧ Below w.heap.size w w' := by
 have HX : Hid (EditCalls (ownOX w A0 n cap Ax m cx N cl) A0 cap n AE nx ce Ax m cx SE cnt has lf) := hX
 have HB0 : Hid (Below w.heap.size w (ownOX w A0 n cap Ax m cx N cl)) := ownOX_below ..
 have h1 := hX.place _ (Below.refl _ _)
 clear hX
 by_cases hSE : SE = 0
 ·subst hSE
  rw [if_neg (by simp)] at hE
  cases cl
  ·rw [if_neg (by simp)] at hE
   cases lf
   ·have HE : Hid (E = 6) := hE
    clear hE h0
    go_enter Tryd.func19, Tryd.ntmps19
    go_wp2_with fail
    refine h1.mono ?_
    rintro e w1 ⟨rfl, hb⟩
    have HB1 : Hid (Below (ownOX w A0 n cap Ax m cx N false).heap.size (ownOX w A0 n cap Ax m cx N false) w1) := hb
    have c0 := (hb.cell (p := ⟨w.heap.size, 0, none⟩) (by show w.heap.size < _; rw [ownOX_size]; omega)).trans (ownOX_o w A0 n cap Ax m cx N false)
    have c1 := (hb.cell (p := ⟨w.heap.size + 1, 0, none⟩) (by show w.heap.size + 1 < _; rw [ownOX_size]; omega)).trans (ownOX_x w A0 n cap Ax m cx N false).1
    have HC2 : Hid (w1.cell? ⟨w.heap.size + 1, 1, none⟩ = some (.int .i64 N)) := (hb.cell (p := ⟨w.heap.size + 1, 1, none⟩) (by show w.heap.size + 1 < _; rw [ownOX_size]; omega)).trans (ownOX_x w A0 n cap Ax m cx N false).2.1
    have HC3 : Hid (w1.cell? ⟨w.heap.size + 1, 2, none⟩ = some (.bool false)) := (hb.cell (p := ⟨w.heap.size + 1, 2, none⟩) (by show w.heap.size + 1 < _; rw [ownOX_size]; omega)).trans (ownOX_x w A0 n cap Ax m cx N false).2.2
    have hz1 : w.heap.size + 1 < w1.heap.size := by have := hb.size; rw [ownOX_size] at this; omega
    have HC0 : Hid (w1.cell? ⟨w.heap.size, 0, none⟩ = some (.slice A0 n cap)) := c0
    have HC1 : Hid (w1.cell? ⟨w.heap.size + 1, 0, none⟩ = some (.slice Ax m cx)) := c1
    have h2 := HX.out.find rfl w1 hb
    clear hb h1
    go_wp2_with fail
    refine h2.mono ?_
    rintro e w2 ⟨rfl, hb⟩
    have HB2 : Hid (Below (ownOX w A0 n cap Ax m cx N false).heap.size (ownOX w A0 n cap Ax m cx N false) w2) := onB HB1.out hb
    have d0 : w2.cell? ⟨w.heap.size, 0, none⟩ = some (.slice A0 n cap) := (hb.cell (p := ⟨w.heap.size, 0, none⟩) (by show w.heap.size < _; omega)).trans HC0.out
    have d1 : w2.cell? ⟨w.heap.size + 1, 0, none⟩ = some (.slice Ax m cx) := (hb.cell (p := ⟨w.heap.size + 1, 0, none⟩) hz1).trans HC1.out
    have HD1 : Hid (w2.cell? ⟨w.heap.size + 1, 0, none⟩ = some (.slice Ax m cx)) := d1
    have HD2 : Hid (w2.cell? ⟨w.heap.size + 1, 1, none⟩ = some (.int .i64 N)) := (hb.cell (p := ⟨w.heap.size + 1, 1, none⟩) hz1).trans HC2.out
    have HD3 : Hid (w2.cell? ⟨w.heap.size + 1, 2, none⟩ = some (.bool false)) := (hb.cell (p := ⟨w.heap.size + 1, 2, none⟩) hz1).trans HC3.out
    have hz2 : w.heap.size + 1 < w2.heap.size := Nat.lt_of_lt_of_le hz1 hb.size
    have h3 := HX.out.leaf rfl w2 HB2.out
    clear hb h2 c0 c1 HC0 HC1 HC2 HC3
    go_wp2_with fail
    refine h3.mono ?_
    rintro e w3 ⟨rfl, hb⟩
    have HB3 : Hid (Below (ownOX w A0 n cap Ax m cx N false).heap.size (ownOX w A0 n cap Ax m cx N false) w3) := onB HB2.out hb
    have f1 : w3.cell? ⟨w.heap.size + 1, 0, none⟩ = some (.slice Ax m cx) := (hb.cell (p := ⟨w.heap.size + 1, 0, none⟩) hz2).trans HD1.out
    have f2 : w3.cell? ⟨w.heap.size + 1, 1, none⟩ = some (.int .i64 N) := (hb.cell (p := ⟨w.heap.size + 1, 1, none⟩) hz2).trans HD2.out
    have f3 : w3.cell? ⟨w.heap.size + 1, 2, none⟩ = some (.bool false) := (hb.cell (p := ⟨w.heap.size + 1, 2, none⟩) hz2).trans HD3.out
    have hz3 : w.heap.size + 1 < w3.heap.size := Nat.lt_of_lt_of_le hz2 hb.size
    clear hb h3 d0 d1 HD1 HD2 HD3
    go_wp2_with fail
    go_ret2
    rw [HE.out]
    exact ⟨rfl, onB HB0.out HB3.out⟩
   ·rw [if_neg (by simp)] at hE
    by_cases hlo : N < -1000000
    ·have HE : Hid (E = 1) := by show _ = _; rw [hE, if_pos (by simp [numOk]; omega)]
     clear hE h0
     go_enter Tryd.func19, Tryd.ntmps19
     go_wp2_with fail
     refine h1.mono ?_
     rintro e w1 ⟨rfl, hb⟩
     have HB1 : Hid (Below (ownOX w A0 n cap Ax m cx N false).heap.size (ownOX w A0 n cap Ax m cx N false) w1) := hb
     have c0 := (hb.cell (p := ⟨w.heap.size, 0, none⟩) (by show w.heap.size < _; rw [ownOX_size]; omega)).trans (ownOX_o w A0 n cap Ax m cx N false)
     have c1 := (hb.cell (p := ⟨w.heap.size + 1, 0, none⟩) (by show w.heap.size + 1 < _; rw [ownOX_size]; omega)).trans (ownOX_x w A0 n cap Ax m cx N false).1
     have HC2 : Hid (w1.cell? ⟨w.heap.size + 1, 1, none⟩ = some (.int .i64 N)) := (hb.cell (p := ⟨w.heap.size + 1, 1, none⟩) (by show w.heap.size + 1 < _; rw [ownOX_size]; omega)).trans (ownOX_x w A0 n cap Ax m cx N false).2.1
     have HC3 : Hid (w1.cell? ⟨w.heap.size + 1, 2, none⟩ = some (.bool false)) := (hb.cell (p := ⟨w.heap.size + 1, 2, none⟩) (by show w.heap.size + 1 < _; rw [ownOX_size]; omega)).trans (ownOX_x w A0 n cap Ax m cx N false).2.2
     have hz1 : w.heap.size + 1 < w1.heap.size := by have := hb.size; rw [ownOX_size] at this; omega
     have HC0 : Hid (w1.cell? ⟨w.heap.size, 0, none⟩ = some (.slice A0 n cap)) := c0
     have HC1 : Hid (w1.cell? ⟨w.heap.size + 1, 0, none⟩ = some (.slice Ax m cx)) := c1
     have h2 := HX.out.find rfl w1 hb
     clear hb h1
     go_wp2_with fail
     refine h2.mono ?_
     rintro e w2 ⟨rfl, hb⟩
     have HB2 : Hid (Below (ownOX w A0 n cap Ax m cx N false).heap.size (ownOX w A0 n cap Ax m cx N false) w2) := onB HB1.out hb
     have d0 : w2.cell? ⟨w.heap.size, 0, none⟩ = some (.slice A0 n cap) := (hb.cell (p := ⟨w.heap.size, 0, none⟩) (by show w.heap.size < _; omega)).trans HC0.out
     have d1 : w2.cell? ⟨w.heap.size + 1, 0, none⟩ = some (.slice Ax m cx) := (hb.cell (p := ⟨w.heap.size + 1, 0, none⟩) hz1).trans HC1.out
     have HD1 : Hid (w2.cell? ⟨w.heap.size + 1, 0, none⟩ = some (.slice Ax m cx)) := d1
     have HD2 : Hid (w2.cell? ⟨w.heap.size + 1, 1, none⟩ = some (.int .i64 N)) := (hb.cell (p := ⟨w.heap.size + 1, 1, none⟩) hz1).trans HC2.out
     have HD3 : Hid (w2.cell? ⟨w.heap.size + 1, 2, none⟩ = some (.bool false)) := (hb.cell (p := ⟨w.heap.size + 1, 2, none⟩) hz1).trans HC3.out
     have hz2 : w.heap.size + 1 < w2.heap.size := Nat.lt_of_lt_of_le hz1 hb.size
     have h3 := HX.out.leaf rfl w2 HB2.out
     clear hb h2 c0 c1 HC0 HC1 HC2 HC3
     go_wp2_with fail
     refine h3.mono ?_
     rintro e w3 ⟨rfl, hb⟩
     have HB3 : Hid (Below (ownOX w A0 n cap Ax m cx N false).heap.size (ownOX w A0 n cap Ax m cx N false) w3) := onB HB2.out hb
     have f1 : w3.cell? ⟨w.heap.size + 1, 0, none⟩ = some (.slice Ax m cx) := (hb.cell (p := ⟨w.heap.size + 1, 0, none⟩) hz2).trans HD1.out
     have f2 : w3.cell? ⟨w.heap.size + 1, 1, none⟩ = some (.int .i64 N) := (hb.cell (p := ⟨w.heap.size + 1, 1, none⟩) hz2).trans HD2.out
     have f3 : w3.cell? ⟨w.heap.size + 1, 2, none⟩ = some (.bool false) := (hb.cell (p := ⟨w.heap.size + 1, 2, none⟩) hz2).trans HD3.out
     have hz3 : w.heap.size + 1 < w3.heap.size := Nat.lt_of_lt_of_le hz2 hb.size
     clear hb h3 d0 d1 HD1 HD2 HD3
     go_wp2_with fail
     go_ret2
     rw [HE.out]
     exact ⟨rfl, onB HB0.out HB3.out⟩
    ·by_cases hhi : 1000000 < N
     ·have HE : Hid (E = 1) := by show _ = _; rw [hE, if_pos (by simp [numOk]; omega)]
      clear hE h0
      go_enter Tryd.func19, Tryd.ntmps19
      go_wp2_with fail
      refine h1.mono ?_
      rintro e w1 ⟨rfl, hb⟩
      have HB1 : Hid (Below (ownOX w A0 n cap Ax m cx N false).heap.size (ownOX w A0 n cap Ax m cx N false) w1) := hb
      have c0 := (hb.cell (p := ⟨w.heap.size, 0, none⟩) (by show w.heap.size < _; rw [ownOX_size]; omega)).trans (ownOX_o w A0 n cap Ax m cx N false)
      have c1 := (hb.cell (p := ⟨w.heap.size + 1, 0, none⟩) (by show w.heap.size + 1 < _; rw [ownOX_size]; omega)).trans (ownOX_x w A0 n cap Ax m cx N false).1
      have HC2 : Hid (w1.cell? ⟨w.heap.size + 1, 1, none⟩ = some (.int .i64 N)) := (hb.cell (p := ⟨w.heap.size + 1, 1, none⟩) (by show w.heap.size + 1 < _; rw [ownOX_size]; omega)).trans (ownOX_x w A0 n cap Ax m cx N false).2.1
      have HC3 : Hid (w1.cell? ⟨w.heap.size + 1, 2, none⟩ = some (.bool false)) := (hb.cell (p := ⟨w.heap.size + 1, 2, none⟩) (by show w.heap.size + 1 < _; rw [ownOX_size]; omega)).trans (ownOX_x w A0 n cap Ax m cx N false).2.2
      have hz1 : w.heap.size + 1 < w1.heap.size := by have := hb.size; rw [ownOX_size] at this; omega
      have HC0 : Hid (w1.cell? ⟨w.heap.size, 0, none⟩ = some (.slice A0 n cap)) := c0
      have HC1 : Hid (w1.cell? ⟨w.heap.size + 1, 0, none⟩ = some (.slice Ax m cx)) := c1
      have h2 := HX.out.find rfl w1 hb
      clear hb h1
      go_wp2_with fail
      refine h2.mono ?_
      rintro e w2 ⟨rfl, hb⟩
      have HB2 : Hid (Below (ownOX w A0 n cap Ax m cx N false).heap.size (ownOX w A0 n cap Ax m cx N false) w2) := onB HB1.out hb
      have d0 : w2.cell? ⟨w.heap.size, 0, none⟩ = some (.slice A0 n cap) := (hb.cell (p := ⟨w.heap.size, 0, none⟩) (by show w.heap.size < _; omega)).trans HC0.out
      have d1 : w2.cell? ⟨w.heap.size + 1, 0, none⟩ = some (.slice Ax m cx) := (hb.cell (p := ⟨w.heap.size + 1, 0, none⟩) hz1).trans HC1.out
      have HD1 : Hid (w2.cell? ⟨w.heap.size + 1, 0, none⟩ = some (.slice Ax m cx)) := d1
      have HD2 : Hid (w2.cell? ⟨w.heap.size + 1, 1, none⟩ = some (.int .i64 N)) := (hb.cell (p := ⟨w.heap.size + 1, 1, none⟩) hz1).trans HC2.out
      have HD3 : Hid (w2.cell? ⟨w.heap.size + 1, 2, none⟩ = some (.bool false)) := (hb.cell (p := ⟨w.heap.size + 1, 2, none⟩) hz1).trans HC3.out
      have hz2 : w.heap.size + 1 < w2.heap.size := Nat.lt_of_lt_of_le hz1 hb.size
      have h3 := HX.out.leaf rfl w2 HB2.out
      clear hb h2 c0 c1 HC0 HC1 HC2 HC3
      go_wp2_with fail
      refine h3.mono ?_
      rintro e w3 ⟨rfl, hb⟩
      have HB3 : Hid (Below (ownOX w A0 n cap Ax m cx N false).heap.size (ownOX w A0 n cap Ax m cx N false) w3) := onB HB2.out hb
      have f1 : w3.cell? ⟨w.heap.size + 1, 0, none⟩ = some (.slice Ax m cx) := (hb.cell (p := ⟨w.heap.size + 1, 0, none⟩) hz2).trans HD1.out
      have f2 : w3.cell? ⟨w.heap.size + 1, 1, none⟩ = some (.int .i64 N) := (hb.cell (p := ⟨w.heap.size + 1, 1, none⟩) hz2).trans HD2.out
      have f3 : w3.cell? ⟨w.heap.size + 1, 2, none⟩ = some (.bool false) := (hb.cell (p := ⟨w.heap.size + 1, 2, none⟩) hz2).trans HD3.out
      have hz3 : w.heap.size + 1 < w3.heap.size := Nat.lt_of_lt_of_le hz2 hb.size
      clear hb h3 d0 d1 HD1 HD2 HD3
      go_wp2_with fail
      go_ret2
      rw [HE.out]
      exact ⟨rfl, onB HB0.out HB3.out⟩
     ·exact absurd (by rw [hE, if_neg (by simp [numOk]; omega)]) h0
  ·rw [if_pos rfl] at hE
   cases has
   ·have HE : Hid (E = 5) := hE
    clear hE h0
    go_enter Tryd.func19, Tryd.ntmps19
    go_wp2_with fail
    refine h1.mono ?_
    rintro e w1 ⟨rfl, hb⟩
    have HB1 : Hid (Below (ownOX w A0 n cap Ax m cx N true).heap.size (ownOX w A0 n cap Ax m cx N true) w1) := hb
    have c0 := (hb.cell (p := ⟨w.heap.size, 0, none⟩) (by show w.heap.size < _; rw [ownOX_size]; omega)).trans (ownOX_o w A0 n cap Ax m cx N true)
    have c1 := (hb.cell (p := ⟨w.heap.size + 1, 0, none⟩) (by show w.heap.size + 1 < _; rw [ownOX_size]; omega)).trans (ownOX_x w A0 n cap Ax m cx N true).1
    have HC2 : Hid (w1.cell? ⟨w.heap.size + 1, 1, none⟩ = some (.int .i64 N)) := (hb.cell (p := ⟨w.heap.size + 1, 1, none⟩) (by show w.heap.size + 1 < _; rw [ownOX_size]; omega)).trans (ownOX_x w A0 n cap Ax m cx N true).2.1
    have HC3 : Hid (w1.cell? ⟨w.heap.size + 1, 2, none⟩ = some (.bool true)) := (hb.cell (p := ⟨w.heap.size + 1, 2, none⟩) (by show w.heap.size + 1 < _; rw [ownOX_size]; omega)).trans (ownOX_x w A0 n cap Ax m cx N true).2.2
    have hz1 : w.heap.size + 1 < w1.heap.size := by have := hb.size; rw [ownOX_size] at this; omega
    have HC0 : Hid (w1.cell? ⟨w.heap.size, 0, none⟩ = some (.slice A0 n cap)) := c0
    have HC1 : Hid (w1.cell? ⟨w.heap.size + 1, 0, none⟩ = some (.slice Ax m cx)) := c1
    have h2 := HX.out.find rfl w1 hb
    clear hb h1
    go_wp2_with fail
    refine h2.mono ?_
    rintro e w2 ⟨rfl, hb⟩
    have HB2 : Hid (Below (ownOX w A0 n cap Ax m cx N true).heap.size (ownOX w A0 n cap Ax m cx N true) w2) := onB HB1.out hb
    have d0 : w2.cell? ⟨w.heap.size, 0, none⟩ = some (.slice A0 n cap) := (hb.cell (p := ⟨w.heap.size, 0, none⟩) (by show w.heap.size < _; omega)).trans HC0.out
    have d1 : w2.cell? ⟨w.heap.size + 1, 0, none⟩ = some (.slice Ax m cx) := (hb.cell (p := ⟨w.heap.size + 1, 0, none⟩) hz1).trans HC1.out
    have HD1 : Hid (w2.cell? ⟨w.heap.size + 1, 0, none⟩ = some (.slice Ax m cx)) := d1
    have HD2 : Hid (w2.cell? ⟨w.heap.size + 1, 1, none⟩ = some (.int .i64 N)) := (hb.cell (p := ⟨w.heap.size + 1, 1, none⟩) hz1).trans HC2.out
    have HD3 : Hid (w2.cell? ⟨w.heap.size + 1, 2, none⟩ = some (.bool true)) := (hb.cell (p := ⟨w.heap.size + 1, 2, none⟩) hz1).trans HC3.out
    have hz2 : w.heap.size + 1 < w2.heap.size := Nat.lt_of_lt_of_le hz1 hb.size
    have h3 := HX.out.leaf rfl w2 HB2.out
    clear hb h2 c0 c1 HC0 HC1 HC2 HC3
    go_wp2_with fail
    refine h3.mono ?_
    rintro e w3 ⟨rfl, hb⟩
    have HB3 : Hid (Below (ownOX w A0 n cap Ax m cx N true).heap.size (ownOX w A0 n cap Ax m cx N true) w3) := onB HB2.out hb
    have f1 : w3.cell? ⟨w.heap.size + 1, 0, none⟩ = some (.slice Ax m cx) := (hb.cell (p := ⟨w.heap.size + 1, 0, none⟩) hz2).trans HD1.out
    have f2 : w3.cell? ⟨w.heap.size + 1, 1, none⟩ = some (.int .i64 N) := (hb.cell (p := ⟨w.heap.size + 1, 1, none⟩) hz2).trans HD2.out
    have f3 : w3.cell? ⟨w.heap.size + 1, 2, none⟩ = some (.bool true) := (hb.cell (p := ⟨w.heap.size + 1, 2, none⟩) hz2).trans HD3.out
    have hz3 : w.heap.size + 1 < w3.heap.size := Nat.lt_of_lt_of_le hz2 hb.size
    clear hb h3 d0 d1 HD1 HD2 HD3
    go_wp2_with fail
    go_ret2
    rw [HE.out]
    exact ⟨rfl, onB HB0.out HB3.out⟩
   ·exact absurd hE h0
 ·have HE : Hid (E = SE) := by show _ = _; rw [hE, if_pos (by simpa using hSE)]
  have hSE' : (SE == 0) = false := by simpa using hSE
  clear hE h0 HX
  go_enter Tryd.func19, Tryd.ntmps19
  go_wp2_with fail
  refine h1.mono ?_
  rintro e w1 ⟨rfl, hb⟩
  have HB1 : Hid (Below w.heap.size w w1) := onB HB0.out hb
  clear hb
  go_wp2_with fail
  go_ret2
  rw [HE.out]
  exact ⟨rfl, HB1.out⟩
end Go.Proofs.YtfngmnhkhfgmjacDoor
