/-
 What All of package rules, and the document's own Rules, answer, in whatever memory: which dim of an outline is wrong, in which member, and how.
 What lay of package solve answers: the dims of an outline laid out, in whatever memory.
-/
import Derived.Test.YtjffbmejobjmjafGreatDoorJTBA
import Derived.Test.YtjffbmejobjmjafGreatDoorJTBG
import Derived.Test.YtjffbmejobjmjafGreatDoorJTAY
import Derived.Test.YtjffbmejobjmjafGreatDoorJTBJ
namespace Go.Proofs.YtjffbmejobjmjafGreatDoor
open Go.ChangeShapes Go.WideShapes Go.ChangeAt Go.RowKit
set_option maxRecDepth 20000

noncomputable def badD (D : Nat → Dm) (i : Nat) : Bool := decide ((rErr (D i)).2 ≠ 0)
noncomputable def ruErr (D : Nat → Dm) (n : Nat) : Int × Int × Int :=
 if (allErr D n).2.2 ≠ 0 then allErr D n
 else if 0 ≤ findFrom (badD D) n 0 then (findFrom (badD D) n 0, rErr (D (findFrom (badD D) n 0).toNat))
 else (-1, -1, 0)
theorem ru0 {D : Nat → Dm} {n : Nat} (h : (allErr D n).2.2 ≠ 0) : ruErr D n = allErr D n := by unfold ruErr; rw [if_pos h]
theorem ru1 {D : Nat → Dm} {n i : Nat} (h : (allErr D n).2.2 = 0) (hi : i < n) (hb : (rErr (D i)).2 ≠ 0) (hf : ∀ j, j < i → (rErr (D j)).2 = 0) : ruErr D n = ((i : Int), (rErr (D i)).1, (rErr (D i)).2) := by
 have e : findFrom (badD D) n 0 = (i : Int) := findFrom_at (Nat.zero_le _) (by omega) (decide_eq_true hb) fun j _ hj => decide_eq_false (by simpa using hf j hj)
 unfold ruErr
 rw [if_neg (by simpa using h), e, if_pos (by omega), Int.toNat_natCast]
theorem ru2 {D : Nat → Dm} {n : Nat} (h : (allErr D n).2.2 = 0) (hf : ∀ j, j < n → (rErr (D j)).2 = 0) : ruErr D n = (-1, -1, 0) := by
 unfold ruErr
 rw [if_neg (by simpa using h), findFrom_none (p := badD D) fun j _ hj => decide_eq_false (by simpa using hf j (by omega)), if_neg (by omega)]

set_option maxHeartbeats 4000000 in
theorem rulall_any (A0 : Option Addr) (cap n : Nat) (D : Nat → Dm) (A : Nat → Option Addr) (C : Nat → Nat) (w : World) (hM : DimsV w A0 cap n D A C) : Calls Tryz.prog 62 #[.agg #[.slice A0 n cap]] w fun e w' => e = .returned (.tuple #[.int .i64 (ruErr D n).1, .int .i64 (ruErr D n).2.1, errV (ruErr D n).2.2]) ∧ Below w.heap.size w w' := by
 have hB0 := ownOut_below w A0 n cap 42
 have hS := ownOut_size w A0 n cap 42
 have hA := ownOut_at w A0 n cap 42
 have hal := all_any A0 cap n D A C (ownOut w A0 n cap 42) (hM.later hB0)
 obtain ⟨W, hW⟩ : ∃ W, ownOut w A0 n cap 42 = W := ⟨_, rfl⟩
 rw [hW] at hB0 hS hA hal
 unfold ownOut at hW
 have HB0 : Hid (Below w.heap.size w W) := hB0
 have HM : Hid (DimsV w A0 cap n D A C) := hM
 have hsz : w.heap.size < W.heap.size := by omega
 clear hM hB0
 by_cases he : (allErr D n).2.2 = 0
 case neg =>
  rw [ru0 he]
  rw [errV_some he] at hal ⊢
  generalize (allErr D n).1 = x at hal ⊢
  generalize (allErr D n).2.1 = y at hal ⊢
  generalize (allErr D n).2.2 = c at hal ⊢
  clear he
  go_enter Tryz.func62, Tryz.ntmps62
  go_wp2_with fail
  refine hal.mono ?_
  rintro e w1 ⟨rfl, hb1⟩
  go_wp2_with fail
  go_returns
  exact ⟨rfl, onB HB0.out hb1⟩
 obtain ⟨hn1, hn4, -, -⟩ := allErr_some he
 have HE : Hid ((allErr D n).2.2 = 0) := he
 rw [he, errV_zero] at hal
 generalize (allErr D n).1 = x at hal
 generalize (allErr D n).2.1 = y at hal
 have hnI : (n : Int) ≤ 4 := by omega
 have HA : Hid (W.cell? ⟨w.heap.size, 0, none⟩ = some (.slice A0 n cap)) := hA
 clear he
 go_enter Tryz.func62, Tryz.ntmps62
 go_wp2_with fail
 refine hal.mono ?_
 rintro e w1 ⟨rfl, hb1⟩
 have HB1 : Hid (Below W.heap.size W w1) := hb1
 have c1 : w1.cell? ⟨w.heap.size, 0, none⟩ = some (.slice A0 n cap) := (hb1.cell (p := ⟨w.heap.size, 0, none⟩) hsz).trans hA
 have hsz1 : w.heap.size < w1.heap.size := Nat.lt_of_lt_of_le hsz hb1.size
 clear hb1 hal hA hW
 go_wp2_with fail
 go_loopg [26] n (fun g s26 wr => ∃ (k : Nat), k ≤ n ∧ g = n - k ∧ s26 = .int .i64 k ∧ Hid (∀ j, j < k → (rErr (D j)).2 = 0) ∧ Below W.heap.size W wr)
 case atStart => exact ⟨0, Nat.zero_le _, rfl, rfl, (fun j hj => absurd hj (Nat.not_lt_zero _) : ∀ j, j < 0 → _), HB1.out⟩
 case round =>
  obtain ⟨k, hk, rfl, rfl, HK, hBw⟩ := hrel
  have HBw : Hid (Below W.heap.size W wr) := hBw
  by_cases hlt : k < n
  ·have hki : (k : Int) < (n : Int) := by omega
   obtain ⟨hcap, h0 | ⟨b, o, rfl, hMs⟩⟩ := HM.out.later (onB HB0.out hBw)
   ·omega
   have hcapI : (n : Int) ≤ (cap : Int) := by omega
   obtain ⟨h0, h1, h2, h3⟩ := hMs.2 k hlt
   have hbl : b < wr.heap.size := hMs.1
   have hBo := ownDim_below wr (D k) (A k) (C k) 24
   have hck := rcheck_any (D k) (A k) (C k) (ownDim wr (D k) (A k) (C k) 24) (h3.later hBo)
   obtain ⟨d0, d1, d2, hqW⟩ := dim_cells (w := wr) (d := D k) (A := A k) (cap := C k) (Below.refl _ _)
   have HBo : Hid (Below wr.heap.size wr (ownDim wr (D k) (A k) (C k) 24)) := hBo
   unfold dimV at hck
   obtain ⟨W2, hW2⟩ : ∃ W2, ownDim wr (D k) (A k) (C k) 24 = W2 := ⟨_, rfl⟩
   rw [hW2] at d0 d1 d2 hqW HBo hck
   unfold ownDim at hW2
   clear h3 hMs hBo hBw
   by_cases he : (rErr (D k)).2 = 0
   ·rw [he, errV_zero] at hck
    have HK2 : Hid (∀ j, j < k + 1 → (rErr (D j)).2 = 0) := fun j hj => by
     by_cases e : j = k
     ·rw [e]; exact he
     ·exact HK.out j (by omega)
    generalize (rErr (D k)).1 = z at hck
    clear he
    go_wp2_with fail
    refine hck.mono ?_
    rintro e w2 ⟨rfl, hb2⟩
    have HB2 : Hid (Below W.heap.size W w2) := onB HBw.out (onB HBo.out hb2)
    clear hb2 hck
    go_wp2_with fail
    go_roundg (n - (k + 1))
    case measure => omega
    case rel => exact ⟨k + 1, by omega, rfl, by go_num, HK2, HB2.out⟩
   ·have HRu : Hid (ruErr D n = ((k : Int), (rErr (D k)).1, (rErr (D k)).2)) := ru1 HE.out hlt he HK.out
    have HEe : Hid ((rErr (D k)).2 ≠ 0) := he
    rw [errV_some he] at hck
    generalize (rErr (D k)).1 = z at hck HRu
    generalize (rErr (D k)).2 = c at hck HRu HEe
    clear he
    go_wp2_with fail
    refine hck.mono ?_
    rintro e w2 ⟨rfl, hb2⟩
    have HB2 : Hid (Below W.heap.size W w2) := onB HBw.out (onB HBo.out hb2)
    clear hb2 hck
    go_wp2_with fail
    go_returns
    rw [HRu.out]
    exact ⟨by rw [errV_some HEe.out]; rfl, onB HB0.out HB2.out⟩
  ·have hke : k = n := by omega
   subst hke
   have HRu : Hid (ruErr D k = (-1, -1, 0)) := ru2 HE.out HK.out
   clear hBw
   go_wp2_with fail
   go_returns
   rw [HRu.out]
   exact ⟨rfl, onB HB0.out HBw.out⟩

set_option maxHeartbeats 4000000 in
theorem srules_any (A0 : Option Addr) (cap n : Nat) (D : Nat → Dm) (A : Nat → Option Addr) (C : Nat → Nat) (w : World) (hM : DimsV w A0 cap n D A C) : Calls Tryz.prog 34 #[.agg #[.slice A0 n cap]] w fun e w' => e = .returned (.tuple #[.int .i64 (ruErr D n).1, .int .i64 (ruErr D n).2.1, .int .i64 (ruErr D n).2.2]) ∧ Below w.heap.size w w' := by
 have hB0 := ownOut_below w A0 n cap 42
 have hS := ownOut_size w A0 n cap 42
 have hA := ownOut_at w A0 n cap 42
 have hal := routline_any A0 cap n D A C (ownOut w A0 n cap 42) (hM.later hB0)
 obtain ⟨W, hW⟩ : ∃ W, ownOut w A0 n cap 42 = W := ⟨_, rfl⟩
 rw [hW] at hB0 hS hA hal
 unfold ownOut at hW
 have HB0 : Hid (Below w.heap.size w W) := hB0
 have HM : Hid (DimsV w A0 cap n D A C) := hM
 have hsz : w.heap.size < W.heap.size := by omega
 clear hM hB0
 by_cases he : (allErr D n).2.2 = 0
 case neg =>
  rw [ru0 he]
  have hne : ((allErr D n).2.2 != 0) = true := by simpa using he
  generalize (allErr D n).1 = x at hal ⊢
  generalize (allErr D n).2.1 = y at hal ⊢
  generalize (allErr D n).2.2 = c at hal hne ⊢
  clear he
  go_enter Tryz.func34, Tryz.ntmps34
  go_wp2_with fail
  refine hal.mono ?_
  rintro e w1 ⟨rfl, hb1⟩
  go_wp2_with fail
  go_returns
  exact ⟨rfl, onB HB0.out hb1⟩
 obtain ⟨hn1, hn4, -, -⟩ := allErr_some he
 have HE : Hid ((allErr D n).2.2 = 0) := he
 rw [he] at hal
 generalize (allErr D n).1 = x at hal
 generalize (allErr D n).2.1 = y at hal
 have hnI : (n : Int) ≤ 4 := by omega
 have HA : Hid (W.cell? ⟨w.heap.size, 0, none⟩ = some (.slice A0 n cap)) := hA
 clear he
 go_enter Tryz.func34, Tryz.ntmps34
 go_wp2_with fail
 refine hal.mono ?_
 rintro e w1 ⟨rfl, hb1⟩
 have HB1 : Hid (Below W.heap.size W w1) := hb1
 clear hb1 hal hA hW
 go_wp2_with fail
 go_loopg [8] n (fun g s8 wr => ∃ (k : Nat), k ≤ n ∧ g = n - k ∧ s8 = .int .i64 k ∧ Hid (∀ j, j < k → (rErr (D j)).2 = 0) ∧ Below W.heap.size W wr)
 case atStart => exact ⟨0, Nat.zero_le _, rfl, rfl, (fun j hj => absurd hj (Nat.not_lt_zero _) : ∀ j, j < 0 → _), HB1.out⟩
 case round =>
  obtain ⟨k, hk, rfl, rfl, HK, hBw⟩ := hrel
  have HBw : Hid (Below W.heap.size W wr) := hBw
  have cw : wr.cell? ⟨w.heap.size, 0, none⟩ = some (.slice A0 n cap) := (hBw.cell (p := ⟨w.heap.size, 0, none⟩) hsz).trans HA.out
  have hszr : w.heap.size < wr.heap.size := Nat.lt_of_lt_of_le hsz hBw.size
  by_cases hlt : k < n
  ·have hki : (k : Int) < (n : Int) := by omega
   obtain ⟨hcap, h0 | ⟨b, o, rfl, hMs⟩⟩ := HM.out.later (onB HB0.out hBw)
   ·omega
   have hcapI : (n : Int) ≤ (cap : Int) := by omega
   obtain ⟨h0, h1, h2, h3⟩ := hMs.2 k hlt
   have hbl : b < wr.heap.size := hMs.1
   have hck := sneeds_any (D k) (A k) (C k) wr h3
   unfold dimV at hck
   clear h3 hMs hBw
   by_cases he : (rErr (D k)).2 = 0
   ·have HK2 : Hid (∀ j, j < k + 1 → (rErr (D j)).2 = 0) := fun j hj => by
     by_cases e : j = k
     ·rw [e]; exact he
     ·exact HK.out j (by omega)
    rw [he] at hck
    generalize (rErr (D k)).1 = z at hck
    clear he
    go_wp2_with fail
    refine hck.mono ?_
    rintro e w2 ⟨⟨A2, c2, xs, rfl, -⟩, hb2⟩
    have HB2 : Hid (Below W.heap.size W w2) := onB HBw.out hb2
    clear hb2 hck
    go_wp2_with fail
    go_roundg (n - (k + 1))
    case measure => omega
    case rel => exact ⟨k + 1, by omega, rfl, by go_num, HK2, HB2.out⟩
   ·have HRu : Hid (ruErr D n = ((k : Int), (rErr (D k)).1, (rErr (D k)).2)) := ru1 HE.out hlt he HK.out
    have hne : ((rErr (D k)).2 != 0) = true := by simpa using he
    generalize (rErr (D k)).1 = z at hck HRu
    generalize (rErr (D k)).2 = c at hck HRu hne
    clear he
    go_wp2_with fail
    refine hck.mono ?_
    rintro e w2 ⟨⟨A2, c2, xs, rfl, -⟩, hb2⟩
    have HB2 : Hid (Below W.heap.size W w2) := onB HBw.out hb2
    clear hb2 hck
    go_wp2_with fail
    go_returns
    rw [HRu.out]
    exact ⟨rfl, onB HB0.out HB2.out⟩
  ·have hke : k = n := by omega
   subst hke
   have HRu : Hid (ruErr D k = (-1, -1, 0)) := ru2 HE.out HK.out
   clear hBw
   go_wp2_with fail
   go_returns
   rw [HRu.out]
   exact ⟨rfl, onB HB0.out HBw.out⟩
end Go.Proofs.YtjffbmejobjmjafGreatDoor

namespace Go.Proofs.YtjffbmejobjmjafGreatDoor
open Go.ChangeShapes Go.WideShapes Go.ChangeAt Go.RowKit
set_option maxRecDepth 20000

def apT (D : Nat → Dm) (n : Nat) : Nat → Nat
 | 0 => 1
 | k + 1 => apT D n k * (D (n - 1 - k)).n
theorem apT_step {D : Nat → Dm} {n : Nat} : ∀ k, k < n → apT D n k = stepD D n (n - 1 - k)
 | 0, h => by unfold stepD; rw [show n - 1 - (n - 1 - 0) = 0 by omega]; rfl
 | k + 1, h => by
  rw [apT, apT_step k (by omega)]
  unfold stepD
  rw [show n - 1 - (n - 1 - (k + 1)) = k + 1 by omega, stepTo_front, show n - 1 - (k + 1) + 1 = n - 1 - k by omega, show n - 1 - (n - 1 - k) = k by omega]
  exact Nat.mul_comm _ _
theorem apT_le {D : Nat → Dm} {n : Nat} (h : ∀ j, j < n → (D j).n ≤ 12) : ∀ k, k ≤ n → apT D n k ≤ 12 ^ k
 | 0, _ => Nat.le_refl _
 | k + 1, hk => by
  rw [apT, Nat.pow_succ]
  exact Nat.mul_le_mul (apT_le h k (by omega)) (h _ (by omega))
theorem apT_small {D : Nat → Dm} {n : Nat} (hn : n ≤ 4) (h : ∀ j, j < n → (D j).n ≤ 12) {k : Nat} (hk : k ≤ n) : apT D n k ≤ 20736 :=
 Nat.le_trans (apT_le h k hk) (Nat.le_trans (Nat.pow_le_pow_right (by omega) (show k ≤ 4 by omega)) (by decide))

structure AL where
 xs : List WL
 A : Option Addr
 c : Nat
def AxC (cur : Array Value) (o : Nat) (d : Dm) (A : Option Addr) (c ap : Nat) (x : AL) : Prop := cur[o]? = some (.string d.name) ∧ cur[o + 1]? = some (.int .i64 d.solve) ∧ cur[o + 2]? = some (.slice A d.n c) ∧ cur[o + 3]? = some (.int .i64 ap) ∧ cur[o + 4]? = some (.slice x.A d.n x.c)
def AxOne (w : World) (d : Dm) (x : AL) : Prop := x.xs.length = d.n ∧ WaysV w x.A x.c x.xs ∧ ∀ k, k < d.n → WayOf d k (x.xs.getD k noW)
theorem AxOne.later {w w' : World} {d : Dm} {x : AL} (h : AxOne w d x) (hB : Below w.heap.size w w') : AxOne w' d x := ⟨h.1, h.2.1.later hB, h.2.2⟩
theorem AxOne.keepA {w w' : World} {d : Dm} {x : AL} (h : AxOne w d x) (hB : OffT 114 w w') : AxOne w' d x := ⟨h.1, h.2.1.keepA hB, h.2.2⟩
def LInv (w : World) (g n k : Nat) (D : Nat → Dm) (A : Nat → Option Addr) (C : Nat → Nat) (X : Nat → AL) : Prop := ∃ cur, w.heap[g]? = some (.cells cur 114 (0, 0)) ∧ cur.size = n * 5 ∧ ∀ i, n - k ≤ i → i < n → AxC cur (i * 5) (D i) (A i) (C i) (stepD D n i) (X i) ∧ AxOne w (D i) (X i)
theorem LInv.later {w w' : World} {g n k : Nat} {D : Nat → Dm} {A : Nat → Option Addr} {C : Nat → Nat} {X : Nat → AL} (h : LInv w g n k D A C X) (hB : Below w.heap.size w w') : LInv w' g n k D A C X := by
 obtain ⟨cur, h1, h2, h3⟩ := h
 exact ⟨cur, (hB.block g (Array.getElem?_eq_some_iff.1 h1).1).trans h1, h2, fun i a b => ⟨(h3 i a b).1, (h3 i a b).2.later hB⟩⟩
def AxesV (w : World) (g n : Nat) (D : Nat → Dm) (A : Nat → Option Addr) (C : Nat → Nat) (X : Nat → AL) : Prop := LInv w g n n D A C X ∧ ∀ i, i < n → MemsV w (A i) (C i) (D i).n (D i).mem
theorem AxesV.later {w w' : World} {g n : Nat} {D : Nat → Dm} {A : Nat → Option Addr} {C : Nat → Nat} {X : Nat → AL} (h : AxesV w g n D A C X) (hB : Below w.heap.size w w') : AxesV w' g n D A C X := ⟨h.1.later hB, fun i hi => (h.2 i hi).later hB⟩

theorem off5 {w : World} {g o T : Nat} {cur : Array Value} {fr : Nat × Nat} {a b c d e : Value} (h : w.heap[g]? = some (.cells cur T fr)) : OffT T w (((((w.setCell ⟨g, o, none⟩ a).setCell ⟨g, o + 1, none⟩ b).setCell ⟨g, o + 2, none⟩ c).setCell ⟨g, o + 3, none⟩ d).setCell ⟨g, o + 4, none⟩ e) ∧ (((((w.setCell ⟨g, o, none⟩ a).setCell ⟨g, o + 1, none⟩ b).setCell ⟨g, o + 2, none⟩ c).setCell ⟨g, o + 3, none⟩ d).setCell ⟨g, o + 4, none⟩ e).heap[g]? = some (.cells (((((cur.setIfInBounds o a).setIfInBounds (o + 1) b).setIfInBounds (o + 2) c).setIfInBounds (o + 3) d).setIfInBounds (o + 4) e) T fr) :=
 ⟨offT_trans (offT_trans (offT_trans (offT_trans (offT_set h) (offT_set (set_ty h))) (offT_set (set_ty (set_ty h)))) (offT_set (set_ty (set_ty (set_ty h))))) (offT_set (set_ty (set_ty (set_ty (set_ty h))))), set_ty (set_ty (set_ty (set_ty (set_ty h))))⟩
theorem set5_off {cur : Array Value} {o j : Nat} {a b c d e : Value} (h : j < o ∨ o + 5 ≤ j) : (((((cur.setIfInBounds o a).setIfInBounds (o + 1) b).setIfInBounds (o + 2) c).setIfInBounds (o + 3) d).setIfInBounds (o + 4) e)[j]? = cur[j]? := by
 rw [Array.getElem?_setIfInBounds_ne (by omega), Array.getElem?_setIfInBounds_ne (by omega), Array.getElem?_setIfInBounds_ne (by omega), Array.getElem?_setIfInBounds_ne (by omega), Array.getElem?_setIfInBounds_ne (by omega)]
theorem set5_at {cur : Array Value} {o : Nat} {a b c d e : Value} (h : o + 5 ≤ cur.size) : (((((cur.setIfInBounds o a).setIfInBounds (o + 1) b).setIfInBounds (o + 2) c).setIfInBounds (o + 3) d).setIfInBounds (o + 4) e)[o]? = some a ∧ (((((cur.setIfInBounds o a).setIfInBounds (o + 1) b).setIfInBounds (o + 2) c).setIfInBounds (o + 3) d).setIfInBounds (o + 4) e)[o + 1]? = some b ∧ (((((cur.setIfInBounds o a).setIfInBounds (o + 1) b).setIfInBounds (o + 2) c).setIfInBounds (o + 3) d).setIfInBounds (o + 4) e)[o + 2]? = some c ∧ (((((cur.setIfInBounds o a).setIfInBounds (o + 1) b).setIfInBounds (o + 2) c).setIfInBounds (o + 3) d).setIfInBounds (o + 4) e)[o + 3]? = some d ∧ (((((cur.setIfInBounds o a).setIfInBounds (o + 1) b).setIfInBounds (o + 2) c).setIfInBounds (o + 3) d).setIfInBounds (o + 4) e)[o + 4]? = some e := by
 refine ⟨?_, ?_, ?_, ?_, ?_⟩
 ·rw [Array.getElem?_setIfInBounds_ne (by omega), Array.getElem?_setIfInBounds_ne (by omega), Array.getElem?_setIfInBounds_ne (by omega), Array.getElem?_setIfInBounds_ne (by omega), Array.getElem?_setIfInBounds_self, if_pos (by omega)]
 ·rw [Array.getElem?_setIfInBounds_ne (by omega), Array.getElem?_setIfInBounds_ne (by omega), Array.getElem?_setIfInBounds_ne (by omega), Array.getElem?_setIfInBounds_self, if_pos (by simp; omega)]
 ·rw [Array.getElem?_setIfInBounds_ne (by omega), Array.getElem?_setIfInBounds_ne (by omega), Array.getElem?_setIfInBounds_self, if_pos (by simp; omega)]
 ·rw [Array.getElem?_setIfInBounds_ne (by omega), Array.getElem?_setIfInBounds_self, if_pos (by simp; omega)]
 ·rw [Array.getElem?_setIfInBounds_self, if_pos (by simp; omega)]
theorem LInv.put {w : World} {g n k i : Nat} {D : Nat → Dm} {A : Nat → Option Addr} {C : Nat → Nat} {X : Nat → AL} {x : AL} (h : LInv w g n k D A C X) (hi : n = k + 1 + i) (hx : AxOne w (D i) x) :
  LInv (((((w.setCell ⟨g, i * 5, none⟩ (.string (D i).name)).setCell ⟨g, i * 5 + 1, none⟩ (.int .i64 (D i).solve)).setCell ⟨g, i * 5 + 2, none⟩ (.slice (A i) (D i).n (C i))).setCell ⟨g, i * 5 + 3, none⟩ (.int .i64 (stepD D n i))).setCell ⟨g, i * 5 + 4, none⟩ (.slice x.A (D i).n x.c)) g n (k + 1) D A C (fun j => if j = i then x else X j) := by
 obtain ⟨cur, h1, h2, h3⟩ := h
 obtain ⟨o1, o2⟩ := off5 (o := i * 5) (a := .string (D i).name) (b := .int .i64 (D i).solve) (c := .slice (A i) (D i).n (C i)) (d := .int .i64 (stepD D n i)) (e := .slice x.A (D i).n x.c) h1
 refine ⟨_, o2, by simp [h2], fun j a b => ?_⟩
 by_cases e : j = i
 ·subst e
  simp only [if_true]
  exact ⟨set5_at (by omega), hx.keepA o1⟩
 ·simp only [if_neg e]
  obtain ⟨⟨c0, c1, c2, c3, c4⟩, hA⟩ := h3 j (by omega) b
  have hj : i < j := by omega
  refine ⟨⟨?_, ?_, ?_, ?_, ?_⟩, hA.keepA o1⟩
  ·rw [set5_off (by omega)]; exact c0
  ·rw [set5_off (by omega)]; exact c1
  ·rw [set5_off (by omega)]; exact c2
  ·rw [set5_off (by omega)]; exact c3
  ·rw [set5_off (by omega)]; exact c4

theorem Tryz.infoAx : (Tryz.prog.info? 114).map (fun i => (i.zero, i.size, i.bytes)) = some (some (.agg #[.string ⟨#[]⟩, .int .i64 0, .slice none 0 0, .int .i64 0, .slice none 0 0]), 5, 80) := by kernel_rfl
theorem run_make_axes (n : Nat) (hn : n ≤ 3000) (w : World) : (Instr.makeSlice 70 (.int .i64 (n : Int)) (.int .i64 (n : Int))).run Tryz.prog w = .ok (.slice (some ⟨w.heap.size, 0, none⟩) n n) (w.alloc (.cells (madeCells #[.string ⟨#[]⟩, .int .i64 0, .slice none 0 0, .int .i64 0, .slice none 0 0] (n * 5)) 114)) := by
 obtain ⟨i0, hi0, hz0, hz1, hz2⟩ := info_parts Tryz.infoAx
 have hr := run_make (P := Tryz.prog) w 70 114 i0 _ Tryz.underlying70 hi0 hz0 .i64 .i64 n n (by omega) (Int.le_refl _) (by rw [hz2]; omega) (by omega)
 simp only [Int.toNat_natCast, hz1] at hr
 exact hr

set_option maxHeartbeats 4000000 in
theorem lay_bad (A0 : Option Addr) (cap n : Nat) (D : Nat → Dm) (A : Nat → Option Addr) (C : Nat → Nat) (w : World) (he : (ruErr D n).2.2 ≠ 0) (hM : DimsV w A0 cap n D A C) :
  Calls Tryz.prog 30 #[.agg #[.slice A0 n cap]] w fun e w' => e = .returned (.tuple #[.slice none 0 0, errV (ruErr D n).2.2]) ∧ Below w.heap.size w w' := by
 have hB0 := ownOut_below w A0 n cap 42
 have hA := ownOut_at w A0 n cap 42
 have hal := rulall_any A0 cap n D A C (ownOut w A0 n cap 42) (hM.later hB0)
 rw [errV_some he] at hal ⊢
 obtain ⟨W, hW⟩ : ∃ W, ownOut w A0 n cap 42 = W := ⟨_, rfl⟩
 rw [hW] at hB0 hA hal
 unfold ownOut at hW
 have HB0 : Hid (Below w.heap.size w W) := hB0
 generalize (ruErr D n).1 = x at hal
 generalize (ruErr D n).2.1 = y at hal
 generalize (ruErr D n).2.2 = z at hal ⊢
 clear hM hB0 he
 go_enter Tryz.func30, Tryz.ntmps30
 go_wp2_with fail
 refine hal.mono ?_
 rintro e w1 ⟨rfl, hb1⟩
 go_wp2_with fail
 go_returns
 exact ⟨rfl, onB HB0.out hb1⟩

set_option maxHeartbeats 8000000 in
theorem lay_any2 (A0 : Option Addr) (cap n : Nat) (D : Nat → Dm) (A : Nat → Option Addr) (C : Nat → Nat) (w : World) (hE : (allErr D n).2.2 = 0) (hR : AllR D n) (hM : DimsV w A0 cap n D A C) :
  Calls Tryz.prog 30 #[.agg #[.slice A0 n cap]] w fun e w' => (∃ g X, e = .returned (.tuple #[.slice (some ⟨g, 0, none⟩) n n, .nilIface]) ∧ AxesV w' g n D A C X) ∧ Below w.heap.size w w' := by
 obtain ⟨hn1, hn4, -, hd⟩ := allErr_some hE
 have hB0 := ownOut_below w A0 n cap 42
 have hS := ownOut_size w A0 n cap 42
 have hA := ownOut_at w A0 n cap 42
 have hal := rulall_any A0 cap n D A C (ownOut w A0 n cap 42) (hM.later hB0)
 rw [ru2 hE hR, errV_zero] at hal
 obtain ⟨W, hW⟩ : ∃ W, ownOut w A0 n cap 42 = W := ⟨_, rfl⟩
 rw [hW] at hB0 hS hA hal
 unfold ownOut at hW
 have HB0 : Hid (Below w.heap.size w W) := hB0
 have HM : Hid (DimsV w A0 cap n D A C) := hM
 have HR : Hid (AllR D n) := hR
 have HD : Hid (∀ i, i < n → 1 ≤ (D i).n ∧ (D i).n ≤ 12) := hd
 have HA : Hid (W.cell? ⟨w.heap.size, 0, none⟩ = some (.slice A0 n cap)) := hA
 have hsz : w.heap.size < W.heap.size := by omega
 have hnI : (n : Int) ≤ 4 := by omega
 have hnI1 : 1 ≤ (n : Int) := by omega
 have hmk := run_make_axes n (by omega)
 clear hM hB0 hR hd hE
 go_enter Tryz.func30, Tryz.ntmps30
 go_wp2_with fail
 refine hal.mono ?_
 rintro e w1 ⟨rfl, hb1⟩
 have HB1 : Hid (Below w.heap.size w w1) := onB HB0.out hb1
 have c1 := (hb1.cell (p := ⟨w.heap.size, 0, none⟩) hsz).trans HA.out
 have hsz1 : w.heap.size < w1.heap.size := Nat.lt_of_lt_of_le hsz hb1.size
 obtain ⟨v, hv⟩ : ∃ v, w1.alloc (.cells (madeCells #[.string ⟨#[]⟩, .int .i64 0, .slice none 0 0, .int .i64 0, .slice none 0 0] (n * 5)) 114) = v := ⟨_, rfl⟩
 have hBv : Below w1.heap.size w1 v := by rw [← hv]; go_grown
 have HBv : Hid (Below w1.heap.size w1 v) := hBv
 have HLv : Hid (∀ X, LInv v w1.heap.size n 0 D A C X) := by
  intro X
  refine ⟨_, by rw [← hv]; exact heap_alloc_new .., by simp [madeCells], fun i a b => by omega⟩
 have cv := (hBv.cell (p := ⟨w.heap.size, 0, none⟩) hsz1).trans c1
 have HCv : Hid (v.cell? ⟨w.heap.size, 0, none⟩ = some (.slice A0 n cap)) := cv
 have hszv : w.heap.size < v.heap.size := Nat.lt_of_lt_of_le hsz1 hBv.size
 clear hb1 hal hA hBv hW
 go_wp2_with fail
 clear hmk hv cv c1

 go_loopg [8, 9] n (fun gg s8 s9 wr => ∃ (k : Nat) (X : Nat → AL), k ≤ n ∧ gg = n - k ∧ s8 = .int .i64 (apT D n k : Nat) ∧ s9 = .int .i64 ((n : Int) - 1 - (k : Int)) ∧ Hid (LInv wr w1.heap.size n k D A C X) ∧ Hid (Below w1.heap.size w1 wr))
 case atStart => exact ⟨0, fun _ => ⟨[], none, 0⟩, Nat.zero_le _, rfl, rfl, by go_num, HLv.out _, HBv⟩
 case round =>
  obtain ⟨k, X, hk, rfl, rfl, rfl, HL, HBw⟩ := hrel
  have cw : wr.cell? ⟨w.heap.size, 0, none⟩ = some (.slice A0 n cap) := (HBw.out.cell (p := ⟨w.heap.size, 0, none⟩) hsz1).trans (by have := (HBv.out.cell (p := ⟨w.heap.size, 0, none⟩) hsz1); rw [← this]; exact HCv.out)
  have hszr : w.heap.size < wr.heap.size := Nat.lt_of_lt_of_le hsz1 HBw.out.size
  by_cases hlt : k < n
  ·obtain ⟨i, hi⟩ : ∃ i, n = k + 1 + i := ⟨n - k - 1, by omega⟩
   have hin : i < n := by omega
   have e9 : (n : Int) - 1 - (k : Int) = (i : Int) := by omega
   rw [e9]
   have HI : Hid (n = k + 1 + i) := hi
   have hii : (i : Int) < (n : Int) := by omega
   obtain ⟨hcap, h0 | ⟨b, o, rfl, hMs⟩⟩ := HM.out.later (onB HB1.out HBw.out)
   ·omega
   have hcapI : (n : Int) ≤ (cap : Int) := by omega
   have hbr : b < wr.heap.size := hMs.1
   obtain ⟨d0, d1, d2, d3⟩ := hMs.2 i hin
   have hwy := waysof_any (D i) (A i) (C i) wr (HR.out i hin) d3
   unfold dimV at hwy
   have HAp : Hid (apT D n k = stepD D n i) := by show _ = _; rw [apT_step k hlt, show n - 1 - k = i by omega]
   have HAn : Hid (apT D n (k + 1) = apT D n k * (D i).n) := by show _ = _; rw [apT, show n - 1 - k = i by omega]
   have hap1 : (apT D n k : Int) ≤ 20736 := by have := apT_small (D := D) hn4 (fun j hj => (HD.out j hj).2) (k := k) (by omega); omega
   have hap2 : (apT D n (k + 1) : Int) ≤ 20736 := by have := apT_small (D := D) hn4 (fun j hj => (HD.out j hj).2) (k := k + 1) (by omega); omega
   have hap3 : (apT D n (k + 1) : Int) = (apT D n k : Int) * ((D i).n : Int) := by rw [HAn.out]; exact Int.natCast_mul _ _
   have hap4 : 0 ≤ (apT D n k : Int) * ((D i).n : Int) := by rw [← hap3]; omega
   have hap5 : (apT D n k : Int) * ((D i).n : Int) ≤ 20736 := by rw [← hap3]; exact hap2
   have HA3 : Hid ((apT D n (k + 1) : Int) = (apT D n k : Int) * ((D i).n : Int)) := hap3
   have HMs : Hid (DimsAt wr b o n D A C) := hMs
   clear d3 hMs hap2 hap3 e9 hi
   go_wp2_with fail
   refine hwy.mono ?_
   rintro e w2 ⟨⟨A2, c2, xs, rfl, hxl, hxv, hxo⟩, hb2⟩
   have HX2 : Hid (AxOne w2 (D i) ⟨xs, A2, c2⟩) := (⟨hxl, hxv, hxo⟩ : _ ∧ _ ∧ _)
   have HB2 : Hid (Below w1.heap.size w1 w2) := onB HBw.out hb2
   have HL2 : Hid (LInv w2 w1.heap.size n k D A C X) := HL.out.later hb2
   have cw2 := (hb2.cell (p := ⟨w.heap.size, 0, none⟩) hszr).trans cw
   have hsz2 : w.heap.size < w2.heap.size := Nat.lt_of_lt_of_le hszr hb2.size
   obtain ⟨q0, q1, q2, -⟩ := (HMs.out.later hb2).2 i hin
   have hbr2 : b < w2.heap.size := Nat.lt_of_lt_of_le hbr hb2.size
   obtain ⟨cur, hcur, hcs, -⟩ := HL2.out
   have hg2 : w1.heap.size < w2.heap.size := (Array.getElem?_eq_some_iff.1 hcur).1
   have hcc : ∀ j, j < n * 5 → ∃ u, w2.cell? ⟨w1.heap.size, j, none⟩ = some u := fun j hj => ⟨cur[j]'(by omega), by simp [World.cell?, hcur, show j < cur.size by omega]⟩
   have hfz : ∀ j, w2.frozen? ⟨w1.heap.size, j, none⟩ = false := fun j => by simp [World.frozen?, hcur]
   obtain ⟨u0, k0⟩ := hcc (i * 5) (by omega)
   obtain ⟨u1, k1⟩ := hcc (i * 5 + 1) (by omega)
   obtain ⟨u2, k2⟩ := hcc (i * 5 + 2) (by omega)
   obtain ⟨u3, k3⟩ := hcc (i * 5 + 3) (by omega)
   obtain ⟨u4, k4⟩ := hcc (i * 5 + 4) (by omega)
   have z0 := hfz (i * 5)
   have z1 := hfz (i * 5 + 1)
   have z2 := hfz (i * 5 + 2)
   have z3 := hfz (i * 5 + 3)
   have z4 := hfz (i * 5 + 4)
   have HP := hid_of (HL2.out.put (i := i) HI.out HX2.out)
   rw [← HAp.out] at HP
   simp only at HP
   clear hb2 hxl hxv hxo hwy cw hcur hcs hcc hfz d0 d1 d2
   go_wp2_with fail
   go_roundg (n - (k + 1))
   case measure => omega
   case rel => exact ⟨k + 1, fun j => if j = i then ⟨xs, A2, c2⟩ else X j, by omega, rfl, by rw [HA3.out], by congr 1; have := HI.out; omega, HP, (((((HB2.out.setCell (by simp) _).setCell (by simp) _).setCell (by simp) _).setCell (by simp) _).setCell (by simp) _ : Below ..)⟩
  ·have hke : k = n := by omega
   subst hke
   have e9 : (k : Int) - 1 - (k : Int) = -1 := by omega
   rw [e9]
   have HMk : Hid (∀ i, i < k → MemsV wr (A i) (C i) (D i).n (D i).mem) := fun i hi => by
    obtain ⟨hcap, h0 | ⟨b, o, -, hMs⟩⟩ := HM.out.later (onB HB1.out HBw.out)
    ·omega
    exact (hMs.2 i hi).2.2.2
   go_wp2_with fail
   go_returns
   exact ⟨⟨w1.heap.size, X, rfl, HL.out, HMk.out⟩, onB HB1.out HBw.out⟩
end Go.Proofs.YtjffbmejobjmjafGreatDoor

