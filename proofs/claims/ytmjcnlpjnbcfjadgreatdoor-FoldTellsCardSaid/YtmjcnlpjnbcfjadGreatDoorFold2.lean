/-
  Cells in a row, in memory; what step and check of package fold answer, and slices.Clone over cells, called in whatever memory.
-/
import Derived.Test.YtmjcnlpjnbcfjadGreatDoorFold1
import Derived.Test.YtmjcnlpjnbcfjadGreatDoorPl2
import Derived.Test.YtmjcnlpjnbcfjadGreatDoorTree3
import Derived.Test.YtmjcnlpjnbcfjadGreatDoorOpen
import Derived.Lib.SliceRun
import Derived.OwnWalk
namespace Go.Proofs.YtmjcnlpjnbcfjadGreatDoor
open Go.ChangeShapes Go.WideShapes Go.ChangeAt Go.RowKit
set_option maxRecDepth 20000

def noC : Int × Int := (0, 0)
/-- cells, one behind the other -/
def cellsC : List (Int × Int) → List Value
  | [] => []
  | c :: r => .int .i64 c.1 :: .int .i64 c.2 :: cellsC r
theorem cellsC_len (L : List (Int × Int)) : (cellsC L).length = L.length * 2 := by
  induction L with
  | nil => rfl
  | cons x r ih => simp [cellsC, ih]; omega
theorem cellsC_append (a b : List (Int × Int)) : cellsC (a ++ b) = cellsC a ++ cellsC b := by
  induction a with
  | nil => rfl
  | cons x r ih => simp [cellsC, ih]
theorem cellsC_one (L : List (Int × Int)) : ∀ v ∈ cellsC L, v.oneCell' = true := by
  induction L with
  | nil => intro v hv; cases hv
  | cons x r ih =>
    intro v hv
    simp only [cellsC, List.mem_cons] at hv
    rcases hv with rfl | rfl | hv
    · rfl
    · rfl
    · exact ih v hv
theorem cellsC_at (L : List (Int × Int)) : ∀ k, k < L.length → (cellsC L)[k * 2]? = some (.int .i64 (L.getD k noC).1) ∧ (cellsC L)[k * 2 + 1]? = some (.int .i64 (L.getD k noC).2) := by
  induction L with
  | nil => intro k hk; cases hk
  | cons x r ih =>
    intro k hk
    cases k with
    | zero => simp [cellsC]
    | succ k =>
      rw [show (k + 1) * 2 = k * 2 + 1 + 1 by omega]
      simp only [cellsC, List.getElem?_cons_succ, List.getD_cons_succ]
      exact ih k (by simpa using hk)
/-- cells that lie in a block -/
def CelAt (w : World) (b o : Nat) (L : List (Int × Int)) : Prop := b < w.heap.size ∧ ∀ k, k < L.length → w.cell? ⟨b, o + k * 2, none⟩ = some (.int .i64 (L.getD k noC).1) ∧ w.cell? ⟨b, o + k * 2 + 1, none⟩ = some (.int .i64 (L.getD k noC).2)
theorem CelAt.later {w w' : World} {b o : Nat} {L : List (Int × Int)} (h : CelAt w b o L) (hB : Below w.heap.size w w') : CelAt w' b o L :=
  ⟨Nat.lt_of_lt_of_le h.1 hB.size, fun k hk => ⟨(hB.cell (p := ⟨b, o + k * 2, none⟩) h.1).trans (h.2 k hk).1, (hB.cell (p := ⟨b, o + k * 2 + 1, none⟩) h.1).trans (h.2 k hk).2⟩⟩
theorem CelAt.cells {w : World} {b o : Nat} {L : List (Int × Int)} (h : CelAt w b o L) : ∀ j u, (cellsC L)[j]? = some u → w.cell? ⟨b, o + j, none⟩ = some u := by
  intro j u hj
  have hlt : j < (cellsC L).length := (List.getElem?_eq_some_iff.1 hj).1
  rw [cellsC_len] at hlt
  have hk : j / 2 < L.length := by omega
  obtain ⟨h1, h2⟩ := cellsC_at L _ hk
  obtain ⟨c1, c2⟩ := h.2 _ hk
  rcases Nat.mod_two_eq_zero_or_one j with hm | hm
  · have e : j = j / 2 * 2 := by omega
    rw [e] at hj ⊢
    rw [h1] at hj
    rw [c1]
    exact hj
  · have e : j = j / 2 * 2 + 1 := by omega
    rw [e] at hj ⊢
    rw [h2] at hj
    rw [← Nat.add_assoc, c2]
    exact hj
def CelV (w : World) (A : Option Addr) (cap : Nat) (L : List (Int × Int)) : Prop := L.length ≤ cap ∧ cap ≤ 9223372036854775807 ∧ (L = [] ∨ ∃ b o, A = some ⟨b, o, none⟩ ∧ CelAt w b o L)
theorem CelV.later {w w' : World} {A : Option Addr} {cap : Nat} {L : List (Int × Int)} (h : CelV w A cap L) (hB : Below w.heap.size w w') : CelV w' A cap L := by
  obtain ⟨h1, h0, h2 | ⟨b, o, h2, h3⟩⟩ := h
  · exact ⟨h1, h0, Or.inl h2⟩
  · exact ⟨h1, h0, Or.inr ⟨b, o, h2, h3.later hB⟩⟩
theorem CelV.nil (w : World) (A : Option Addr) (cap : Nat) (h : cap ≤ 9223372036854775807) : CelV w A cap [] := ⟨Nat.zero_le _, h, Or.inl rfl⟩
/-- cells in a block of a call's own -/
def CelB (w : World) (g : Nat) (L : List (Int × Int)) : Prop := ∃ cur : Array Value, w.heap[g]? = some (.cells cur 42 (0, 0)) ∧ ∀ k, k < L.length → cur[k * 2]? = some (.int .i64 (L.getD k noC).1) ∧ cur[k * 2 + 1]? = some (.int .i64 (L.getD k noC).2)
section
variable {w w' : World} {g : Nat} {L : List (Int × Int)}
theorem CelB.lt (h : CelB w g L) : g < w.heap.size := by
  obtain ⟨cur, h1, _⟩ := h
  exact (Array.getElem?_eq_some_iff.1 h1).1
theorem CelB.same (h : CelB w g L) (hb : w'.heap[g]? = w.heap[g]?) : CelB w' g L := by
  obtain ⟨cur, h1, h2⟩ := h
  exact ⟨cur, hb.trans h1, h2⟩
theorem CelB.later (h : CelB w g L) (hB : Below w.heap.size w w') : CelB w' g L := h.same (hB.block g h.lt)
theorem CelB.at (h : CelB w g L) {k : Nat} (hk : k < L.length) : w.cell? ⟨g, k * 2, none⟩ = some (.int .i64 (L.getD k noC).1) ∧ w.cell? ⟨g, k * 2 + 1, none⟩ = some (.int .i64 (L.getD k noC).2) := by
  obtain ⟨cur, h1, h2⟩ := h
  obtain ⟨h3, h4⟩ := h2 k hk
  exact ⟨by simp [World.cell?, h1, h3], by simp [World.cell?, h1, h4]⟩
theorem CelB.frozen (h : CelB w g L) (j : Nat) : w.frozen? ⟨g, j, none⟩ = false := by
  obtain ⟨cur, h1, _⟩ := h
  exact Lib.frozen_of_heap h1 j
theorem CelB.celAt (h : CelB w g L) : CelAt w g 0 L := ⟨h.lt, fun k hk => by rw [Nat.zero_add]; exact h.at hk⟩
theorem CelB.set (h : CelB w g L) {x : Nat} (hx : x < L.length) (a b : Int) : CelB ((w.setCell ⟨g, x * 2, none⟩ (.int .i64 a)).setCell ⟨g, x * 2 + 1, none⟩ (.int .i64 b)) g (L.set x (a, b)) := by
  obtain ⟨cur, h1, h2⟩ := h
  refine ⟨(cur.setIfInBounds (x * 2) (.int .i64 a)).setIfInBounds (x * 2 + 1) (.int .i64 b), by simp [World.setCell, Array.getElem?_modify, h1], fun k hk => ?_⟩
  rw [List.length_set] at hk
  obtain ⟨h3, h4⟩ := h2 k hk
  obtain ⟨h5, h6⟩ := h2 x hx
  have z0 := (Array.getElem?_eq_some_iff.1 h5).1
  have z1 := (Array.getElem?_eq_some_iff.1 h6).1
  by_cases e : k = x
  · subst e
    constructor
    · rw [Array.getElem?_setIfInBounds_ne (by omega), Array.getElem?_setIfInBounds_self_of_lt z0]
      simp [List.getD, hk]
    · rw [Array.getElem?_setIfInBounds_self_of_lt (by simpa using z1)]
      simp [List.getD, hk]
  · have e1 : (L.set x (a, b)).getD k noC = L.getD k noC := by simp [List.getD, List.getElem?_set_ne (fun h => e h.symm)]
    rw [e1]
    constructor
    · rw [Array.getElem?_setIfInBounds_ne (by omega), Array.getElem?_setIfInBounds_ne (by omega)]; exact h3
    · rw [Array.getElem?_setIfInBounds_ne (by omega), Array.getElem?_setIfInBounds_ne (by omega)]; exact h4
theorem celB_own {base : Nat} {v : Value} (h : w.ownsRow base 42 2 v L.length (cellsC L)) (hl : 0 < L.length) : ∃ g c, v = .slice (some ⟨g, 0, none⟩) L.length c ∧ base ≤ g ∧ L.length ≤ c ∧ c ≤ 9223372036854775807 ∧ CelB w g L := by
  rcases h.2 with ⟨_, h0⟩ | ⟨g, cap, cur, rfl, hb, hg, h4, h5, h6, h7⟩
  · omega
  · refine ⟨g, cap, rfl, hb, h4, by unfold maxLen at h5; omega, cur, hg, fun k hk => ?_⟩
    obtain ⟨x0, x1⟩ := cellsC_at L k hk
    rw [← h7, List.getElem?_take, if_pos (by omega), Array.getElem?_toList] at x0 x1
    exact ⟨x0, x1⟩
end
theorem Tryz.infoCe : (Tryz.prog.info? 42).map (fun i => (i.zero, i.size, i.bytes)) = some (some (.agg #[.int .i64 0, .int .i64 0]), 2, 16) := by kernel_rfl

set_option maxHeartbeats 2000000 in
theorem step_any (b o cap n dim : Nat) (D : Nat → Dm) (A : Nat → Option Addr) (C : Nat → Nat) (w : World) (hdim : dim < n) (hn : n ≤ 4) (hcap : n ≤ cap) (hd : ∀ j, j < n → 1 ≤ (D j).n ∧ (D j).n ≤ 12) (hM : DimsAt w b o n D A C) :
    Calls Tryz.prog 48 #[.agg #[.slice (some ⟨b, o, none⟩) n cap], .int .i64 dim] w fun e w' => e = .returned (.int .i64 (stepD D n dim)) ∧ Below w.heap.size w w' := by
  have HM : Hid (DimsAt w b o n D A C) := hM
  have HD : Hid (∀ j, j < n → 1 ≤ (D j).n ∧ (D j).n ≤ 12) := hd
  have hn' : (n : Int) ≤ 4 := by omega
  have hdi : (dim : Int) + 1 ≤ (n : Int) := by omega
  obtain ⟨m, hm⟩ : ∃ m, n = dim + 1 + m := ⟨n - (dim + 1), by omega⟩
  have HS : Hid (stepD D n dim = stepTo D dim m) := by show _ = _; unfold stepD; rw [show n - 1 - dim = m by omega]
  have hB0 := ownOut_below w (some ⟨b, o, none⟩) n cap 24
  obtain ⟨W, hW⟩ : ∃ W, w.alloc (.cells #[.slice (some ⟨b, o, none⟩) n cap] 24) = W := ⟨_, rfl⟩
  have hWo : ownOut w (some ⟨b, o, none⟩) n cap 24 = W := hW
  rw [hWo] at hB0
  have HB0 : Hid (Below w.heap.size w W) := hB0
  have HMW : Hid (DimsAt W b o n D A C) := hM.later hB0
  have cW : W.cell? ⟨w.heap.size, 0, none⟩ = some (.slice (some ⟨b, o, none⟩) n cap) := by rw [← hWo]; exact ownOut_at ..
  have e1 : n - (dim + 1) = m := by omega
  have e2 : ((dim : Int) + 1).toNat = dim + 1 := by omega
  have hm' : (m : Int) ≤ 4 := by omega
  have HE : Hid (n = dim + 1 + m) := hm
  clear hM hd hB0 hWo hm
  by_cases hc : cap = dim + 1
  · have hm0 : m = 0 := by have := HE.out; omega
    subst hm0
    subst hc
    go_enter Tryz.func48, Tryz.ntmps48
    go_wp2_with fail
    clear hW
    refine wp_loop_rounds 1 ?_
    rw [rounds_succ]
    go_wp2_with fail
    go_ret
    exact ⟨by rw [HS.out]; rfl, HB0.out⟩
  go_enter Tryz.func48, Tryz.ntmps48
  go_wp2_with fail
  clear hW
  go_loopg [5, 14] m (fun g s5 s14 wr => ∃ (k : Nat), k ≤ m ∧ g = m - k ∧ s14 = .int .i64 k ∧ s5 = .int .i64 (stepTo D dim k) ∧ Below W.heap.size W wr)
  case atStart => exact ⟨0, Nat.zero_le _, rfl, rfl, rfl, Below.refl _ _⟩
  case round =>
    obtain ⟨k, hk, rfl, rfl, rfl, hBw⟩ := hrel
    have HW : Hid (Below W.heap.size W wr) := hBw
    by_cases hlt : k < m
    · obtain ⟨h0, h1, h3, -⟩ := (HMW.out.later hBw).2 (dim + 1 + k) (by have := HE.out; omega)
      rw [show o + (dim + 1 + k) * 3 = o + (dim + 1) * 3 + k * 3 by omega] at h0 h1 h3
      have hki : (k : Int) < (m : Int) := by omega
      have hp1 : stepTo D dim (k + 1) ≤ 20736 := Nat.le_trans (stepTo_le (n := n) (fun j hj => (HD.out j hj).1) (by have := HE.out; omega)) (prod_small (fun j hj => (HD.out j (by have := HE.out; omega)).2) (by have := HE.out; omega))
      have hp2 : (stepTo D dim (k + 1) : Int) = (stepTo D dim k : Int) * ((D (dim + 1 + k)).n : Int) := by rw [stepTo]; exact Int.natCast_mul _ _
      have hp3 : 0 ≤ (stepTo D dim k : Int) * ((D (dim + 1 + k)).n : Int) := by omega
      have hp4 : (stepTo D dim k : Int) * ((D (dim + 1 + k)).n : Int) ≤ 20736 := by omega
      have HP : Hid ((stepTo D dim (k + 1) : Int) = (stepTo D dim k : Int) * ((D (dim + 1 + k)).n : Int)) := hp2
      clear hBw hp1 hp2
      go_wp2_with fail
      go_roundg (m - (k + 1))
      case measure => omega
      case rel => exact ⟨k + 1, by omega, rfl, by go_num, by rw [HP.out], onB HW.out (by go_grown)⟩
    · have hke : k = m := by omega
      subst hke
      go_wp2_with fail
      go_ret
      exact ⟨by rw [HS.out]; rfl, onB HB0.out HW.out⟩

/-- what is wrong with cells of an outline -/
def goodB (L : List (Int × Int)) (k : Nat) : Bool := !(good (L.getD k noC).1 (L.getD k noC).2)
def chkErr (D : Nat → Dm) (n : Nat) (L : List (Int × Int)) : Int := if (allErr D n).2.2 ≠ 0 then (allErr D n).2.2 else if L.length ≠ prodN D n then 3 else if 0 ≤ findFrom (goodB L) L.length 0 then 1 else 0
theorem ck0 {D : Nat → Dm} {n : Nat} {L : List (Int × Int)} (h : (allErr D n).2.2 ≠ 0) : chkErr D n L = (allErr D n).2.2 := by unfold chkErr; rw [if_pos h]
theorem ck1 {D : Nat → Dm} {n : Nat} {L : List (Int × Int)} (h : (allErr D n).2.2 = 0) (h1 : L.length ≠ prodN D n) : chkErr D n L = 3 := by unfold chkErr; rw [if_neg (by simpa using h), if_pos h1]
theorem ck2 {D : Nat → Dm} {n : Nat} {L : List (Int × Int)} (h : (allErr D n).2.2 = 0) (h1 : L.length = prodN D n) : chkErr D n L = if 0 ≤ findFrom (goodB L) L.length 0 then 1 else 0 := by unfold chkErr; rw [if_neg (by simpa using h), if_neg (by simpa using h1)]
theorem find_none_all {p : Nat → Bool} : ∀ m i, findFrom p m i < 0 → ∀ j, i ≤ j → j < i + m → p j = false
  | 0, i, _, j, h1, h2 => by omega
  | m + 1, i, h, j, h1, h2 => by
    cases hp : p i
    · rw [findFrom_miss _ hp] at h
      by_cases e : j = i
      · rw [e]; exact hp
      · exact find_none_all m (i + 1) h j (by omega) (by omega)
    · rw [findFrom_hit _ hp] at h; omega
theorem find_none_of {p : Nat → Bool} : ∀ m i, (∀ j, i ≤ j → j < i + m → p j = false) → findFrom p m i < 0
  | 0, i, _ => by simp [findFrom]
  | m + 1, i, h => by
    rw [findFrom_miss _ (h i (by omega) (by omega))]
    exact find_none_of m (i + 1) fun j h1 h2 => h j (by omega) (by omega)
theorem chk_right {D : Nat → Dm} {n : Nat} {L : List (Int × Int)} (h : chkErr D n L = 0) : (allErr D n).2.2 = 0 ∧ L.length = prodN D n ∧ goodL L := by
  by_cases h1 : (allErr D n).2.2 = 0
  · by_cases h2 : L.length = prodN D n
    · refine ⟨h1, h2, fun c hc => ?_⟩
      rw [ck2 h1 h2] at h
      have h3 : findFrom (goodB L) L.length 0 < 0 := by
        rcases Int.lt_or_le (findFrom (goodB L) L.length 0) 0 with h4 | h4
        · exact h4
        · rw [if_pos h4] at h; cases h
      obtain ⟨k, hk, rfl⟩ := List.getElem_of_mem hc
      have := find_none_all _ _ h3 k (Nat.zero_le _) (by omega)
      unfold goodB at this
      rw [List.getD_eq_getElem?_getD, List.getElem?_eq_getElem hk] at this
      simpa [goodC] using this
    · rw [ck1 h1 h2] at h; cases h
  · rw [ck0 h1] at h; exact absurd h h1
theorem chk_ok {D : Nat → Dm} {n : Nat} {L : List (Int × Int)} (h1 : (allErr D n).2.2 = 0) (h2 : L.length = prodN D n) (h3 : goodL L) : chkErr D n L = 0 := by
  rw [ck2 h1 h2, if_neg]
  have := find_none_of (p := goodB L) L.length 0 fun j _ hj => by
    unfold goodB
    have hg := good_at h3 (j : Int)
    unfold cAt goodC at hg
    rw [show ((j : Int)).toNat = j by omega] at hg
    unfold noC
    rw [hg]
    rfl
  omega

set_option maxHeartbeats 4000000 in
theorem fcheck_any (A0 : Option Addr) (cap n : Nat) (D : Nat → Dm) (A : Nat → Option Addr) (C : Nat → Nat) (AC : Option Addr) (cc : Nat) (L : List (Int × Int)) (w : World) (hM : DimsV w A0 cap n D A C) (hL : CelV w AC cc L) :
    Calls Tryz.prog 32 #[.agg #[.slice A0 n cap], .slice AC L.length cc] w fun e w' => e = .returned (errV (chkErr D n L)) ∧ Below w.heap.size w w' := by
  have hB0 := ownOut_below w A0 n cap 24
  have h := pcells_any A0 cap n D A C (ownOut w A0 n cap 24) (hM.later hB0)
  have HB0 : Hid (Below w.heap.size w (ownOut w A0 n cap 24)) := hB0
  have HLv : Hid (CelV w AC cc L) := hL
  by_cases he : (allErr D n).2.2 = 0
  · obtain ⟨hn1, hn4, hp3, hd⟩ := allErr_some he
    have hcv : cellsV D n = (prodN D n : Int) := by unfold cellsV; rw [if_pos he]
    rw [he, errV_zero, hcv] at h
    have HA : Hid ((allErr D n).2.2 = 0) := he
    have hl63 : (L.length : Int) ≤ 9223372036854775807 := by have := hL.1; have := hL.2.1; omega
    clear hcv hd he hM hB0 hL
    by_cases hl : L.length = prodN D n
    · have HR : Hid (chkErr D n L = if 0 ≤ findFrom (goodB L) L.length 0 then 1 else 0) := ck2 HA.out hl
      have HLN : Hid (L.length = prodN D n) := hl
      rw [← hl] at h hp3
      obtain ⟨N, hN⟩ : ∃ N, L.length = N := ⟨_, rfl⟩
      have HN : Hid (L.length = N) := hN
      rw [hN] at h hp3 HR hl63 ⊢
      have hne : ((N : Int) != (N : Int)) = false := by simp
      have hN' : (N : Int) ≤ 3000 := by omega
      clear hl hN
      go_enter Tryz.func32, Tryz.ntmps32
      go_wp2_with fail
      refine h.mono ?_
      rintro e w1 ⟨rfl, hb1⟩
      have HB : Hid (Below w.heap.size w w1) := onB HB0.out hb1
      have HLw : Hid (CelV w1 AC cc L) := HLv.out.later HB.out
      clear hb1 h
      go_wp2_with fail
      go_loopg [25] N (fun g s25 wr => ∃ (k : Nat), k ≤ N ∧ g = N - k ∧ s25 = .int .i64 k ∧ Hid (findFrom (goodB L) (N - k) k = findFrom (goodB L) N 0) ∧ Below w1.heap.size w1 wr)
      case atStart => exact ⟨0, Nat.zero_le _, rfl, rfl, (rfl : findFrom (goodB L) (N - 0) 0 = findFrom (goodB L) N 0), Below.refl _ _⟩
      case round =>
        obtain ⟨k, hk, rfl, rfl, HF, hBw⟩ := hrel
        have HW : Hid (Below w1.heap.size w1 wr) := hBw
        by_cases hlt : k < N
        · have hki : (k : Int) < (N : Int) := by omega
          have hkL : k < L.length := by rw [HN.out]; exact hlt
          obtain ⟨hcc, hc63, h0 | ⟨b, o, rfl, hA⟩⟩ := HLw.out.later hBw
          · rw [h0] at hkL; simp at hkL
          rw [HN.out] at hcc
          obtain ⟨c1, c2⟩ := hA.2 k hkL
          have hgb : goodB L k = !(good (L.getD k noC).1 (L.getD k noC).2) := rfl
          have HSK : Hid (N - k = (N - (k + 1)) + 1) := by show _ = _; omega
          generalize (L.getD k noC).1 = ck at c1 hgb
          generalize (L.getD k noC).2 = cn at c2 hgb
          have HBa : Hid (Below wr.heap.size wr (wr.alloc (.cells #[.int .i64 ck, .int .i64 cn] 42))) := by show Below _ _ _; go_grown
          have hch := check_any ck cn
          cases hg : good ck cn
          · rw [hg] at hch hgb
            simp only [Bool.false_eq_true, if_false] at hch
            have HK : Hid (goodB L k = true) := hgb
            clear hA hBw hgb hg
            go_wp2_with fail
            refine (hch _).mono ?_
            rintro e w2 ⟨rfl, hb2⟩
            have HB2 : Hid (Below wr.heap.size wr w2) := onB (by go_grown) hb2
            clear hb2
            go_wp2_with fail
            go_ret
            refine ⟨?_, onB HB.out (onB HW.out HB2.out)⟩
            rw [HR.out, ← HF.out, HSK.out, findFrom_hit _ HK.out, if_pos (by omega)]
            rfl
          · rw [hg] at hch hgb
            simp only [if_true] at hch
            have HK : Hid (goodB L k = false) := hgb
            clear hA hBw hgb hg
            go_wp2_with fail
            refine (hch _).mono ?_
            rintro e w2 ⟨rfl, hb2⟩
            have HB2 : Hid (Below wr.heap.size wr w2) := onB (by go_grown) hb2
            clear hb2
            go_wp2_with fail
            go_roundg (N - (k + 1))
            case measure => omega
            case rel => exact ⟨k + 1, by omega, rfl, by go_num, (by rw [← HF.out, HSK.out, findFrom_miss _ HK.out] : findFrom (goodB L) (N - (k + 1)) (k + 1) = findFrom (goodB L) N 0), onB HW.out HB2.out⟩
        · have hke : k = N := by omega
          subst hke
          clear hBw
          go_wp2_with fail
          go_ret
          refine ⟨?_, onB HB.out HW.out⟩
          rw [HR.out, ← HF.out, Nat.sub_self]
          rfl
    · have HR : Hid (chkErr D n L = 3) := ck1 HA.out hl
      have hne : ((L.length : Int) != (prodN D n : Int)) = true := by simp; omega
      generalize L.length = N at hne hl63
      generalize prodN D n = pn at h hne hp3
      clear hl
      go_enter Tryz.func32, Tryz.ntmps32
      go_wp2_with fail
      refine h.mono ?_
      rintro e w1 ⟨rfl, hb1⟩
      have HB : Hid (Below w.heap.size w w1) := onB HB0.out hb1
      clear hb1 h
      go_wp2_with fail
      go_ret
      exact ⟨by rw [HR.out]; rfl, HB.out⟩
  · have HR : Hid (chkErr D n L = (allErr D n).2.2) := ck0 he
    have HE : Hid (errV (allErr D n).2.2 = .iface 58 (.int .i64 (allErr D n).2.2)) := errV_some he
    rw [errV_some he] at h
    generalize L.length = N
    clear he hM hB0 hL
    generalize (allErr D n).2.2 = c at h HE HR
    generalize cellsV D n = cv at h
    go_enter Tryz.func32, Tryz.ntmps32
    go_wp2_with fail
    refine h.mono ?_
    rintro e w1 ⟨rfl, hb1⟩
    have HB : Hid (Below w.heap.size w w1) := onB HB0.out hb1
    clear hb1 h
    go_wp2_with fail
    go_ret
    exact ⟨by rw [HR.out, HE.out]; rfl, HB.out⟩

set_option maxHeartbeats 2000000 in
theorem cclone_any (b o c : Nat) (L : List (Int × Int)) (w : World) (hl0 : 0 < L.length) (hl3 : L.length ≤ 3000) (hL : CelAt w b o L) : Calls Tryz.prog 33 #[.slice (some ⟨b, o, none⟩) L.length c] w fun e w' => (∃ g c', e = .returned (.slice (some ⟨g, 0, none⟩) L.length c') ∧ w.heap.size ≤ g ∧ L.length ≤ c' ∧ c' ≤ 9223372036854775807 ∧ CelB w' g L) ∧ Below w.heap.size w w' := by
  have hq : ∀ (w : World) (a : Option Addr) (n c n' c' : Nat), (binOp .eql 26 (.slice a n c) (.slice none n' c')).run Tryz.prog w = .ok (.bool a.isNone) w := fun w a n c n' c' => Lib.run_eql_slice_nil w _ _ a n c n' c' Tryz.underlying26
  obtain ⟨i0, hi0, hz0, hz1, hz2⟩ := info_parts Tryz.infoCe
  have HC : Hid (∀ j u, (cellsC L)[j]? = some u → w.cell? ((⟨b, o, none⟩ : Addr).add j) = some u) := fun j u hj => by rw [plain_add]; exact hL.cells j u hj
  have HF : Hid (∀ (w' : World) (v : Value), w'.ownsRow w.heap.size 42 2 v L.length (cellsC L) → ∃ g c', v = .slice (some ⟨g, 0, none⟩) L.length c' ∧ w.heap.size ≤ g ∧ L.length ≤ c' ∧ c' ≤ 9223372036854775807 ∧ CelB w' g L) := fun w' v h => celB_own h hl0
  have hl : (cellsC L).length = L.length * 2 := cellsC_len L
  have h1 := cellsC_one L
  clear hL
  go_enter Tryz.func33, Tryz.ntmps33
  go_wp2_with (at_builtin; refine wpList_append_own _ rfl _ _ 26 rfl w.heap.size 42 i0 (.agg #[.int .i64 0, .int .i64 0]) 2 16 Tryz.underlying26 hi0 hz0 hz1 hz2 rfl (by decide) _ _ _ rfl (World.ownsRow_made w #[] 0 (Nat.le_refl _) (Nat.zero_le _) (by simp)) ⟨b, o, none⟩ L.length c (cellsC L) rfl ?qc1 ?qc2 ?qc3 ?qc4 ?qc5 ?qc6 ?_)
  case qc1 => exact hl
  case qc2 => exact fun j u hj => Lib.cell?_alloc_some _ (HC.out j u hj)
  case qc3 => exact h1
  case qc4 => simp only [maxLen]; omega
  case qc5 => omega
  case qc6 => simp
  intro v' w1 hown hgrow hnil
  obtain ⟨g, c', rfl, hg⟩ := HF.out _ _ hown
  have HT : Hid (w.heap.size ≤ g ∧ L.length ≤ c' ∧ c' ≤ 9223372036854775807 ∧ CelB w1 g L) := hg
  have HB : Hid (Below w.heap.size w w1) := ((Below.refl _ w).alloc (Nat.le_refl _) _).grown hgrow (by simp) (by intro k hk; simp [Value.ownBlock] at hk; omega)
  clear hown hgrow hnil hg
  go_wp2_with fail
  go_ret
  exact ⟨⟨g, c', rfl, HT.out⟩, HB.out⟩
end Go.Proofs.YtmjcnlpjnbcfjadGreatDoor
