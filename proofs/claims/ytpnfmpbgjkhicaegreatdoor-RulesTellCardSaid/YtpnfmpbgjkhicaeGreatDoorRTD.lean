/-
  What the small functions of package cell answer, called in whatever memory: within, Of, Check: of all numbers, with new memory alone.
  Whether anything of a list of two cells is so: slices.IndexFunc, slices.ContainsFunc, anyOf at any predicate that is told by a contract; bothEmpty, oneEmpty, and the closures that they ask.
  What the four closures that reckon answer (the sum, the difference, the product, the quotient of two numbers of cells): Of what comes of it.
  What join answers, by contracts of the two functions that are handed to it: of a cell that is wrong ErrRange, of a Fault a Fault, of what is blank Empty, else what the second one makes of the two numbers.
  What Add, Sub, Mul and Div of package cell answer of any two cells: the pure functions below, or ErrRange where a cell is wrong; new memory alone is written.
  Cells in a row, in memory: a slice of them, a block of a call's own that holds them.
  Cells joined by an op; names, and where one of them is; what is wrong with names and cells: plain data.
  What a formula comes to, as a plain function on trees: of each name the cell at its place; swapped, which comes to the same; which names there are.
  What lay of package reckon does: behind what there is it lays the nodes of a tree, swapped.
-/
import Derived.Test.YtpnfmpbgjkhicaeGreatDoorProg
import Derived.WalkKit
import Derived.ProofKit
import Derived.OpenShut
import Derived.Handy
import Derived.Outline
import Derived.Test.YtpnfmpbgjkhicaeGreatDoorPl2
import Derived.Test.YtpnfmpbgjkhicaeGreatDoorTree3
import Derived.Test.YtpnfmpbgjkhicaeGreatDoorOpen
import Derived.Lib.SliceRun
import Derived.OwnWalk
import Derived.Sort.Walk0
import Derived.Test.YtpnfmpbgjkhicaeGreatDoorRTC
import Derived.Maps.AppendAt
namespace Go.Proofs.YtpnfmpbgjkhicaeGreatDoor
open Go.ChangeShapes Go.WideShapes Go.ChangeAt Go.RowKit

def ofP (n : Int) : Int × Int := if -1000000000000 ≤ n ∧ n ≤ 1000000000000 then (1, n) else (2, 0)
theorem ofP_in {n : Int} (h1 : -1000000000000 ≤ n) (h2 : n ≤ 1000000000000) : ofP n = (1, n) := by unfold ofP; rw [if_pos ⟨h1, h2⟩]
theorem ofP_out {n : Int} (h : n < -1000000000000 ∨ 1000000000000 < n) : ofP n = (2, 0) := by unfold ofP; rw [if_neg (by omega)]

theorem of_any (n : Int) (w : World) : Calls Tryz.prog 13 #[.int .i64 n] w fun e w' => e = .returned (.agg #[.int .i64 (ofP n).1, .int .i64 (ofP n).2]) ∧ Below w.heap.size w w' := by
  by_cases h1 : -1000000000000 ≤ n
  · by_cases h2 : n ≤ 1000000000000
    · rw [ofP_in h1 h2]
      go_enter Tryz.func13, Tryz.ntmps13
      go_wp2
      go_returns
      exact ⟨rfl, by go_grown⟩
    · rw [ofP_out (by omega)]
      go_enter Tryz.func13, Tryz.ntmps13
      go_wp2
      go_returns
      exact ⟨rfl, by go_grown⟩
  · rw [ofP_out (by omega)]
    go_enter Tryz.func13, Tryz.ntmps13
    go_wp2
    go_returns
    exact ⟨rfl, by go_grown⟩

def good (k n : Int) : Bool := decide ((k = 1 ∧ -1000000000000 ≤ n ∧ n ≤ 1000000000000) ∨ ((k = 0 ∨ k = 2) ∧ n = 0))

theorem check_any (k n : Int) (w : World) : Calls Tryz.prog 64 #[.agg #[.int .i64 k, .int .i64 n]] w fun e w' => e = .returned (if good k n = true then .nilIface else .iface 72 (.int .i64 1)) ∧ Below w.heap.size w w' := by
  by_cases hk1 : k = 1
  · subst hk1
    by_cases h1 : -1000000000000 ≤ n
    · by_cases h2 : n ≤ 1000000000000
      · rw [if_pos (by simp [good]; omega)]
        go_enter Tryz.func64, Tryz.ntmps64
        go_wp2
        go_returns
        exact ⟨rfl, by go_grown⟩
      · rw [if_neg (by simp [good]; omega)]
        go_enter Tryz.func64, Tryz.ntmps64
        go_wp2
        go_returns
        exact ⟨rfl, by go_grown⟩
    · rw [if_neg (by simp [good]; omega)]
      go_enter Tryz.func64, Tryz.ntmps64
      go_wp2
      go_returns
      exact ⟨rfl, by go_grown⟩
  · by_cases hk : k = 0 ∨ k = 2
    · by_cases hn : n = 0
      · rw [if_pos (by simp [good]; omega)]
        subst hn
        rcases hk with rfl | rfl
        all_goals
          go_enter Tryz.func64, Tryz.ntmps64
          go_wp2
          go_returns
          exact ⟨rfl, by go_grown⟩
      · rw [if_neg (by simp [good]; omega)]
        rcases hk with rfl | rfl
        all_goals
          go_enter Tryz.func64, Tryz.ntmps64
          go_wp2
          go_returns
          exact ⟨rfl, by go_grown⟩
    · have hk0 : (k == 0) = false := by simp; omega
      have hk2 : (k == 2) = false := by simp; omega
      have hk3 : (k == 1) = false := by simp; omega
      rw [if_neg (by simp [good]; omega)]
      clear hk hk1
      go_enter Tryz.func64, Tryz.ntmps64
      go_wp2
      go_returns
      exact ⟨rfl, by go_grown⟩
end Go.Proofs.YtpnfmpbgjkhicaeGreatDoor

namespace Go.Proofs.YtpnfmpbgjkhicaeGreatDoor
open Go.ChangeShapes Go.WideShapes Go.ChangeAt Go.RowKit

theorem bcell {W w1 : World} (hb : Below W.heap.size W w1) : (∀ b o, b < W.heap.size → w1.cell? ⟨b, o, none⟩ = W.cell? ⟨b, o, none⟩) ∧ (∀ b o, b < W.heap.size → w1.frozen? ⟨b, o, none⟩ = W.frozen? ⟨b, o, none⟩) :=
  ⟨fun b o h => hb.cell (p := ⟨b, o, none⟩) h, fun b o h => hb.frozen (p := ⟨b, o, none⟩) h⟩

def Enters (fn : Nat) : Prop := ∀ (args : Array Value) (w : World), (callFunc fn args).run Tryz.prog w = .ok (.enter fn args) w
def Pred (fn : Nat) (p : Int → Bool) : Prop := ∀ (k n : Int) (w : World), Calls Tryz.prog fn #[.agg #[.int .i64 k, .int .i64 n]] w fun e w' => e = .returned (.bool (p k)) ∧ Below w.heap.size w w'

theorem index_any (fn : Nat) (p : Int → Bool) (he : Enters fn) (hf : Pred fn p) (ka na kb nb : Int) (b : Nat) (w : World) (hb0 : b < w.heap.size)
    (h0 : w.cell? ⟨b, 0, none⟩ = some (.int .i64 ka)) (h1 : w.cell? ⟨b, 1, none⟩ = some (.int .i64 na)) (h2 : w.cell? ⟨b, 2, none⟩ = some (.int .i64 kb)) (h3 : w.cell? ⟨b, 3, none⟩ = some (.int .i64 nb)) :
    Calls Tryz.prog 199 #[.slice (some ⟨b, 0, none⟩) 2 2, .func (.func fn) #[] #[]] w fun e w' => e = .returned (.int .i64 (if p ka then 0 else if p kb then 1 else -1)) ∧ Below w.heap.size w w' := by
  have HF : Hid (Pred fn p) := hf
  clear hf
  unfold Enters at he
  cases hpa : p ka
  · cases hpb : p kb
    · go_enter Tryz.func199, Tryz.ntmps199
      go_wp2
      refine wp_loop_rounds 3 ?_
      rw [rounds_succ]
      go_wp2_with fail
      refine (HF.out ka na _).mono ?_
      rintro e w1 ⟨rfl, hb1⟩
      rw [hpa]
      have c2 : w1.cell? ⟨b, 2, none⟩ = some (.int .i64 kb) := by rw [hb1.cell (p := ⟨b, 2, none⟩) hb0]; exact h2
      have c3 : w1.cell? ⟨b, 3, none⟩ = some (.int .i64 nb) := by rw [hb1.cell (p := ⟨b, 3, none⟩) hb0]; exact h3
      go_wp2_with fail
      rw [rounds_succ]
      go_wp2_with fail
      refine (HF.out kb nb _).mono ?_
      rintro e w2 ⟨rfl, hb2⟩
      rw [hpb]
      go_wp2_with fail
      rw [rounds_succ]
      go_wp2
      go_ret
      exact ⟨by simp, hb1.trans (hb2.mono hb1.size)⟩
    · go_enter Tryz.func199, Tryz.ntmps199
      go_wp2
      refine wp_loop_rounds 3 ?_
      rw [rounds_succ]
      go_wp2_with fail
      refine (HF.out ka na _).mono ?_
      rintro e w1 ⟨rfl, hb1⟩
      rw [hpa]
      have c2 : w1.cell? ⟨b, 2, none⟩ = some (.int .i64 kb) := by rw [hb1.cell (p := ⟨b, 2, none⟩) hb0]; exact h2
      have c3 : w1.cell? ⟨b, 3, none⟩ = some (.int .i64 nb) := by rw [hb1.cell (p := ⟨b, 3, none⟩) hb0]; exact h3
      go_wp2_with fail
      rw [rounds_succ]
      go_wp2_with fail
      refine (HF.out kb nb _).mono ?_
      rintro e w2 ⟨rfl, hb2⟩
      rw [hpb]
      go_wp2
      go_ret
      exact ⟨by simp, hb1.trans (hb2.mono hb1.size)⟩
  · go_enter Tryz.func199, Tryz.ntmps199
    go_wp2
    refine wp_loop_rounds 3 ?_
    rw [rounds_succ]
    go_wp2_with fail
    refine (HF.out ka na _).mono ?_
    rintro e w1 ⟨rfl, hb1⟩
    rw [hpa]
    go_wp2
    go_ret
    exact ⟨by simp, hb1⟩

theorem contains_any (fn : Nat) (p : Int → Bool) (he : Enters fn) (hf : Pred fn p) (ka na kb nb : Int) (b : Nat) (w : World) (hb0 : b < w.heap.size)
    (h0 : w.cell? ⟨b, 0, none⟩ = some (.int .i64 ka)) (h1 : w.cell? ⟨b, 1, none⟩ = some (.int .i64 na)) (h2 : w.cell? ⟨b, 2, none⟩ = some (.int .i64 kb)) (h3 : w.cell? ⟨b, 3, none⟩ = some (.int .i64 nb)) :
    Calls Tryz.prog 175 #[.slice (some ⟨b, 0, none⟩) 2 2, .func (.func fn) #[] #[]] w fun e w' => e = .returned (.bool (p ka || p kb)) ∧ Below w.heap.size w w' := by
  have hi := index_any fn p he hf ka na kb nb b w hb0 h0 h1 h2 h3
  clear h0 h1 h2 h3 he hf
  cases hpa : p ka <;> cases hpb : p kb
  all_goals
    simp only [hpa, hpb, Bool.false_eq_true, if_true, if_false] at hi
    go_enter Tryz.func175, Tryz.ntmps175
    go_wp2_with (first | (go_at_call 187; go_in) | (go_at_call 199; refine hi.mono ?_; rintro e w' ⟨rfl, hb⟩))
    go_ret
    exact ⟨by simp, by assumption⟩

theorem fault1_any : Pred 176 (fun k => k == 2) := by
  intro k n w
  go_enter Tryz.func176, Tryz.ntmps176
  go_wp2
  go_ret
  exact ⟨rfl, by go_grown⟩
theorem fault1_in : Enters 176 := fun args w => by simp [callFunc, Tryz.func176]; rfl

theorem some1_any : Pred 177 (fun k => k != 0) := by
  intro k n w
  go_enter Tryz.func177, Tryz.ntmps177
  go_wp2
  go_ret
  exact ⟨rfl, by go_grown⟩

theorem empty1_any : Pred 178 (fun k => k == 0) := by
  intro k n w
  go_enter Tryz.func178, Tryz.ntmps178
  go_wp2
  go_ret
  exact ⟨rfl, by go_grown⟩
theorem some1_in : Enters 177 := fun args w => by simp [callFunc, Tryz.func177]; rfl
theorem empty1_in : Enters 178 := fun args w => by simp [callFunc, Tryz.func178]; rfl
theorem both_in : Enters 149 := fun args w => by simp [callFunc, Tryz.func149]; rfl
theorem one_in : Enters 152 := fun args w => by simp [callFunc, Tryz.func152]; rfl
theorem plus_in : Enters 150 := fun args w => by simp [callFunc, Tryz.func150]; rfl
theorem minus_in : Enters 151 := fun args w => by simp [callFunc, Tryz.func151]; rfl
theorem product_in : Enters 153 := fun args w => by simp [callFunc, Tryz.func153]; rfl
theorem quotient_in : Enters 154 := fun args w => by simp [callFunc, Tryz.func154]; rfl

def Two (ka na kb nb : Int) (b : Nat) (w : World) : Prop := b < w.heap.size ∧ w.cell? ⟨b, 0, none⟩ = some (.int .i64 ka) ∧ w.cell? ⟨b, 1, none⟩ = some (.int .i64 na) ∧ w.cell? ⟨b, 2, none⟩ = some (.int .i64 kb) ∧ w.cell? ⟨b, 3, none⟩ = some (.int .i64 nb)
def Blank (fn : Nat) (p : Int → Int → Bool) : Prop := ∀ (ka na kb nb : Int) (b : Nat) (w : World), Two ka na kb nb b w → Calls Tryz.prog fn #[.slice (some ⟨b, 0, none⟩) 2 2] w fun e w' => e = .returned (.bool (p ka kb)) ∧ Below w.heap.size w w'

theorem both_any : Blank 149 (fun ka kb => !(ka != 0 || kb != 0)) := by
  intro ka na kb nb b w h
  obtain ⟨hb0, h0, h1, h2, h3⟩ := h
  have hi := contains_any 177 (fun k => k != 0) some1_in some1_any ka na kb nb b w hb0 h0 h1 h2 h3
  clear h0 h1 h2 h3
  dsimp only
  generalize (ka != 0 || kb != 0) = v at hi ⊢
  cases v
  all_goals
    go_enter Tryz.func149, Tryz.ntmps149
    go_wp2_with (go_at_call 175; refine hi.mono ?_; rintro e w' ⟨rfl, hb⟩)
    go_ret
    exact ⟨by simp, by assumption⟩

theorem one_any : Blank 152 (fun ka kb => (ka == 0 || kb == 0)) := by
  intro ka na kb nb b w h
  obtain ⟨hb0, h0, h1, h2, h3⟩ := h
  have hi := contains_any 178 (fun k => k == 0) empty1_in empty1_any ka na kb nb b w hb0 h0 h1 h2 h3
  clear h0 h1 h2 h3
  dsimp only
  generalize (ka == 0 || kb == 0) = v at hi ⊢
  cases v
  all_goals
    go_enter Tryz.func152, Tryz.ntmps152
    go_wp2_with (go_at_call 175; refine hi.mono ?_; rintro e w' ⟨rfl, hb⟩)
    go_ret
    exact ⟨by simp, by assumption⟩
end Go.Proofs.YtpnfmpbgjkhicaeGreatDoor

namespace Go.Proofs.YtpnfmpbgjkhicaeGreatDoor
open Go.ChangeShapes Go.WideShapes Go.ChangeAt Go.RowKit

def Makes (fn : Nat) (x y : Int) (r : Int × Int) : Prop := ∀ (w : World), Calls Tryz.prog fn #[.int .i64 x, .int .i64 y] w fun e w' => e = .returned (.agg #[.int .i64 r.1, .int .i64 r.2]) ∧ Below w.heap.size w w'

theorem bsize {W w1 : World} {n : Nat} (hb : Below n W w1) : W.heap.size ≤ w1.heap.size := hb.size

theorem plus_any (x y : Int) (hx1 : -1000000000000 ≤ x) (hx2 : x ≤ 1000000000000) (hy1 : -1000000000000 ≤ y) (hy2 : y ≤ 1000000000000) : Makes 150 x y (ofP (x + y)) := by
  intro w
  go_enter Tryz.func150, Tryz.ntmps150
  go_wp2_with (go_at_call 13; refine (of_any _ _).mono ?_; rintro e w1 ⟨rfl, hb⟩; obtain ⟨hc, hf⟩ := bcell hb; have hz := bsize hb; simp at hz)
  refine bodyPost_ret (v := .agg #[.int .i64 (ofP (x + y)).1, .int .i64 (ofP (x + y)).2]) (by simp [results, Tryz.results150, go_sem, hc]) rfl ⟨rfl, ?_⟩
  exact (((((Below.refl _ _).alloc (Nat.le_refl _) _).trans (hb.mono (by simp))).setCell (by simp) _).setCell (by simp) _)
theorem minus_any (x y : Int) (hx1 : -1000000000000 ≤ x) (hx2 : x ≤ 1000000000000) (hy1 : -1000000000000 ≤ y) (hy2 : y ≤ 1000000000000) : Makes 151 x y (ofP (x - y)) := by
  intro w
  go_enter Tryz.func151, Tryz.ntmps151
  go_wp2_with (go_at_call 13; refine (of_any _ _).mono ?_; rintro e w1 ⟨rfl, hb⟩; obtain ⟨hc, hf⟩ := bcell hb; have hz := bsize hb; simp at hz)
  refine bodyPost_ret (v := .agg #[.int .i64 (ofP (x - y)).1, .int .i64 (ofP (x - y)).2]) (by simp [results, Tryz.results151, go_sem, hc]) rfl ⟨rfl, ?_⟩
  exact (((((Below.refl _ _).alloc (Nat.le_refl _) _).trans (hb.mono (by simp))).setCell (by simp) _).setCell (by simp) _)

def ab (n : Int) : Int := if n < 0 then -n else n
theorem ab_mul (x y : Int) : ab (x * y) = ab x * ab y := by
  unfold ab
  by_cases hx : x < 0 <;> by_cases hy : y < 0
  · rw [if_neg (Int.not_lt.mpr (Int.le_of_lt (Int.mul_pos_of_neg_of_neg hx hy))), if_pos hx, if_pos hy, Int.neg_mul_neg]
  · by_cases h0 : y = 0
    · subst h0; simp
    · rw [if_pos (Int.mul_neg_of_neg_of_pos hx (by omega)), if_pos hx, if_neg hy, Int.neg_mul]
  · by_cases h0 : x = 0
    · subst h0; simp
    · rw [if_pos (Int.mul_neg_of_pos_of_neg (by omega) hy), if_neg hx, if_pos hy, Int.mul_neg]
  · rw [if_neg (Int.not_lt.mpr (Int.mul_nonneg (by omega) (by omega))), if_neg hx, if_neg hy]
theorem ab_bd {n m : Int} (h : ab n ≤ m) : -m ≤ n ∧ n ≤ m := by unfold ab at h; split at h <;> omega
theorem ab_out {n m : Int} (h : m < ab n) : n < -m ∨ m < n := by unfold ab at h; split at h <;> omega
theorem ab_in {n m : Int} (h1 : -m ≤ n) (h2 : n ≤ m) : 0 ≤ ab n ∧ ab n ≤ m := by unfold ab; split <;> omega
theorem ab_pos {n : Int} (h : ¬ n = 0) : 1 ≤ ab n := by unfold ab; split <;> omega

theorem size_any (n : Int) (w : World) (h1 : -1000000000000 ≤ n) (h2 : n ≤ 1000000000000) : Calls Tryz.prog 179 #[.int .i64 n] w fun e w' => e = .returned (.int .i64 (ab n)) ∧ w' = w := by
  unfold ab
  by_cases h : n < 0
  · rw [if_pos h]
    go_enter Tryz.func179, Tryz.ntmps179
    go_wp2
    go_ret
    exact ⟨by first | rfl | (show Ending.returned (Value.int .i64 (max n (-n))) = _; congr 2; omega) | (congr 2; omega), rfl⟩
  · rw [if_neg h]
    go_enter Tryz.func179, Tryz.ntmps179
    go_wp2
    go_ret
    exact ⟨by first | rfl | (show Ending.returned (Value.int .i64 (max n (-n))) = _; congr 2; omega) | (congr 2; omega), rfl⟩

def quoP (x y : Int) : Int × Int := if y = 0 then (2, 0) else ofP (x.tdiv y)
theorem tdiv_bd (x y : Int) : ab (x.tdiv y) ≤ ab x := by
  have h := Int.natAbs_tdiv_le_natAbs x y
  unfold ab
  split <;> split <;> omega

theorem quo_wrap (x y : Int) (hy : ¬ y = 0) : Makes 154 x y (ofP (wrap64 (x.tdiv y))) := by
  intro w
  have hy0 : (y == 0) = false := by simp; omega
  go_enter Tryz.func154, Tryz.ntmps154
  go_wp2_with (go_at_call 13; refine (of_any _ _).mono ?_; rintro e w1 ⟨rfl, hb⟩; obtain ⟨hc, hf⟩ := bcell hb; have hz := bsize hb; simp at hz)
  refine bodyPost_ret (v := .agg #[.int .i64 (ofP (wrap64 (x.tdiv y))).1, .int .i64 (ofP (wrap64 (x.tdiv y))).2]) (by simp [results, Tryz.results154, go_sem, hc]) rfl ⟨rfl, ?_⟩
  exact (((((Below.refl _ _).alloc (Nat.le_refl _) _).trans (hb.mono (by simp))).setCell (by simp) _).setCell (by simp) _)

theorem quotient_any (x y : Int) (hx1 : -1000000000000 ≤ x) (hx2 : x ≤ 1000000000000) : Makes 154 x y (quoP x y) := by
  unfold quoP
  by_cases hy : y = 0
  · subst hy
    rw [if_pos rfl]
    intro w
    go_enter Tryz.func154, Tryz.ntmps154
    go_wp2
    go_returns
    exact ⟨rfl, by go_grown⟩
  · rw [if_neg hy]
    have hq := quo_wrap x y hy
    have hb := ab_bd (Int.le_trans (tdiv_bd x y) (ab_in hx1 hx2).2)
    have hw : wrap64 (x.tdiv y) = x.tdiv y := by unfold wrap64; omega
    rw [hw] at hq
    exact hq

theorem product_any (x y : Int) (hx1 : -1000000000000 ≤ x) (hx2 : x ≤ 1000000000000) (hy1 : -1000000000000 ≤ y) (hy2 : y ≤ 1000000000000) : Makes 153 x y (ofP (x * y)) := by
  intro w
  by_cases hy : y = 0
  · subst hy
    have hb0 : ofP (x * 0) = (1, 0) := by rw [Int.mul_zero]; exact ofP_in (by omega) (by omega)
    rw [hb0]
    have ho := of_any 0
    rw [ofP_in (by omega) (by omega)] at ho
    go_enter Tryz.func153, Tryz.ntmps153
    go_wp2_with (go_at_call 13; refine (ho _).mono ?_; rintro e w1 ⟨rfl, hb⟩; obtain ⟨hc, hf⟩ := bcell hb; have hz := bsize hb; simp at hz)
    refine bodyPost_ret (v := .agg #[.int .i64 1, .int .i64 0]) (by simp [results, Tryz.results153, go_sem, hc]) rfl ⟨rfl, ?_⟩
    exact (((((Below.refl _ _).alloc (Nat.le_refl _) _).trans (hb.mono (by simp))).setCell (by simp) _).setCell (by simp) _)
  · have hy0 : (y != 0) = true := by simp; omega
    obtain ⟨ax0, ax1⟩ := ab_in hx1 hx2
    obtain ⟨_, ay1⟩ := ab_in hy1 hy2
    have ay0 := ab_pos hy
    have hsx := size_any x
    have hsy := size_any y
    by_cases hg : 1000000000000 / ab y < ab x
    · have hout : ofP (x * y) = (2, 0) := by
        refine ofP_out (ab_out (m := 1000000000000) ?_)
        rw [ab_mul]
        exact (Int.ediv_lt_iff_lt_mul (by omega)).mp hg
      rw [hout]
      go_enter Tryz.func153, Tryz.ntmps153
      go_wp2_with fail
      refine (hsx _ hx1 hx2).mono ?_
      rintro e w1 ⟨rfl, rfl⟩
      go_wp2_with fail
      refine (hsy _ hy1 hy2).mono ?_
      rintro e w1 ⟨rfl, rfl⟩
      go_wp2
      go_returns
      exact ⟨rfl, by go_grown⟩
    · have hin : ab (x * y) ≤ 1000000000000 := by
        rw [ab_mul]
        exact Int.not_lt.mp (fun h => hg ((Int.ediv_lt_iff_lt_mul (by omega)).mpr h))
      obtain ⟨hp1, hp2⟩ := ab_bd hin
      have ho := of_any (x * y)
      clear hin
      go_enter Tryz.func153, Tryz.ntmps153
      go_wp2_with fail
      refine (hsx _ hx1 hx2).mono ?_
      rintro e w1 ⟨rfl, rfl⟩
      go_wp2_with fail
      refine (hsy _ hy1 hy2).mono ?_
      rintro e w1 ⟨rfl, rfl⟩
      go_wp2_with fail
      refine (ho _).mono ?_
      rintro e w1 ⟨rfl, hb⟩
      obtain ⟨hc, hf⟩ := bcell hb
      have hz := bsize hb
      simp at hz
      go_wp2_with fail
      refine bodyPost_ret (v := .agg #[.int .i64 (ofP (x * y)).1, .int .i64 (ofP (x * y)).2]) (by simp [results, Tryz.results153, go_sem, hc]) rfl ⟨rfl, ?_⟩
      exact (((((Below.refl _ _).alloc (Nat.le_refl _) _).trans (hb.mono (by simp))).setCell (by simp) _).setCell (by simp) _)
end Go.Proofs.YtpnfmpbgjkhicaeGreatDoor

namespace Go.Proofs.YtpnfmpbgjkhicaeGreatDoor
open Go.ChangeShapes Go.WideShapes Go.ChangeAt Go.RowKit

theorem check_yes {k n : Int} (h : good k n = true) (w : World) : Calls Tryz.prog 64 #[.agg #[.int .i64 k, .int .i64 n]] w fun e w' => e = .returned .nilIface ∧ Below w.heap.size w w' := by
  have hc := check_any k n w
  rw [if_pos h] at hc
  exact hc
theorem check_no {k n : Int} (h : good k n = false) (w : World) : Calls Tryz.prog 64 #[.agg #[.int .i64 k, .int .i64 n]] w fun e w' => e = .returned (.iface 72 (.int .i64 1)) ∧ Below w.heap.size w w' := by
  have hc := check_any k n w
  rw [if_neg (by simp [h])] at hc
  exact hc

theorem join_no1 (ka na kb nb : Int) (f1 f2 : Value) (w : World) (h : good ka na = false) :
    Calls Tryz.prog 148 #[.agg #[.int .i64 ka, .int .i64 na], .agg #[.int .i64 kb, .int .i64 nb], f1, f2] w fun e w' => e = .returned (.tuple #[.agg #[.int .i64 0, .int .i64 0], .iface 72 (.int .i64 1)]) ∧ Below w.heap.size w w' := by
  have hc := check_no h
  clear h
  go_enter Tryz.func148, Tryz.ntmps148
  go_wp2_with fail
  refine wp_loop_rounds 3 ?_
  rw [rounds_succ]
  go_wp2_with fail
  refine (hc _).mono ?_
  rintro e w1 ⟨rfl, hb⟩
  have hB : Below w.heap.size w w1 := Below.trans (by go_grown) (hb.mono (by simp; omega))
  obtain ⟨hc, hf⟩ := bcell hb
  have hz := bsize hb
  simp at hz
  go_wp2_with fail
  refine bodyPost_ret (v := .tuple #[.agg #[.int .i64 0, .int .i64 0], .iface 72 (.int .i64 1)]) (by simp [results, Tryz.results148, go_sem, hc]) rfl ⟨rfl, ?_⟩
  go_grown

def Held (s : Nat) (ka na kb nb : Int) (w : World) : Prop := s + 4 ≤ w.heap.size ∧ Two ka na kb nb (s + 1 + 1 + 1) w
  ∧ w.cell? ⟨s, 0, none⟩ = some (.int .i64 ka) ∧ w.cell? ⟨s, 1, none⟩ = some (.int .i64 na) ∧ w.cell? ⟨s + 1, 0, none⟩ = some (.int .i64 kb) ∧ w.cell? ⟨s + 1, 1, none⟩ = some (.int .i64 nb)
  ∧ w.cell? ⟨s + 1 + 1, 0, none⟩ = some (.int .i64 0) ∧ w.cell? ⟨s + 1 + 1, 1, none⟩ = some (.int .i64 0) ∧ w.frozen? ⟨s + 1 + 1, 0, none⟩ = false ∧ w.frozen? ⟨s + 1 + 1, 1, none⟩ = false
theorem Held.later {s : Nat} {ka na kb nb : Int} {w w' : World} (h : Held s ka na kb nb w) (hb : Below w.heap.size w w') : Held s ka na kb nb w' := by
  obtain ⟨hs, ⟨t0, t1, t2, t3, t4⟩, h1, h2, h3, h4, h5, h6, h7, h8⟩ := h
  have hz := hb.size
  refine ⟨by omega, ⟨by omega, ?_, ?_, ?_, ?_⟩, ?_, ?_, ?_, ?_, ?_, ?_, ?_, ?_⟩
  · rw [hb.cell (p := ⟨s + 1 + 1 + 1, 0, none⟩) (by show s + 1 + 1 + 1 < _; omega)]; exact t1
  · rw [hb.cell (p := ⟨s + 1 + 1 + 1, 1, none⟩) (by show s + 1 + 1 + 1 < _; omega)]; exact t2
  · rw [hb.cell (p := ⟨s + 1 + 1 + 1, 2, none⟩) (by show s + 1 + 1 + 1 < _; omega)]; exact t3
  · rw [hb.cell (p := ⟨s + 1 + 1 + 1, 3, none⟩) (by show s + 1 + 1 + 1 < _; omega)]; exact t4
  · rw [hb.cell (p := ⟨s, 0, none⟩) (by show s < _; omega)]; exact h1
  · rw [hb.cell (p := ⟨s, 1, none⟩) (by show s < _; omega)]; exact h2
  · rw [hb.cell (p := ⟨s + 1, 0, none⟩) (by show s + 1 < _; omega)]; exact h3
  · rw [hb.cell (p := ⟨s + 1, 1, none⟩) (by show s + 1 < _; omega)]; exact h4
  · rw [hb.cell (p := ⟨s + 1 + 1, 0, none⟩) (by show s + 1 + 1 < _; omega)]; exact h5
  · rw [hb.cell (p := ⟨s + 1 + 1, 1, none⟩) (by show s + 1 + 1 < _; omega)]; exact h6
  · rw [hb.frozen (p := ⟨s + 1 + 1, 0, none⟩) (by show s + 1 + 1 < _; omega)]; exact h7
  · rw [hb.frozen (p := ⟨s + 1 + 1, 1, none⟩) (by show s + 1 + 1 < _; omega)]; exact h8
theorem Held.first (ka na kb nb : Int) (w : World) : Held w.heap.size ka na kb nb ((((w.alloc (Obj.cells #[.int .i64 ka, .int .i64 na] 38)).alloc (Obj.cells #[.int .i64 kb, .int .i64 nb] 38)).alloc (Obj.cells #[.int .i64 0, .int .i64 0] 38)).alloc (Obj.cells #[.int .i64 ka, .int .i64 na, .int .i64 kb, .int .i64 nb] 38)) := by
  refine ⟨by simp, ⟨by simp, ?_, ?_, ?_, ?_⟩, ?_, ?_, ?_, ?_, ?_, ?_, ?_, ?_⟩ <;> simp [go_sem]
theorem Held.alloc {s : Nat} {ka na kb nb : Int} {w : World} (h : Held s ka na kb nb w) (o : Obj) : Held s ka na kb nb (w.alloc o) := h.later ((Below.refl _ _).alloc (Nat.le_refl _) _)

theorem join_no2 (ka na kb nb : Int) (f1 f2 : Value) (w : World) (ha : good ka na = true) (h : good kb nb = false) :
    Calls Tryz.prog 148 #[.agg #[.int .i64 ka, .int .i64 na], .agg #[.int .i64 kb, .int .i64 nb], f1, f2] w fun e w' => e = .returned (.tuple #[.agg #[.int .i64 0, .int .i64 0], .iface 72 (.int .i64 1)]) ∧ Below w.heap.size w w' := by
  have hca := check_yes ha
  have hcb := check_no h
  clear h ha
  have H0 := Held.first ka na kb nb w
  go_enter Tryz.func148, Tryz.ntmps148
  go_wp2_with fail
  refine wp_loop_rounds 3 ?_
  rw [rounds_succ]
  go_wp2_with fail
  refine (hca _).mono ?_
  rintro e w1 ⟨rfl, hb⟩
  have H1 := (H0.alloc _).later hb
  have hB : Below w.heap.size w w1 := Below.trans (by go_grown) (hb.mono (by simp; omega))
  clear H0 hb
  obtain ⟨hs, ⟨t0, t1, t2, t3, t4⟩, h1, h2, h3, h4, h5, h6, h7, h8⟩ := id H1
  go_wp2_with fail
  rw [rounds_succ]
  go_wp2_with fail
  refine (hcb _).mono ?_
  rintro e w2 ⟨rfl, hb⟩
  have H2 := (H1.alloc _).later hb
  have hB2 : Below w.heap.size w w2 := Below.trans (by go_grown) (hb.mono (by simp; omega))
  clear H1 hb hs t0 t1 t2 t3 t4 h1 h2 h3 h4 h5 h6 h7 h8 hB
  obtain ⟨hs, ⟨t0, t1, t2, t3, t4⟩, h1, h2, h3, h4, h5, h6, h7, h8⟩ := H2
  go_wp2_with fail
  refine bodyPost_ret (v := .tuple #[.agg #[.int .i64 0, .int .i64 0], .iface 72 (.int .i64 1)]) (by simp [results, Tryz.results148, go_sem, h5, h6]) rfl ⟨rfl, ?_⟩
  go_grown

theorem join_fault (f1 f2 : Value) (ka na kb nb : Int) (w : World) (ha : good ka na = true) (hb0 : good kb nb = true) (hfa : ((fun k : Int => k == 2) ka || (fun k : Int => k == 2) kb) = true) :
    Calls Tryz.prog 148 #[.agg #[.int .i64 ka, .int .i64 na], .agg #[.int .i64 kb, .int .i64 nb], f1, f2] w fun e w' => e = .returned (.tuple #[.agg #[.int .i64 2, .int .i64 0], .nilIface]) ∧ Below w.heap.size w w' := by
  have hca := check_yes ha
  have hcb := check_yes hb0
  clear hb0 ha
  have H0 := Held.first ka na kb nb w
  go_enter Tryz.func148, Tryz.ntmps148
  go_wp2_with fail
  refine wp_loop_rounds 3 ?_
  rw [rounds_succ]
  go_wp2_with fail
  refine (hca _).mono ?_
  rintro e w1 ⟨rfl, hb⟩
  have H1 := (H0.alloc _).later hb
  have hB : Below w.heap.size w w1 := Below.trans (by go_grown) (hb.mono (by simp; omega))
  clear H0 hb
  obtain ⟨hs, ⟨t0, t1, t2, t3, t4⟩, h1, h2, h3, h4, h5, h6, h7, h8⟩ := id H1
  go_wp2_with fail
  rw [rounds_succ]
  go_wp2_with fail
  refine (hcb _).mono ?_
  rintro e w2 ⟨rfl, hb⟩
  have H2 := (H1.alloc _).later hb
  have hB2 : Below w.heap.size w w2 := Below.trans (by go_grown) (hb.mono (by simp; omega))
  clear H1 hb hs t0 t1 t2 t3 t4 h1 h2 h3 h4 h5 h6 h7 h8 hB
  obtain ⟨hs, ⟨t0, t1, t2, t3, t4⟩, h1, h2, h3, h4, h5, h6, h7, h8⟩ := id H2
  go_wp2_with fail
  rw [rounds_succ]
  go_wp2_with fail
  have hany := contains_any 176 (fun k => k == 2) fault1_in fault1_any ka na kb nb _ w2 t0 t1 t2 t3 t4
  rw [hfa] at hany
  refine hany.mono ?_
  rintro e w3 ⟨rfl, hb⟩
  have H3 := H2.later hb
  have hB3 : Below w.heap.size w w3 := Below.trans hB2 (hb.mono (by omega))
  clear H2 hb hs t0 t1 t2 t3 t4 h1 h2 h3 h4 h5 h6 h7 h8 hB2 hany
  obtain ⟨hs, ht, h1, h2, h3, h4, h5, h6, h7, h8⟩ := id H3
  clear hfa
  go_wp2_with fail
  refine bodyPost_ret (v := .tuple #[.agg #[.int .i64 2, .int .i64 0], .nilIface]) (by simp [results, Tryz.results148, go_sem, h5, h6]) rfl ⟨rfl, ?_⟩
  go_grown

theorem join_blank (fb : Nat) (p : Int → Int → Bool) (he : Enters fb) (hp : Blank fb p) (f2 : Value) (ka na kb nb : Int) (w : World) (ha : good ka na = true) (hb0 : good kb nb = true) (hfa : ((fun k : Int => k == 2) ka || (fun k : Int => k == 2) kb) = false) (hpp : p ka kb = true) :
    Calls Tryz.prog 148 #[.agg #[.int .i64 ka, .int .i64 na], .agg #[.int .i64 kb, .int .i64 nb], .func (.func fb) #[] #[], f2] w fun e w' => e = .returned (.tuple #[.agg #[.int .i64 0, .int .i64 0], .nilIface]) ∧ Below w.heap.size w w' := by
  have HP : Hid (Blank fb p) := hp
  clear hp
  unfold Enters at he
  have hca := check_yes ha
  have hcb := check_yes hb0
  clear hb0 ha
  have H0 := Held.first ka na kb nb w
  go_enter Tryz.func148, Tryz.ntmps148
  go_wp2_with fail
  refine wp_loop_rounds 3 ?_
  rw [rounds_succ]
  go_wp2_with fail
  refine (hca _).mono ?_
  rintro e w1 ⟨rfl, hb⟩
  have H1 := (H0.alloc _).later hb
  have hB : Below w.heap.size w w1 := Below.trans (by go_grown) (hb.mono (by simp; omega))
  clear H0 hb
  obtain ⟨hs, ⟨t0, t1, t2, t3, t4⟩, h1, h2, h3, h4, h5, h6, h7, h8⟩ := id H1
  go_wp2_with fail
  rw [rounds_succ]
  go_wp2_with fail
  refine (hcb _).mono ?_
  rintro e w2 ⟨rfl, hb⟩
  have H2 := (H1.alloc _).later hb
  have hB2 : Below w.heap.size w w2 := Below.trans (by go_grown) (hb.mono (by simp; omega))
  clear H1 hb hs t0 t1 t2 t3 t4 h1 h2 h3 h4 h5 h6 h7 h8 hB
  obtain ⟨hs, ⟨t0, t1, t2, t3, t4⟩, h1, h2, h3, h4, h5, h6, h7, h8⟩ := id H2
  go_wp2_with fail
  rw [rounds_succ]
  go_wp2_with fail
  have hany := contains_any 176 (fun k => k == 2) fault1_in fault1_any ka na kb nb _ w2 t0 t1 t2 t3 t4
  rw [hfa] at hany
  refine hany.mono ?_
  rintro e w3 ⟨rfl, hb⟩
  have H3 := H2.later hb
  have hB3 : Below w.heap.size w w3 := Below.trans hB2 (hb.mono (by omega))
  clear H2 hb hs t0 t1 t2 t3 t4 h1 h2 h3 h4 h5 h6 h7 h8 hB2 hany
  obtain ⟨hs, ht, h1, h2, h3, h4, h5, h6, h7, h8⟩ := id H3
  clear hfa
  go_wp2_with fail
  have hbl := HP.out ka na kb nb _ w3 ht
  rw [hpp] at hbl
  refine hbl.mono ?_
  rintro e w4 ⟨rfl, hb⟩
  have H4 := H3.later hb
  have hB4 : Below w.heap.size w w4 := Below.trans hB3 (hb.mono (by omega))
  clear H3 hb hs ht h1 h2 h3 h4 h5 h6 h7 h8 hB3 hbl
  obtain ⟨hs, ht, h1, h2, h3, h4, h5, h6, h7, h8⟩ := id H4
  go_wp2_with fail
  refine bodyPost_ret (v := .tuple #[.agg #[.int .i64 0, .int .i64 0], .nilIface]) (by simp [results, Tryz.results148, go_sem, h5, h6]) rfl ⟨rfl, ?_⟩
  go_grown

theorem join_made (fb fo : Nat) (p : Int → Int → Bool) (he : Enters fb) (hp : Blank fb p) (heo : Enters fo) (ka na kb nb : Int) (w : World) (ha : good ka na = true) (hb0 : good kb nb = true) (r : Int × Int) (ho : Makes fo na nb r) (hfa : ((fun k : Int => k == 2) ka || (fun k : Int => k == 2) kb) = false) (hpp : p ka kb = false) :
    Calls Tryz.prog 148 #[.agg #[.int .i64 ka, .int .i64 na], .agg #[.int .i64 kb, .int .i64 nb], .func (.func fb) #[] #[], .func (.func fo) #[] #[]] w fun e w' => e = .returned (.tuple #[.agg #[.int .i64 r.1, .int .i64 r.2], .nilIface]) ∧ Below w.heap.size w w' := by
  have HP : Hid (Blank fb p) := hp
  have HO : Hid (Makes fo na nb r) := ho
  clear hp ho
  unfold Enters at he heo
  have hca := check_yes ha
  have hcb := check_yes hb0
  clear hb0 ha
  have H0 := Held.first ka na kb nb w
  go_enter Tryz.func148, Tryz.ntmps148
  go_wp2_with fail
  refine wp_loop_rounds 3 ?_
  rw [rounds_succ]
  go_wp2_with fail
  refine (hca _).mono ?_
  rintro e w1 ⟨rfl, hb⟩
  have H1 := (H0.alloc _).later hb
  have hB : Below w.heap.size w w1 := Below.trans (by go_grown) (hb.mono (by simp; omega))
  clear H0 hb
  obtain ⟨hs, ⟨t0, t1, t2, t3, t4⟩, h1, h2, h3, h4, h5, h6, h7, h8⟩ := id H1
  go_wp2_with fail
  rw [rounds_succ]
  go_wp2_with fail
  refine (hcb _).mono ?_
  rintro e w2 ⟨rfl, hb⟩
  have H2 := (H1.alloc _).later hb
  have hB2 : Below w.heap.size w w2 := Below.trans (by go_grown) (hb.mono (by simp; omega))
  clear H1 hb hs t0 t1 t2 t3 t4 h1 h2 h3 h4 h5 h6 h7 h8 hB
  obtain ⟨hs, ⟨t0, t1, t2, t3, t4⟩, h1, h2, h3, h4, h5, h6, h7, h8⟩ := id H2
  go_wp2_with fail
  rw [rounds_succ]
  go_wp2_with fail
  have hany := contains_any 176 (fun k => k == 2) fault1_in fault1_any ka na kb nb _ w2 t0 t1 t2 t3 t4
  rw [hfa] at hany
  refine hany.mono ?_
  rintro e w3 ⟨rfl, hb⟩
  have H3 := H2.later hb
  have hB3 : Below w.heap.size w w3 := Below.trans hB2 (hb.mono (by omega))
  clear H2 hb hs t0 t1 t2 t3 t4 h1 h2 h3 h4 h5 h6 h7 h8 hB2 hany
  obtain ⟨hs, ht, h1, h2, h3, h4, h5, h6, h7, h8⟩ := id H3
  clear hfa
  go_wp2_with fail
  have hbl := HP.out ka na kb nb _ w3 ht
  rw [hpp] at hbl
  refine hbl.mono ?_
  rintro e w4 ⟨rfl, hb⟩
  have H4 := H3.later hb
  have hB4 : Below w.heap.size w w4 := Below.trans hB3 (hb.mono (by omega))
  clear H3 hb hs ht h1 h2 h3 h4 h5 h6 h7 h8 hB3 hbl
  obtain ⟨hs, ht, h1, h2, h3, h4, h5, h6, h7, h8⟩ := id H4
  go_wp2_with fail
  refine (HO.out _).mono ?_
  rintro e w5 ⟨rfl, hb⟩
  have H5 := H4.later hb
  have hB5 : Below w.heap.size w w5 := Below.trans hB4 (hb.mono (by omega))
  clear H4 hb hs ht h1 h2 h3 h4 h5 h6 h7 h8 hB4
  obtain ⟨hs, ht, h1, h2, h3, h4, h5, h6, h7, h8⟩ := id H5
  go_wp2_with fail
  refine bodyPost_ret (v := .tuple #[.agg #[.int .i64 r.1, .int .i64 r.2], .nilIface]) (by simp [results, Tryz.results148, go_sem, h5, h6]) rfl ⟨rfl, ?_⟩
  go_grown
end Go.Proofs.YtpnfmpbgjkhicaeGreatDoor

namespace Go.Proofs.YtpnfmpbgjkhicaeGreatDoor
open Go.ChangeShapes Go.WideShapes Go.ChangeAt Go.RowKit

def joinP (blank : Bool) (ka kb : Int) (r : Int × Int) : Int × Int := if ka = 2 ∨ kb = 2 then (2, 0) else if blank = true then (0, 0) else r
def JoinsTo (fb fo : Nat) (ka na kb nb k n : Int) (er : Value) : Prop := ∀ (w : World), Calls Tryz.prog 148 #[.agg #[.int .i64 ka, .int .i64 na], .agg #[.int .i64 kb, .int .i64 nb], .func (.func fb) #[] #[], .func (.func fo) #[] #[]] w fun e w' => e = .returned (.tuple #[.agg #[.int .i64 k, .int .i64 n], er]) ∧ Below w.heap.size w w'
def OpTo (f : Nat) (ka na kb nb k n : Int) (er : Value) : Prop := ∀ (w : World), Calls Tryz.prog f #[.agg #[.int .i64 ka, .int .i64 na], .agg #[.int .i64 kb, .int .i64 nb]] w fun e w' => e = .returned (.tuple #[.agg #[.int .i64 k, .int .i64 n], er]) ∧ Below w.heap.size w w'

theorem joins_yes (fb fo : Nat) (p : Int → Int → Bool) (he : Enters fb) (hp : Blank fb p) (heo : Enters fo) (ka na kb nb : Int) (ha : good ka na = true) (hb : good kb nb = true) (r : Int × Int) (ho : Makes fo na nb r) :
    JoinsTo fb fo ka na kb nb (joinP (p ka kb) ka kb r).1 (joinP (p ka kb) ka kb r).2 .nilIface := by
  intro w
  unfold joinP
  by_cases hf : ka = 2 ∨ kb = 2
  · rw [if_pos hf]
    exact join_fault _ _ ka na kb nb w ha hb (by simp; exact hf)
  · rw [if_neg hf]
    have hff : ((fun k : Int => k == 2) ka || (fun k : Int => k == 2) kb) = false := by simp; omega
    cases hpp : p ka kb
    · rw [if_neg (by simp)]
      exact join_made fb fo p he hp heo ka na kb nb w ha hb r ho hff hpp
    · rw [if_pos rfl]
      exact join_blank fb p he hp _ ka na kb nb w ha hb hff hpp
theorem joins_no (fb fo : Nat) (ka na kb nb : Int) (h : (good ka na && good kb nb) = false) : JoinsTo fb fo ka na kb nb 0 0 (.iface 72 (.int .i64 1)) := by
  intro w
  cases ha : good ka na
  · exact join_no1 ka na kb nb _ _ w ha
  · rw [ha] at h
    exact join_no2 ka na kb nb _ _ w ha (by simpa using h)
theorem good_bd {k n : Int} (h : good k n = true) : -1000000000000 ≤ n ∧ n ≤ 1000000000000 := by simp [good] at h; omega

def plusP (ka na kb nb : Int) : Int × Int := joinP (!(ka != 0 || kb != 0)) ka kb (ofP (na + nb))
def minusP (ka na kb nb : Int) : Int × Int := joinP (!(ka != 0 || kb != 0)) ka kb (ofP (na - nb))
def timesP (ka na kb nb : Int) : Int × Int := joinP (ka == 0 || kb == 0) ka kb (ofP (na * nb))
def overP (ka na kb nb : Int) : Int × Int := joinP (ka == 0 || kb == 0) ka kb (quoP na nb)

theorem add_of (ka na kb nb k n : Int) (er : Value) (h : JoinsTo 149 150 ka na kb nb k n er) : OpTo 106 ka na kb nb k n er := by
  intro w
  unfold JoinsTo at h
  go_enter Tryz.func106, Tryz.ntmps106
  go_wp2_with fail
  refine (h _).mono ?_
  rintro e w1 ⟨rfl, hb⟩
  have hB : Below w.heap.size w w1 := Below.trans (by go_grown) (hb.mono (by simp; omega))
  obtain ⟨hc, hf⟩ := bcell hb
  have hz := bsize hb
  simp at hz
  go_wp2_with fail
  refine bodyPost_ret (v := .tuple #[.agg #[.int .i64 k, .int .i64 n], er]) (by simp [results, Tryz.results106, go_sem, hc]) rfl ⟨rfl, ?_⟩
  go_grown
theorem add_yes (ka na kb nb : Int) (ha : good ka na = true) (hb : good kb nb = true) : OpTo 106 ka na kb nb (plusP ka na kb nb).1 (plusP ka na kb nb).2 .nilIface := by
  obtain ⟨h1, h2⟩ := good_bd ha
  obtain ⟨h3, h4⟩ := good_bd hb
  exact add_of _ _ _ _ _ _ _ (joins_yes _ _ _ both_in both_any plus_in ka na kb nb ha hb _ (plus_any na nb h1 h2 h3 h4))
theorem add_no (ka na kb nb : Int) (h : (good ka na && good kb nb) = false) : OpTo 106 ka na kb nb 0 0 (.iface 72 (.int .i64 1)) := add_of _ _ _ _ _ _ _ (joins_no _ _ ka na kb nb h)

theorem sub_of (ka na kb nb k n : Int) (er : Value) (h : JoinsTo 149 151 ka na kb nb k n er) : OpTo 107 ka na kb nb k n er := by
  intro w
  unfold JoinsTo at h
  go_enter Tryz.func107, Tryz.ntmps107
  go_wp2_with fail
  refine (h _).mono ?_
  rintro e w1 ⟨rfl, hb⟩
  have hB : Below w.heap.size w w1 := Below.trans (by go_grown) (hb.mono (by simp; omega))
  obtain ⟨hc, hf⟩ := bcell hb
  have hz := bsize hb
  simp at hz
  go_wp2_with fail
  refine bodyPost_ret (v := .tuple #[.agg #[.int .i64 k, .int .i64 n], er]) (by simp [results, Tryz.results107, go_sem, hc]) rfl ⟨rfl, ?_⟩
  go_grown
theorem sub_yes (ka na kb nb : Int) (ha : good ka na = true) (hb : good kb nb = true) : OpTo 107 ka na kb nb (minusP ka na kb nb).1 (minusP ka na kb nb).2 .nilIface := by
  obtain ⟨h1, h2⟩ := good_bd ha
  obtain ⟨h3, h4⟩ := good_bd hb
  exact sub_of _ _ _ _ _ _ _ (joins_yes _ _ _ both_in both_any minus_in ka na kb nb ha hb _ (minus_any na nb h1 h2 h3 h4))
theorem sub_no (ka na kb nb : Int) (h : (good ka na && good kb nb) = false) : OpTo 107 ka na kb nb 0 0 (.iface 72 (.int .i64 1)) := sub_of _ _ _ _ _ _ _ (joins_no _ _ ka na kb nb h)

theorem mul_of (ka na kb nb k n : Int) (er : Value) (h : JoinsTo 152 153 ka na kb nb k n er) : OpTo 108 ka na kb nb k n er := by
  intro w
  unfold JoinsTo at h
  go_enter Tryz.func108, Tryz.ntmps108
  go_wp2_with fail
  refine (h _).mono ?_
  rintro e w1 ⟨rfl, hb⟩
  have hB : Below w.heap.size w w1 := Below.trans (by go_grown) (hb.mono (by simp; omega))
  obtain ⟨hc, hf⟩ := bcell hb
  have hz := bsize hb
  simp at hz
  go_wp2_with fail
  refine bodyPost_ret (v := .tuple #[.agg #[.int .i64 k, .int .i64 n], er]) (by simp [results, Tryz.results108, go_sem, hc]) rfl ⟨rfl, ?_⟩
  go_grown
theorem mul_yes (ka na kb nb : Int) (ha : good ka na = true) (hb : good kb nb = true) : OpTo 108 ka na kb nb (timesP ka na kb nb).1 (timesP ka na kb nb).2 .nilIface := by
  obtain ⟨h1, h2⟩ := good_bd ha
  obtain ⟨h3, h4⟩ := good_bd hb
  exact mul_of _ _ _ _ _ _ _ (joins_yes _ _ _ one_in one_any product_in ka na kb nb ha hb _ (product_any na nb h1 h2 h3 h4))
theorem mul_no (ka na kb nb : Int) (h : (good ka na && good kb nb) = false) : OpTo 108 ka na kb nb 0 0 (.iface 72 (.int .i64 1)) := mul_of _ _ _ _ _ _ _ (joins_no _ _ ka na kb nb h)

theorem div_of (ka na kb nb k n : Int) (er : Value) (h : JoinsTo 152 154 ka na kb nb k n er) : OpTo 109 ka na kb nb k n er := by
  intro w
  unfold JoinsTo at h
  go_enter Tryz.func109, Tryz.ntmps109
  go_wp2_with fail
  refine (h _).mono ?_
  rintro e w1 ⟨rfl, hb⟩
  have hB : Below w.heap.size w w1 := Below.trans (by go_grown) (hb.mono (by simp; omega))
  obtain ⟨hc, hf⟩ := bcell hb
  have hz := bsize hb
  simp at hz
  go_wp2_with fail
  refine bodyPost_ret (v := .tuple #[.agg #[.int .i64 k, .int .i64 n], er]) (by simp [results, Tryz.results109, go_sem, hc]) rfl ⟨rfl, ?_⟩
  go_grown
theorem div_yes (ka na kb nb : Int) (ha : good ka na = true) (hb : good kb nb = true) : OpTo 109 ka na kb nb (overP ka na kb nb).1 (overP ka na kb nb).2 .nilIface := by
  obtain ⟨h1, h2⟩ := good_bd ha
  obtain ⟨h3, h4⟩ := good_bd hb
  exact div_of _ _ _ _ _ _ _ (joins_yes _ _ _ one_in one_any quotient_in ka na kb nb ha hb _ (quotient_any na nb h1 h2))
theorem div_no (ka na kb nb : Int) (h : (good ka na && good kb nb) = false) : OpTo 109 ka na kb nb 0 0 (.iface 72 (.int .i64 1)) := div_of _ _ _ _ _ _ _ (joins_no _ _ ka na kb nb h)
end Go.Proofs.YtpnfmpbgjkhicaeGreatDoor

namespace Go.Proofs.YtpnfmpbgjkhicaeGreatDoor
open Go.ChangeShapes Go.WideShapes Go.ChangeAt Go.RowKit
set_option maxRecDepth 20000

def noC : Int × Int := (0, 0)
/-- cells, one behind the other -/
def cellsC : List (Int × Int) → List Value
  | [] => []
  | c :: r => .int .i64 c.1 :: .int .i64 c.2 :: cellsC r
theorem cellsC_len (L : List (Int × Int)) : (cellsC L).length = L.length * 2 := by
  induction L with
  | nil => rfl
  | cons x r ih => simp [cellsC, ih]; omega
theorem cellsC_append (a b : List (Int × Int)) : cellsC (a ++ b) = cellsC a ++ cellsC b := by
  induction a with
  | nil => rfl
  | cons x r ih => simp [cellsC, ih]
theorem cellsC_one (L : List (Int × Int)) : ∀ v ∈ cellsC L, v.oneCell' = true := by
  induction L with
  | nil => intro v hv; cases hv
  | cons x r ih =>
    intro v hv
    simp only [cellsC, List.mem_cons] at hv
    rcases hv with rfl | rfl | hv
    · rfl
    · rfl
    · exact ih v hv
theorem cellsC_at (L : List (Int × Int)) : ∀ k, k < L.length → (cellsC L)[k * 2]? = some (.int .i64 (L.getD k noC).1) ∧ (cellsC L)[k * 2 + 1]? = some (.int .i64 (L.getD k noC).2) := by
  induction L with
  | nil => intro k hk; cases hk
  | cons x r ih =>
    intro k hk
    cases k with
    | zero => simp [cellsC]
    | succ k =>
      rw [show (k + 1) * 2 = k * 2 + 1 + 1 by omega]
      simp only [cellsC, List.getElem?_cons_succ, List.getD_cons_succ]
      exact ih k (by simpa using hk)
/-- cells that lie in a block -/
def CelAt (w : World) (b o : Nat) (L : List (Int × Int)) : Prop := b < w.heap.size ∧ ∀ k, k < L.length → w.cell? ⟨b, o + k * 2, none⟩ = some (.int .i64 (L.getD k noC).1) ∧ w.cell? ⟨b, o + k * 2 + 1, none⟩ = some (.int .i64 (L.getD k noC).2)
theorem CelAt.later {w w' : World} {b o : Nat} {L : List (Int × Int)} (h : CelAt w b o L) (hB : Below w.heap.size w w') : CelAt w' b o L :=
  ⟨Nat.lt_of_lt_of_le h.1 hB.size, fun k hk => ⟨(hB.cell (p := ⟨b, o + k * 2, none⟩) h.1).trans (h.2 k hk).1, (hB.cell (p := ⟨b, o + k * 2 + 1, none⟩) h.1).trans (h.2 k hk).2⟩⟩
theorem CelAt.cells {w : World} {b o : Nat} {L : List (Int × Int)} (h : CelAt w b o L) : ∀ j u, (cellsC L)[j]? = some u → w.cell? ⟨b, o + j, none⟩ = some u := by
  intro j u hj
  have hlt : j < (cellsC L).length := (List.getElem?_eq_some_iff.1 hj).1
  rw [cellsC_len] at hlt
  have hk : j / 2 < L.length := by omega
  obtain ⟨h1, h2⟩ := cellsC_at L _ hk
  obtain ⟨c1, c2⟩ := h.2 _ hk
  rcases Nat.mod_two_eq_zero_or_one j with hm | hm
  · have e : j = j / 2 * 2 := by omega
    rw [e] at hj ⊢
    rw [h1] at hj
    rw [c1]
    exact hj
  · have e : j = j / 2 * 2 + 1 := by omega
    rw [e] at hj ⊢
    rw [h2] at hj
    rw [← Nat.add_assoc, c2]
    exact hj
def CelV (w : World) (A : Option Addr) (cap : Nat) (L : List (Int × Int)) : Prop := L.length ≤ cap ∧ cap ≤ 9223372036854775807 ∧ (L = [] ∨ ∃ b o, A = some ⟨b, o, none⟩ ∧ CelAt w b o L)
theorem CelV.later {w w' : World} {A : Option Addr} {cap : Nat} {L : List (Int × Int)} (h : CelV w A cap L) (hB : Below w.heap.size w w') : CelV w' A cap L := by
  obtain ⟨h1, h0, h2 | ⟨b, o, h2, h3⟩⟩ := h
  · exact ⟨h1, h0, Or.inl h2⟩
  · exact ⟨h1, h0, Or.inr ⟨b, o, h2, h3.later hB⟩⟩
theorem CelV.nil (w : World) (A : Option Addr) (cap : Nat) (h : cap ≤ 9223372036854775807) : CelV w A cap [] := ⟨Nat.zero_le _, h, Or.inl rfl⟩
/-- cells in a block of a call's own -/
def CelB (w : World) (g : Nat) (L : List (Int × Int)) : Prop := ∃ cur : Array Value, w.heap[g]? = some (.cells cur 38 (0, 0)) ∧ ∀ k, k < L.length → cur[k * 2]? = some (.int .i64 (L.getD k noC).1) ∧ cur[k * 2 + 1]? = some (.int .i64 (L.getD k noC).2)
section
variable {w w' : World} {g : Nat} {L : List (Int × Int)}
theorem CelB.lt (h : CelB w g L) : g < w.heap.size := by
  obtain ⟨cur, h1, _⟩ := h
  exact (Array.getElem?_eq_some_iff.1 h1).1
theorem CelB.same (h : CelB w g L) (hb : w'.heap[g]? = w.heap[g]?) : CelB w' g L := by
  obtain ⟨cur, h1, h2⟩ := h
  exact ⟨cur, hb.trans h1, h2⟩
theorem CelB.later (h : CelB w g L) (hB : Below w.heap.size w w') : CelB w' g L := h.same (hB.block g h.lt)
theorem CelB.at (h : CelB w g L) {k : Nat} (hk : k < L.length) : w.cell? ⟨g, k * 2, none⟩ = some (.int .i64 (L.getD k noC).1) ∧ w.cell? ⟨g, k * 2 + 1, none⟩ = some (.int .i64 (L.getD k noC).2) := by
  obtain ⟨cur, h1, h2⟩ := h
  obtain ⟨h3, h4⟩ := h2 k hk
  exact ⟨by simp [World.cell?, h1, h3], by simp [World.cell?, h1, h4]⟩
theorem CelB.frozen (h : CelB w g L) (j : Nat) : w.frozen? ⟨g, j, none⟩ = false := by
  obtain ⟨cur, h1, _⟩ := h
  exact Lib.frozen_of_heap h1 j
theorem CelB.celAt (h : CelB w g L) : CelAt w g 0 L := ⟨h.lt, fun k hk => by rw [Nat.zero_add]; exact h.at hk⟩
theorem CelB.set (h : CelB w g L) {x : Nat} (hx : x < L.length) (a b : Int) : CelB ((w.setCell ⟨g, x * 2, none⟩ (.int .i64 a)).setCell ⟨g, x * 2 + 1, none⟩ (.int .i64 b)) g (L.set x (a, b)) := by
  obtain ⟨cur, h1, h2⟩ := h
  refine ⟨(cur.setIfInBounds (x * 2) (.int .i64 a)).setIfInBounds (x * 2 + 1) (.int .i64 b), by simp [World.setCell, Array.getElem?_modify, h1], fun k hk => ?_⟩
  rw [List.length_set] at hk
  obtain ⟨h3, h4⟩ := h2 k hk
  obtain ⟨h5, h6⟩ := h2 x hx
  have z0 := (Array.getElem?_eq_some_iff.1 h5).1
  have z1 := (Array.getElem?_eq_some_iff.1 h6).1
  by_cases e : k = x
  · subst e
    constructor
    · rw [Array.getElem?_setIfInBounds_ne (by omega), Array.getElem?_setIfInBounds_self_of_lt z0]
      simp [List.getD, hk]
    · rw [Array.getElem?_setIfInBounds_self_of_lt (by simpa using z1)]
      simp [List.getD, hk]
  · have e1 : (L.set x (a, b)).getD k noC = L.getD k noC := by simp [List.getD, List.getElem?_set_ne (fun h => e h.symm)]
    rw [e1]
    constructor
    · rw [Array.getElem?_setIfInBounds_ne (by omega), Array.getElem?_setIfInBounds_ne (by omega)]; exact h3
    · rw [Array.getElem?_setIfInBounds_ne (by omega), Array.getElem?_setIfInBounds_ne (by omega)]; exact h4
theorem celB_own {base : Nat} {v : Value} (h : w.ownsRow base 38 2 v L.length (cellsC L)) (hl : 0 < L.length) : ∃ g c, v = .slice (some ⟨g, 0, none⟩) L.length c ∧ base ≤ g ∧ L.length ≤ c ∧ c ≤ 9223372036854775807 ∧ CelB w g L := by
  rcases h.2 with ⟨_, h0⟩ | ⟨g, cap, cur, rfl, hb, hg, h4, h5, h6, h7⟩
  · omega
  · refine ⟨g, cap, rfl, hb, h4, by unfold maxLen at h5; omega, cur, hg, fun k hk => ?_⟩
    obtain ⟨x0, x1⟩ := cellsC_at L k hk
    rw [← h7, List.getElem?_take, if_pos (by omega), Array.getElem?_toList] at x0 x1
    exact ⟨x0, x1⟩
end
theorem Tryz.infoCe : (Tryz.prog.info? 38).map (fun i => (i.zero, i.size, i.bytes)) = some (some (.agg #[.int .i64 0, .int .i64 0]), 2, 16) := by kernel_rfl

def goodB (L : List (Int × Int)) (k : Nat) : Bool := !(good (L.getD k noC).1 (L.getD k noC).2)
end Go.Proofs.YtpnfmpbgjkhicaeGreatDoor

namespace Go.Proofs.YtpnfmpbgjkhicaeGreatDoor

def noS : ByteArray := ⟨#[]⟩
def okC (c : Int × Int) : Prop := good c.1 c.2 = true
theorem okC_no : okC noC := rfl
theorem okC_ofP (n : Int) : okC (ofP n) := by
  unfold okC ofP good
  split
  · rename_i h; simp [h.1, h.2]
  · simp
theorem okC_quo (x y : Int) : okC (quoP x y) := by
  unfold quoP
  split
  · rfl
  · exact okC_ofP _
theorem okC_join (b : Bool) (ka kb : Int) {r : Int × Int} (h : okC r) : okC (joinP b ka kb r) := by
  unfold joinP
  split
  · rfl
  · split
    · rfl
    · exact h
/-- two cells joined by an op -/
def opP (o : Int) (a b : Int × Int) : Int × Int := if o = 3 then plusP a.1 a.2 b.1 b.2 else if o = 4 then minusP a.1 a.2 b.1 b.2 else if o = 5 then timesP a.1 a.2 b.1 b.2 else overP a.1 a.2 b.1 b.2
theorem opP_ok (o : Int) (a b : Int × Int) : okC (opP o a b) := by
  unfold opP
  split
  · exact okC_join _ _ _ (okC_ofP _)
  · split
    · exact okC_join _ _ _ (okC_ofP _)
    · split
      · exact okC_join _ _ _ (okC_ofP _)
      · exact okC_join _ _ _ (okC_quo _ _)
theorem join_comm (b : Bool) (ka kb : Int) (r : Int × Int) : joinP b ka kb r = joinP b kb ka r := by
  unfold joinP
  by_cases h : ka = 2 ∨ kb = 2
  · rw [if_pos h, if_pos h.symm]
  · have h2 : ¬ (kb = 2 ∨ ka = 2) := fun e => h e.symm
    rw [if_neg h, if_neg h2]
theorem opP_comm (o : Int) (h : o = 3 ∨ o = 5) (a b : Int × Int) : opP o a b = opP o b a := by
  unfold opP
  rcases h with rfl | rfl
  · rw [if_pos rfl, if_pos rfl]
    unfold plusP
    rw [join_comm, Int.add_comm, Bool.or_comm]
  · rw [if_neg (by omega), if_neg (by omega), if_pos rfl, if_neg (by omega), if_neg (by omega), if_pos rfl]
    unfold timesP
    rw [join_comm, Int.mul_comm, Bool.or_comm]

/-- the place of a name among names, or -1 -/
def isS (N : List ByteArray) (s : ByteArray) (i : Nat) : Bool := decide (N.getD i noS = s)
def whereS (N : List ByteArray) (s : ByteArray) : Int := findFrom (isS N s) N.length 0
theorem where_cases (N : List ByteArray) (s : ByteArray) : (whereS N s = -1 ∧ ∀ j, j < N.length → N.getD j noS ≠ s) ∨ ∃ i : Nat, whereS N s = (i : Int) ∧ i < N.length ∧ N.getD i noS = s := by
  unfold whereS
  rcases findFrom_cases (isS N s) N.length 0 with ⟨h1, h2⟩ | ⟨m, h1, h2, h3, h4, h5⟩
  · left
    refine ⟨h1, fun j hj => ?_⟩
    have := h2 j (Nat.zero_le _) (by omega)
    simpa [isS] using this
  · right
    exact ⟨m, h1, by omega, of_decide_eq_true h4⟩

def downS (N : List ByteArray) (i : Nat) : Bool := Op.bytesLess (N.getD i noS).toList (N.getD (i - 1) noS).toList || (N.getD i noS).toList == (N.getD (i - 1) noS).toList
/-- what is wrong with names and cells -/
def ckErr (N : List ByteArray) (C : List (Int × Int)) : Int := if C.length ≠ N.length then 3 else if 0 ≤ findFrom (goodB C) C.length 0 then 1 else if 0 ≤ findFrom (downS N) (N.length - 1) 1 then 7 else 0
theorem ck_nil : ckErr [] [] = 0 := by decide
theorem ck_shape {N : List ByteArray} {C : List (Int × Int)} (h : C.length ≠ N.length) : ckErr N C = 3 := by unfold ckErr; rw [if_pos h]
theorem ck_cell {N : List ByteArray} {C : List (Int × Int)} (h : C.length = N.length) {i : Nat} (hi : i < C.length) (hb : goodB C i = true) : ckErr N C = 1 := by
  unfold ckErr
  rw [if_neg (by simpa using h)]
  rcases findFrom_cases (goodB C) C.length 0 with ⟨_, h5⟩ | ⟨m, e, _⟩
  · rw [h5 i (Nat.zero_le _) (by omega)] at hb; cases hb
  · rw [e, if_pos (by omega)]
theorem ck_down {N : List ByteArray} {C : List (Int × Int)} (h : C.length = N.length) (hg : ∀ j, j < C.length → goodB C j = false) {i : Nat} (h1 : 1 ≤ i) (hi : i < N.length) (hb : downS N i = true) : ckErr N C = 7 := by
  unfold ckErr
  rw [if_neg (by simpa using h), findFrom_none (fun j _ hj => hg j (by omega)), if_neg (by omega)]
  rcases findFrom_cases (downS N) (N.length - 1) 1 with ⟨_, h5⟩ | ⟨m, e, _⟩
  · rw [h5 i h1 (by omega)] at hb; cases hb
  · rw [e, if_pos (by omega)]
theorem ck_good {N : List ByteArray} {C : List (Int × Int)} (h : C.length = N.length) (hg : ∀ j, j < C.length → goodB C j = false) (hd : ∀ j, 1 ≤ j → j < N.length → downS N j = false) : ckErr N C = 0 := by
  unfold ckErr
  rw [if_neg (by simpa using h), findFrom_none (fun j _ hj => hg j (by omega)), if_neg (by omega), findFrom_none (fun j h1 hj => hd j h1 (by omega)), if_neg (by omega)]
theorem ck_right {N : List ByteArray} {C : List (Int × Int)} (h : ckErr N C = 0) : C.length = N.length ∧ (∀ j, j < C.length → goodB C j = false) ∧ ∀ j, 1 ≤ j → j < N.length → downS N j = false := by
  by_cases h1 : C.length = N.length
  · refine ⟨h1, ?_⟩
    by_cases h2 : ∀ j, j < C.length → goodB C j = false
    · refine ⟨h2, fun j hj1 hj => ?_⟩
      cases hd : downS N j
      · rfl
      · rw [ck_down h1 h2 hj1 hj hd] at h; cases h
    · exfalso
      apply h2
      intro j hj
      cases hd : goodB C j
      · rfl
      · rw [ck_cell h1 hj hd] at h; cases h
  · rw [ck_shape h1] at h; cases h
theorem ck_ok {N : List ByteArray} {C : List (Int × Int)} (h : ckErr N C = 0) : ∀ c ∈ C, okC c := by
  intro c hc
  obtain ⟨j, hj, rfl⟩ := List.getElem_of_mem hc
  have := (ck_right h).2.1 j hj
  unfold goodB at this
  rw [List.getD_eq_getElem?_getD, List.getElem?_eq_getElem hj] at this
  simpa [okC] using this

/-! names that rise -/
theorem down_not {N : List ByteArray} {i : Nat} (h : downS N i = false) : (N.getD (i - 1) noS).toList < (N.getD i noS).toList := by
  unfold downS at h
  rw [Bool.or_eq_false_iff, bytesLess_eq] at h
  have h1 := of_decide_eq_false h.1
  have h2 : (N.getD i noS).toList ≠ (N.getD (i - 1) noS).toList := by simpa using h.2
  rcases Std.lt_trichotomy (N.getD i noS).toList (N.getD (i - 1) noS).toList with h3 | h3 | h3
  · exact absurd h3 h1
  · exact absurd h3 h2
  · exact h3
theorem rise_all {N : List ByteArray} (h : ∀ j, 1 ≤ j → j < N.length → downS N j = false) : ∀ i j, i < j → j < N.length → (N.getD i noS).toList < (N.getD j noS).toList := by
  intro i j hij
  induction j with
  | zero => omega
  | succ j ih =>
    intro hj
    have h1 := down_not (h (j + 1) (by omega) hj)
    by_cases e : i = j
    · subst e; exact h1
    · exact List.lt_trans (ih (by omega) (by omega)) h1
end Go.Proofs.YtpnfmpbgjkhicaeGreatDoor

namespace Go.Proofs.YtpnfmpbgjkhicaeGreatDoor

section
variable (N : List ByteArray) (C : List (Int × Int))
def refC (s : ByteArray) : Int × Int := C.getD (whereS N s).toNat noC
def valT : Tre → Int × Int
  | .num n => ofP n
  | .ref s => refC N C s
  | .bin o a b => opP o (valT a) (valT b)
end
def refsT : Tre → List ByteArray
  | .num _ => []
  | .ref s => [s]
  | .bin _ a b => refsT a ++ refsT b
def missT (N : List ByteArray) (t : Tre) : Bool := (refsT t).any fun s => decide (whereS N s < 0)
def constT (t : Tre) : Bool := (refsT t).isEmpty
def swapT : Tre → Tre
  | .num n => .num n
  | .ref s => .ref s
  | .bin o a b => if o = 3 ∨ o = 5 then .bin o (swapT b) (swapT a) else .bin o (swapT a) (swapT b)
theorem swap_on {o : Int} (h : o = 3 ∨ o = 5) (a b : Tre) : swapT (.bin o a b) = .bin o (swapT b) (swapT a) := by rw [swapT, if_pos h]
theorem swap_off {o : Int} (h : ¬ (o = 3 ∨ o = 5)) (a b : Tre) : swapT (.bin o a b) = .bin o (swapT a) (swapT b) := by rw [swapT, if_neg h]
theorem swap_twice : ∀ t : Tre, swapT (swapT t) = t
  | .num _ => rfl
  | .ref _ => rfl
  | .bin o a b => by
    by_cases h : o = 3 ∨ o = 5
    · rw [swap_on h, swap_on h, swap_twice a, swap_twice b]
    · rw [swap_off h, swap_off h, swap_twice a, swap_twice b]
theorem swap_val (N : List ByteArray) (C : List (Int × Int)) : ∀ t : Tre, valT N C (swapT t) = valT N C t
  | .num _ => rfl
  | .ref _ => rfl
  | .bin o a b => by
    by_cases h : o = 3 ∨ o = 5
    · rw [swap_on h, valT, valT, swap_val N C a, swap_val N C b, opP_comm o h]
    · rw [swap_off h, valT, valT, swap_val N C a, swap_val N C b]
theorem swap_refs : ∀ (t : Tre) (s : ByteArray), s ∈ refsT (swapT t) ↔ s ∈ refsT t
  | .num _, _ => Iff.rfl
  | .ref _, _ => Iff.rfl
  | .bin o a b, s => by
    by_cases h : o = 3 ∨ o = 5
    · rw [swap_on h, refsT, refsT, List.mem_append, List.mem_append, swap_refs a, swap_refs b, or_comm]
    · rw [swap_off h, refsT, refsT, List.mem_append, List.mem_append, swap_refs a, swap_refs b]
theorem swap_ok : ∀ t : Tre, okT t → okT (swapT t)
  | .num _, h => h
  | .ref _, h => h
  | .bin o a b, ⟨ho, ha, hb⟩ => by
    by_cases h : o = 3 ∨ o = 5
    · rw [swap_on h]; exact ⟨ho, swap_ok b hb, swap_ok a ha⟩
    · rw [swap_off h]; exact ⟨ho, swap_ok a ha, swap_ok b hb⟩
theorem swap_siz : ∀ t : Tre, sizT (swapT t) = sizT t
  | .num _ => rfl
  | .ref _ => rfl
  | .bin o a b => by
    by_cases h : o = 3 ∨ o = 5
    · rw [swap_on h, sizT, sizT, swap_siz a, swap_siz b]; omega
    · rw [swap_off h, sizT, sizT, swap_siz a, swap_siz b]
theorem any_same {α : Type} {p : α → Bool} {a b : List α} (h : ∀ x, x ∈ a ↔ x ∈ b) : a.any p = b.any p := by
  rw [Bool.eq_iff_iff, List.any_eq_true, List.any_eq_true]
  exact ⟨fun ⟨x, h1, h2⟩ => ⟨x, (h x).1 h1, h2⟩, fun ⟨x, h1, h2⟩ => ⟨x, (h x).2 h1, h2⟩⟩
theorem nil_same {α : Type} {a b : List α} (h : ∀ x, x ∈ a ↔ x ∈ b) : a.isEmpty = b.isEmpty := by
  rw [Bool.eq_iff_iff, List.isEmpty_iff, List.isEmpty_iff, List.eq_nil_iff_forall_not_mem, List.eq_nil_iff_forall_not_mem]
  exact ⟨fun e x hx => e x ((h x).2 hx), fun e x hx => e x ((h x).1 hx)⟩
theorem swap_miss (N : List ByteArray) (t : Tre) : missT N (swapT t) = missT N t := any_same (swap_refs t)
theorem swap_const (t : Tre) : constT (swapT t) = constT t := nil_same (swap_refs t)
/-- without names it comes to the same whatever there is -/
theorem val_const (N N' : List ByteArray) (C C' : List (Int × Int)) : ∀ t : Tre, constT t = true → valT N C t = valT N' C' t
  | .num _, _ => rfl
  | .ref _, h => by cases h
  | .bin o a b, h => by
    unfold constT at h
    rw [refsT, List.isEmpty_iff, List.append_eq_nil_iff] at h
    rw [valT, valT, val_const N N' C C' a (by unfold constT; rw [h.1]; rfl), val_const N N' C C' b (by unfold constT; rw [h.2]; rfl)]
theorem miss_const (N : List ByteArray) (t : Tre) (h : constT t = true) : missT N t = false := by
  unfold constT at h
  unfold missT
  rw [List.isEmpty_iff.1 h]
  rfl
theorem val_ok (N : List ByteArray) {C : List (Int × Int)} (hC : ∀ c ∈ C, okC c) : ∀ t : Tre, okC (valT N C t)
  | .num n => okC_ofP n
  | .ref s => by
    rw [valT, refC, List.getD_eq_getElem?_getD]
    cases h : C[(whereS N s).toNat]? with
    | none => exact okC_no
    | some c => exact hC c (List.mem_of_getElem? h)
  | .bin o a b => opP_ok o _ _

/-! the names of a tree are those of the nodes -/
theorem refs_down {l : List Nd} (hl : RightL l) (s : ByteArray) : ∀ i, i < l.length → s ∈ refsT (treeOf l i) → ∃ j, j < l.length ∧ (l.getD j noN).op = 2 ∧ (l.getD j noN).name = s := by
  intro i
  induction i using Nat.strongRecOn with
  | _ i ih =>
    intro hi hs
    have ho := op_range (hl i hi)
    by_cases h1 : (l.getD i noN).op = 1
    · rw [tree_num h1] at hs; cases hs
    by_cases h2 : (l.getD i noN).op = 2
    · rw [tree_ref h2, refsT, List.mem_singleton] at hs
      exact ⟨i, hi, h2, hs.symm⟩
    · obtain ⟨a1, a2, a3, a4⟩ := nd_sides (hl i hi) (by omega)
      rw [tree_bin hl hi (by omega), refsT, List.mem_append] at hs
      rcases hs with hs | hs
      · exact ih _ (by omega) (by omega) hs
      · exact ih _ (by omega) (by omega) hs
theorem used_who {l : List Nd} (j : Nat) : ∀ k, 1 ≤ usedTo l k j → ∃ i, i < k ∧ 1 ≤ uses (l.getD i noN) j
  | 0, h => by cases h
  | k + 1, h => by
    by_cases h1 : 1 ≤ uses (l.getD k noN) j
    · exact ⟨k, Nat.lt_succ_self _, h1⟩
    · have h2 : 1 ≤ usedTo l k j + uses (l.getD k noN) j := h
      obtain ⟨i, hi, h3⟩ := used_who (l := l) j k (by omega)
      exact ⟨i, by omega, h3⟩
theorem refs_up {l : List Nd} (h : formErr l = 0) (s : ByteArray) : ∀ n j, l.length - j = n → j < l.length → s ∈ refsT (treeOf l j) → s ∈ refsT (treeOf l (l.length - 1)) := by
  obtain ⟨h1, h2, hl, h4⟩ := form_right h
  intro n
  induction n using Nat.strongRecOn with
  | _ n ih =>
    intro j hn hj hs
    by_cases e : j = l.length - 1
    · rw [← e]; exact hs
    obtain ⟨i, hi, hu⟩ := used_who (l := l) j l.length (by rw [h4 j (by omega)]; exact Nat.le_refl _)
    unfold uses at hu
    split at hu
    · rename_i hop
      obtain ⟨a1, a2, a3, a4⟩ := nd_sides (hl i hi) hop
      have hsi : s ∈ refsT (treeOf l i) := by
        rw [tree_bin hl hi hop, refsT, List.mem_append]
        by_cases e1 : (l.getD i noN).left = (j : Int)
        · left; rw [e1]; exact hs
        · by_cases e2 : (l.getD i noN).right = (j : Int)
          · right; rw [e2]; exact hs
          · rw [if_neg e1, if_neg e2] at hu; omega
      have hij : j < i := by
        by_cases e1 : (l.getD i noN).left = (j : Int)
        · omega
        · by_cases e2 : (l.getD i noN).right = (j : Int)
          · omega
          · rw [if_neg e1, if_neg e2] at hu; omega
      exact ih (l.length - i) (by omega) i rfl hi hsi
    · omega
theorem refs_mem {l : List Nd} (h : formErr l = 0) (s : ByteArray) : s ∈ refsT (treeOf l (l.length - 1)) ↔ ∃ j, j < l.length ∧ (l.getD j noN).op = 2 ∧ (l.getD j noN).name = s := by
  obtain ⟨h1, h2, hl, h4⟩ := form_right h
  refine ⟨refs_down hl s _ (by omega), fun ⟨j, hj, h2, h3⟩ => ?_⟩
  refine refs_up h s _ j rfl hj ?_
  rw [tree_ref h2, h3, refsT]
  exact List.mem_singleton.2 rfl
/-- a node that has a name that is none of the names -/
def missR (N : List ByteArray) (l : List Nd) (i : Nat) : Bool := decide ((l.getD i noN).op = 2) && decide (whereS N (l.getD i noN).name < 0)
theorem miss_yes {N : List ByteArray} {l : List Nd} (h : formErr l = 0) {i : Nat} (hi : i < l.length) (hm : missR N l i = true) : missT N (treeOf l (l.length - 1)) = true := by
  simp only [missR, Bool.and_eq_true, decide_eq_true_eq] at hm
  unfold missT
  rw [List.any_eq_true]
  exact ⟨_, (refs_mem h _).2 ⟨i, hi, hm.1, rfl⟩, decide_eq_true hm.2⟩
theorem miss_no {N : List ByteArray} {l : List Nd} (h : formErr l = 0) (hm : ∀ i, i < l.length → missR N l i = false) : missT N (treeOf l (l.length - 1)) = false := by
  rw [Bool.eq_false_iff]
  intro e
  unfold missT at e
  rw [List.any_eq_true] at e
  obtain ⟨s, h1, h2⟩ := e
  obtain ⟨j, hj, h3, h4⟩ := (refs_mem h s).1 h1
  have := hm j hj
  unfold missR at this
  rw [h4, h3] at this
  simp at this h2
  omega
/-- has it a name? -/
def refB (l : List Nd) (i : Nat) : Bool := decide ((l.getD i noN).op = 2)
theorem const_no {l : List Nd} (h : formErr l = 0) {i : Nat} (hi : i < l.length) (hm : refB l i = true) : constT (treeOf l (l.length - 1)) = false := by
  have := (refs_mem h _).2 ⟨i, hi, of_decide_eq_true hm, rfl⟩
  unfold constT
  cases e : refsT (treeOf l (l.length - 1)) with
  | nil => rw [e] at this; cases this
  | cons => rfl
theorem const_yes {l : List Nd} (h : formErr l = 0) (hm : ∀ i, i < l.length → refB l i = false) : constT (treeOf l (l.length - 1)) = true := by
  unfold constT
  rw [List.isEmpty_iff, List.eq_nil_iff_forall_not_mem]
  intro s hs
  obtain ⟨j, hj, h3, -⟩ := (refs_mem h s).1 hs
  have := hm j hj
  unfold refB at this
  rw [h3] at this
  cases this

/-! what Value, Swap and Const answer -/
def valE (l : List Nd) (N : List ByteArray) (C : List (Int × Int)) : Int := if formErr l ≠ 0 then formErr l else if ckErr N C ≠ 0 then ckErr N C else if missT N (treeOf l (l.length - 1)) = true then 5 else 0
def valC (l : List Nd) (N : List ByteArray) (C : List (Int × Int)) : Int × Int := if valE l N C = 0 then valT N C (treeOf l (l.length - 1)) else noC
def swpL (l : List Nd) : List Nd := if formErr l = 0 then post (swapT (treeOf l (l.length - 1))) 0 else []
def cstB (l : List Nd) : Bool := decide (formErr l = 0) && constT (treeOf l (l.length - 1))
theorem swp_form {l : List Nd} (h : formErr l = 0) : formErr (swpL l) = 0 ∧ treeOf (swpL l) ((swpL l).length - 1) = swapT (treeOf l (l.length - 1)) ∧ (swpL l).length = l.length := by
  obtain ⟨h1, h2, hl, h4⟩ := form_right h
  have hk := swap_ok _ (ok_tree hl (l.length - 1) (by omega))
  have hz := siz_tree h
  have hs := swap_siz (treeOf l (l.length - 1))
  unfold swpL
  rw [if_pos h]
  refine ⟨form_post _ hk (by omega), tree_post _ hk, ?_⟩
  rw [post_len]
  omega
/-- swapped it comes to the same -/
theorem swp_val {l : List Nd} (h : formErr l = 0) (N : List ByteArray) (C : List (Int × Int)) : valE (swpL l) N C = valE l N C ∧ valC (swpL l) N C = valC l N C := by
  obtain ⟨h1, h2, h3⟩ := swp_form h
  have e : valE (swpL l) N C = valE l N C := by unfold valE; rw [h1, h, h2, swap_miss]
  refine ⟨e, ?_⟩
  unfold valC
  rw [e, h2, swap_val]
/-- swapped twice it is written the same -/
theorem swp_twice {l : List Nd} (h : formErr l = 0) : formErr (swpL (swpL l)) = 0 ∧ printT (swpL (swpL l)) = printT l := by
  obtain ⟨h1, h2, h3⟩ := swp_form h
  obtain ⟨g1, g2, g3⟩ := swp_form h1
  refine ⟨g1, ?_⟩
  rw [print_tree g1, print_tree h, g2, h2, swap_twice]
/-- without names it comes to the same whatever there is -/
theorem cst_val {l : List Nd} (h : formErr l = 0) (hc : cstB l = true) (N : List ByteArray) (C : List (Int × Int)) : valE l [] [] = 0 ∧ (valE l N C = 0 → valC l [] [] = valC l N C) := by
  have hc2 : constT (treeOf l (l.length - 1)) = true := by simp [cstB] at hc; exact hc.2
  have e : valE l [] [] = 0 := by unfold valE; rw [h, ck_nil, miss_const _ _ hc2]; rfl
  refine ⟨e, fun e2 => ?_⟩
  unfold valC
  rw [if_pos e, if_pos e2]
  exact val_const _ _ _ _ _ hc2
/-- nodes of the same tree come to the same -/
theorem val_tree {l m : List Nd} (h : formErr l = 0) (hm : formErr m = 0) (ht : treeOf m (m.length - 1) = treeOf l (l.length - 1)) (N : List ByteArray) (C : List (Int × Int)) : valE m N C = valE l N C ∧ valC m N C = valC l N C := by
  have e : valE m N C = valE l N C := by unfold valE; rw [h, hm, ht]
  exact ⟨e, by unfold valC; rw [e, ht]⟩
/-- written and read again it comes to the same -/
theorem back_val {l : List Nd} (h : formErr l = 0) (hs : (printT l).size ≤ 100) (N : List ByteArray) (C : List (Int × Int)) : valE (prsL (printT l)) N C = valE l N C ∧ valC (prsL (printT l)) N C = valC l N C := by
  obtain ⟨h1, h2, h3, h4⟩ := back_print h hs
  obtain ⟨g1, g2, g3, -⟩ := form_right h
  refine val_tree h h3 ?_ N C
  rw [h2]
  exact tree_post _ (ok_tree g3 _ (by omega))
end Go.Proofs.YtpnfmpbgjkhicaeGreatDoor

namespace Go.Proofs.YtpnfmpbgjkhicaeGreatDoor
open Go.ChangeShapes Go.WideShapes Go.ChangeAt Go.RowKit
set_option maxRecDepth 20000

theorem kept_sub {N N' : Nat} {X Y : Nat → Prop} {w w' : World} (h : Kept N X w w') (hN : N' ≤ N) (hx : ∀ k, k < N' → X k → Y k) : Kept N' Y w w' :=
  ⟨h.os, h.tape, h.output, h.size, fun k hk hy => h.block k (by omega) fun e => hy (hx k hk e)⟩
theorem kept_grownO {w w' : World} {r : Option Nat} (h : w.grownBy w' r) : Kept w.heap.size (fun k => r = some k) w w' :=
  ⟨h.os, h.tape, h.output, h.size, fun k hk hx => h.block k hk fun e => hx e.symm⟩
theorem kept_setF {N : Nat} {X : Nat → Prop} {w : World} {p j : Nat} {v : Value} (hp : N ≤ p) : Kept N X w (w.setCell ⟨p, j, none⟩ v) :=
  ⟨rfl, rfl, rfl, by simp, fun k hk _ => setCell_off w p j k v (by omega)⟩
/-- nodes laid behind a row of one's own -/
structure Laid (w : World) (base : Nat) (v : Value) (L : List Nd) (w' : World) (v' : Value) : Prop where
  own : w'.ownsRow base 36 5 v' L.length (cellsN L)
  kept : Kept w.heap.size (fun k => v.ownBlock = some k) w w'
  at' : v'.ownBlock = v.ownBlock ∨ ∃ g, v'.ownBlock = some g ∧ w.heap.size ≤ g
/-- a node in a box -/
def Box5 (w : World) (p : Nat) (x : Nd) : Prop := w.heap[p]? = some (.cells #[.int .i64 x.op, .int .i64 x.n, .string x.name, .int .i64 x.left, .int .i64 x.right] 36 (0, 0))
section
variable {w w' : World} {p : Nat} {x : Nd}
theorem Box5.lt (h : Box5 w p x) : p < w.heap.size := (Array.getElem?_eq_some_iff.1 h).1
theorem Box5.c0 (h : Box5 w p x) : w.cell? ⟨p, 0, none⟩ = some (.int .i64 x.op) := by unfold Box5 at h; simp [World.cell?, h]
theorem Box5.c1 (h : Box5 w p x) : w.cell? ⟨p, 1, none⟩ = some (.int .i64 x.n) := by unfold Box5 at h; simp [World.cell?, h]
theorem Box5.c2 (h : Box5 w p x) : w.cell? ⟨p, 2, none⟩ = some (.string x.name) := by unfold Box5 at h; simp [World.cell?, h]
theorem Box5.c3 (h : Box5 w p x) : w.cell? ⟨p, 3, none⟩ = some (.int .i64 x.left) := by unfold Box5 at h; simp [World.cell?, h]
theorem Box5.c4 (h : Box5 w p x) : w.cell? ⟨p, 4, none⟩ = some (.int .i64 x.right) := by unfold Box5 at h; simp [World.cell?, h]
theorem Box5.fr (h : Box5 w p x) (j : Nat) : w.frozen? ⟨p, j, none⟩ = false := by unfold Box5 at h; simp [World.frozen?, h]
theorem Box5.same (h : Box5 w p x) (hb : w'.heap[p]? = w.heap[p]?) : Box5 w' p x := hb.trans h
theorem Box5.new (w : World) (x : Nd) : Box5 (w.alloc (.cells #[.int .i64 x.op, .int .i64 x.n, .string x.name, .int .i64 x.left, .int .i64 x.right] 36)) w.heap.size x := heap_alloc_new _ _
theorem Box5.set3 (h : Box5 w p x) (m : Int) : Box5 (w.setCell ⟨p, 3, none⟩ (.int .i64 m)) p ⟨x.op, x.n, x.name, m, x.right⟩ := by
  unfold Box5 at *
  rw [setCell_eq_setRow w p 3 _ _ (0, 0) _ h, setRow_heap w p _ _ _ _ h]
  rfl
theorem Box5.set4 (h : Box5 w p x) (m : Int) : Box5 (w.setCell ⟨p, 4, none⟩ (.int .i64 m)) p ⟨x.op, x.n, x.name, x.left, m⟩ := by
  unfold Box5 at *
  rw [setCell_eq_setRow w p 4 _ _ (0, 0) _ h, setRow_heap w p _ _ _ _ h]
  rfl
end
theorem news5 {w : World} {x : Nd} {n : Nat} (hn : w.heap.size = n) : ∀ j u, (cellsNd1 x)[j]? = some u → (w.alloc (.cells #[.int .i64 x.op, .int .i64 x.n, .string x.name, .int .i64 x.left, .int .i64 x.right] 36)).cell? ((⟨n, 0, none⟩ : Addr).add j) = some u := by
  subst hn
  exact World.news_of_block (cs := #[.int .i64 x.op, .int .i64 x.n, .string x.name, .int .i64 x.left, .int .i64 x.right]) (t := 36) (fr := (0, 0)) (heap_alloc_new _ _)
theorem news_top {w : World} {o : Obj} (x : Nd) : ∀ j u, (cellsNd1 x)[j]? = some u → ((w.alloc o).alloc (.cells #[.int .i64 x.op, .int .i64 x.n, .string x.name, .int .i64 x.left, .int .i64 x.right] 36)).cell? ((⟨w.heap.size + 1, 0, none⟩ : Addr).add j) = some u := World.news_of_block (cs := #[.int .i64 x.op, .int .i64 x.n, .string x.name, .int .i64 x.left, .int .i64 x.right]) (t := 36) (fr := (0, 0)) (topF1 w _ _)
theorem ones5 {x : Nd} : ∀ u ∈ cellsNd1 x, u.oneCell' = true := by intro u hu; simp [cellsNd1] at hu; rcases hu with rfl | rfl | rfl | rfl | rfl <;> rfl
theorem name_empty {s : ByteArray} (h : s.size = 0) : s = noT := by
  obtain ⟨d⟩ := s
  have : d = #[] := Array.eq_empty_of_size_eq_zero h
  subst this
  rfl
/-- what a node that is right looks like -/
theorem nd_form {x : Nd} {i : Nat} (h : ndErr x i = 0) : (x.op = 1 → x = ⟨1, x.n, noT, 0, 0⟩) ∧ (x.op = 2 → x = ⟨2, 0, x.name, 0, 0⟩ ∧ x.name.size ≤ 8) ∧ (2 < x.op → x = ⟨x.op, 0, noT, x.left, x.right⟩) := by
  obtain ⟨op, n, name, left, right⟩ := x
  unfold ndErr at h
  simp only at h ⊢
  split at h
  · cases h
  refine ⟨fun e => ?_, fun e => ?_, fun e => ?_⟩
  · subst e
    rw [if_pos rfl] at h
    split at h
    · cases h
    · split at h
      · cases h
      · rename_i h2
        have h3 : name.size = 0 := by omega
        have h4 : left = 0 := by omega
        have h5 : right = 0 := by omega
        rw [name_empty h3, h4, h5]
  · subst e
    rw [if_neg (by omega), if_pos rfl] at h
    split at h
    · cases h
    · rename_i h0
      split at h
      · cases h
      · rename_i h2
        have h3 : n = 0 := by omega
        have h4 : left = 0 := by omega
        have h5 : right = 0 := by omega
        refine ⟨by rw [h3, h4, h5], (name_first (by simpa using h0)).2.1⟩
  · rw [if_neg (by omega), if_neg (by omega)] at h
    split at h
    · cases h
    · split at h
      · cases h
      · rename_i h2
        have h3 : n = 0 := by omega
        have h4 : name.size = 0 := by omega
        rw [name_empty h4, h3]
/-- behind an append of one node -/
theorem laid_one {w W w' : World} {base : Nat} {v v' : Value} {O : List Nd} {x : Nd} (hb : Below w.heap.size w W) (hown : w'.ownsRow base 36 5 v' (O.length + 1) (cellsN O ++ cellsNd1 x)) (hg : W.grownBy w' v.ownBlock) (hat : v'.ownBlock = v.ownBlock ∨ ∃ g, v'.ownBlock = some g ∧ w.heap.size ≤ g) : Laid w base v (O ++ [x]) w' v' := by
  refine ⟨by rw [cellsN_snoc, List.length_append]; exact hown, ?_, hat⟩
  have k1 : Kept w.heap.size (fun k => v.ownBlock = some k) w W := kept_below hb (Nat.le_refl _)
  exact k1.trans (kept_sub (kept_grownO hg) hb.size (fun k _ e => e))

theorem at_low {S k : Nat} {r r1 : Option Nat} (h : r1 = r ∨ ∃ g, r1 = some g ∧ S ≤ g) (hk : k < S) (e : r1 = some k) : r = some k := by
  rcases h with h | ⟨g, h, hg⟩
  · rw [← h]; exact e
  · rw [h] at e; cases e; omega
theorem laid_join {w W w1 V w2 V2 w3 : World} {base : Nat} {v v1 v2 v3 y1 y2 : Value} {L1 L2 : List Nd} {x : Nd} {ob : Obj} (hW : Below w.heap.size w W) (h1 : Laid W base v L1 w1 v1) (hV : V = w1.setCell ⟨w.heap.size, 3, none⟩ y1) (h2 : Laid V base v1 L2 w2 v2) (hV2 : V2 = (w2.setCell ⟨w.heap.size, 4, none⟩ y2).alloc ob)
    (hown : w3.ownsRow base 36 5 v3 (L2.length + 1) (cellsN L2 ++ cellsNd1 x)) (hg : V2.grownBy w3 v2.ownBlock) (hat : v3.ownBlock = v2.ownBlock ∨ ∃ g, v3.ownBlock = some g ∧ w.heap.size ≤ g) : Laid w base v (L2 ++ [x]) w3 v3 := by
  have s1 := h1.kept.size
  have s2 := h2.kept.size
  have sV : V.heap.size = w1.heap.size := by rw [hV]; simp
  have sW := hW.size
  have sV2 : V2.heap.size = w2.heap.size + 1 := by rw [hV2]; simp
  have low1 : ∀ k, k < w.heap.size → v1.ownBlock = some k → v.ownBlock = some k := fun k hk e => at_low h1.at' (by omega) e
  have low2 : ∀ k, k < w.heap.size → v2.ownBlock = some k → v.ownBlock = some k := fun k hk e => low1 k hk (at_low h2.at' (by omega) e)
  refine ⟨by rw [cellsN_snoc, List.length_append]; exact hown, ?_, ?_⟩
  · have k1 : Kept w.heap.size (fun k => v.ownBlock = some k) w W := kept_below hW (Nat.le_refl _)
    have k2 : Kept w.heap.size (fun k => v.ownBlock = some k) W w1 := kept_sub h1.kept sW (fun k _ e => e)
    have k3 : Kept w.heap.size (fun k => v.ownBlock = some k) w1 V := by rw [hV]; exact kept_setF (Nat.le_refl _)
    have k4 : Kept w.heap.size (fun k => v.ownBlock = some k) V w2 := kept_sub h2.kept (by omega) low1
    have k5 : Kept w.heap.size (fun k => v.ownBlock = some k) w2 V2 := by
      rw [hV2]
      exact (kept_setF (Nat.le_refl _)).trans (kept_below ((Below.refl _ _).alloc (Nat.le_refl _) _) (by simp; omega))
    have k6 : Kept w.heap.size (fun k => v.ownBlock = some k) V2 w3 := kept_sub (kept_grownO hg) (by omega) low2
    exact ((((k1.trans k2).trans k3).trans k4).trans k5).trans k6
  · have a1 : v1.ownBlock = v.ownBlock ∨ ∃ g, v1.ownBlock = some g ∧ w.heap.size ≤ g := h1.at'.imp id fun ⟨g, e, h⟩ => ⟨g, e, by omega⟩
    have a2 : v2.ownBlock = v1.ownBlock ∨ ∃ g, v2.ownBlock = some g ∧ w.heap.size ≤ g := h2.at'.imp id fun ⟨g, e, h⟩ => ⟨g, e, by omega⟩
    have j : ∀ {r r1 r2 : Option Nat}, (r1 = r ∨ ∃ g, r1 = some g ∧ w.heap.size ≤ g) → (r2 = r1 ∨ ∃ g, r2 = some g ∧ w.heap.size ≤ g) → (r2 = r ∨ ∃ g, r2 = some g ∧ w.heap.size ≤ g) := fun h h' => by
      rcases h' with e | h'
      · rw [e]; exact h
      · exact Or.inr h'
    exact j (j a1 a2) hat
theorem nds_same {w w' : World} {b o : Nat} {l : List Nd} (h : NdsAt w b o l) (hs : w.heap.size ≤ w'.heap.size) (hb : w'.heap[b]? = w.heap[b]?) : NdsAt w' b o l := by
  refine ⟨Nat.lt_of_lt_of_le h.1 hs, fun k hk => ?_⟩
  have e : ∀ j, w'.cell? ⟨b, j, none⟩ = w.cell? ⟨b, j, none⟩ := fun j => by simp [World.cell?, hb]
  rw [e, e, e, e, e]
  exact h.2 k hk

end Go.Proofs.YtpnfmpbgjkhicaeGreatDoor
