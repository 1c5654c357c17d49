/-
 Decimal numerals as rows of bytes: what is written of a number is read as that number, and a row of at most 15 digits without a needless nought is what is written of the number that it spells.
 Places by number, on plain data: how many stand ahead of a place, and the place of a number; dims of a whole and so many parts, and outlines of such dims.
 Texts that are cut at a byte, and put together with it between, on plain data: each undoes the other.
 What package place tells, as plain functions on plain data: what is wrong with a place, its number, a number's place, its text, a text's place; and that each undoes the other.
 What checkOutline, Cells and Of of package place answer, called in whatever memory: how many places an outline has; the place of a number, in new memory.
 What Add, Sub, Mul and Div of package cell answer of any two cells: the pure functions below, or ErrRange where a cell is wrong; new memory alone is written.
 Cells in a row, in memory: a slice of them, a block of a call's own that holds them.
 Cells joined by an op; names, and where one of them is; what is wrong with names and cells: plain data.
 Cells folded by a dim, on plain data: what comes of parts by their signs, member by member from the last; that cells that are right stay right; that a dim that is folded once more changes nothing.
 The document's own reading of outlines (tallyref1.Name, tallyref1.Where, tallyref1.Size): what is wrong with a name, where a member of a name is, how many places an outline has.
 The document's own count of an outline's cells (tallyref1.Size).
 The document's own look at a formula (tallyref2.Formula) tells what is wrong with it: none, too many nodes, the first node that is wrong, who is not used by just one.
 What step and check of package fold answer, and slices.Clone over cells, called in whatever memory.
 Small facts on two numbers that lie in a block (a cell of the program in a variable), on worlds that grew, and on Of a number that may be told.
 What the document's own answers for cells (tallyref1: Cell, Of, Plus, Times, Over) come to: the same pure functions as the program's.
 A law's end by 'Below': where nothing old has turned and the row asks for no second call, the results, the arguments and the frame are enough.
-/
import Derived.Lib.ItoaMem
import Derived.Lib.AtoiTie
import Derived.Lib.Strings
import Derived.Test.YtjffbmejobjmjafGreatDoorJTAE
import Derived.Test.YtjffbmejobjmjafGreatDoorProg
import Derived.Deep.OwnRows
import Derived.Lib.Builder
import Derived.Test.YtjffbmejobjmjafGreatDoorJTAL
import Derived.Test.YtjffbmejobjmjafGreatDoorJTAC
import Derived.Test.YtjffbmejobjmjafGreatDoorJTAF
import Derived.Lib.SliceRun
import Derived.OwnWalk
import Derived.Sort.Walk0
import Derived.Test.YtjffbmejobjmjafGreatDoorJTAB
import Derived.WalkSpells
import Derived.WalkLawsBesides
import Derived.Deep.RegionHeld
import Derived.Deep.RegionHeld3
import Derived.Deep.DeepCutAuto
import Derived.Deep.RegionWith
import Derived.Deep.QuietTactic
import Derived.BigQuiet
import Derived.WalkKit
import Derived.ProofKit
import Derived.OpenShut
namespace Go.Proofs.YtjffbmejobjmjafGreatDoor
open Go.Lib

end Go.Proofs.YtjffbmejobjmjafGreatDoor

namespace Go.Proofs.YtjffbmejobjmjafGreatDoor

def numTo (D : Nat → Dm) (P : Nat → Nat) : Nat → Nat
 | 0 => 0
 | k + 1 => numTo D P k * (D k).n + P k
theorem numTo_lt {D : Nat → Dm} {P : Nat → Nat} (k : Nat) (h : ∀ j, j < k → P j < (D j).n) : numTo D P k < prodN D k := by
 induction k with
 | zero => exact Nat.one_pos
 | succ k ih =>
  have h1 := ih fun j hj => h j (by omega)
  have h2 := h k (by omega)
  rw [numTo, prodN]
  have h3 : (numTo D P k + 1) * (D k).n ≤ prodN D k * (D k).n := Nat.mul_le_mul_right _ h1
  rw [Nat.add_mul] at h3
  omega
def restAt (D : Nat → Dm) (m n : Nat) : Nat → Nat
 | 0 => n
 | r + 1 => restAt D m n r / (D (m - 1 - r)).n
def digitAt (D : Nat → Dm) (m n k : Nat) : Nat := restAt D m n (m - 1 - k) % (D k).n
theorem restAt_num {D : Nat → Dm} {P : Nat → Nat} {m : Nat} (h : ∀ j, j < m → P j < (D j).n) (r : Nat) : r ≤ m → restAt D m (numTo D P m) r = numTo D P (m - r) := by
 induction r with
 | zero => intro _; rfl
 | succ r ih =>
  intro hr
  rw [restAt, ih (by omega)]
  have e : m - r = (m - 1 - r) + 1 := by omega
  rw [e, numTo, show m - (r + 1) = m - 1 - r by omega]
  have hp := h (m - 1 - r) (by omega)
  rw [Nat.mul_comm, Nat.mul_add_div (by omega), Nat.div_eq_of_lt hp, Nat.add_zero]
theorem digit_num {D : Nat → Dm} {P : Nat → Nat} {m : Nat} (h : ∀ j, j < m → P j < (D j).n) {k : Nat} (hk : k < m) : digitAt D m (numTo D P m) k = P k := by
 unfold digitAt
 rw [restAt_num h _ (by omega), show m - (m - 1 - k) = k + 1 by omega, numTo]
 have hp := h k hk
 rw [Nat.mul_comm, Nat.mul_add_mod, Nat.mod_eq_of_lt hp]
theorem num_digit {D : Nat → Dm} {m n : Nat} (hn : n < prodN D m) (k : Nat) : k ≤ m → numTo D (digitAt D m n) k = restAt D m n (m - k) := by
 have hlt : ∀ r, r ≤ m → restAt D m n r < prodN D (m - r) := by
  intro r
  induction r with
  | zero => intro _; exact hn
  | succ r ih =>
   intro hr
   have h1 := ih (by omega)
   have e : m - r = (m - 1 - r) + 1 := by omega
   rw [e, prodN] at h1
   rw [restAt, show m - (r + 1) = m - 1 - r by omega]
   exact Nat.div_lt_of_lt_mul (by rw [Nat.mul_comm]; exact h1)
 induction k with
 | zero =>
  intro _
  have h1 := hlt m (Nat.le_refl _)
  rw [Nat.sub_self] at h1
  have h2 : prodN D 0 = 1 := rfl
  rw [numTo, Nat.sub_zero]
  omega
 | succ k ih =>
  intro hk
  rw [numTo, ih (by omega)]
  have e : m - k = (m - 1 - k) + 1 := by omega
  rw [e, restAt, show m - 1 - (m - 1 - k) = k by omega, show m - (k + 1) = m - 1 - k by omega]
  unfold digitAt
  have := Nat.div_add_mod (restAt D m n (m - 1 - k)) (D k).n
  rw [Nat.mul_comm] at this
  exact this
theorem num_back {D : Nat → Dm} {m n : Nat} (hn : n < prodN D m) : numTo D (digitAt D m n) m = n := by
 rw [num_digit hn m (Nat.le_refl _), Nat.sub_self]; rfl
theorem digit_lt {D : Nat → Dm} {m n k : Nat} (h : 1 ≤ (D k).n) : digitAt D m n k < (D k).n := Nat.mod_lt _ h
end Go.Proofs.YtjffbmejobjmjafGreatDoor

namespace Go.Proofs.YtjffbmejobjmjafGreatDoor

end Go.Proofs.YtjffbmejobjmjafGreatDoor

namespace Go.Proofs.YtjffbmejobjmjafGreatDoor

def outP (D : Nat → Dm) (L : List Int) (i : Nat) : Bool := decide (L.getD i 0 < 0) || decide (((D i).n : Int) ≤ L.getD i 0)
def shapeErr (D : Nat → Dm) (n : Nat) (L : List Int) : Int := if L.length ≠ n then 3 else if 0 ≤ findFrom (outP D L) n 0 then 1 else 0
def placeErr (D : Nat → Dm) (n : Nat) (L : List Int) : Int := if (allErr D n).2.2 ≠ 0 then (allErr D n).2.2 else shapeErr D n L

theorem sh0 {D : Nat → Dm} {n : Nat} {L : List Int} (h : L.length ≠ n) : shapeErr D n L = 3 := by unfold shapeErr; rw [if_pos h]
theorem sh1 {D : Nat → Dm} {n : Nat} {L : List Int} (h : L.length = n) (h1 : 0 ≤ findFrom (outP D L) n 0) : shapeErr D n L = 1 := by unfold shapeErr; rw [if_neg (by simpa using h), if_pos h1]
theorem sh2 {D : Nat → Dm} {n : Nat} {L : List Int} (h : L.length = n) (h1 : ¬ 0 ≤ findFrom (outP D L) n 0) : shapeErr D n L = 0 := by unfold shapeErr; rw [if_neg (by simpa using h), if_neg h1]
theorem pe0 {D : Nat → Dm} {n : Nat} {L : List Int} (h : (allErr D n).2.2 ≠ 0) : placeErr D n L = (allErr D n).2.2 := by unfold placeErr; rw [if_pos h]
theorem pe1 {D : Nat → Dm} {n : Nat} {L : List Int} (h : (allErr D n).2.2 = 0) : placeErr D n L = shapeErr D n L := by unfold placeErr; rw [if_neg (by simpa using h)]

structure InO (D : Nat → Dm) (n : Nat) (L : List Int) : Prop where
 right : (allErr D n).2.2 = 0
 len : L.length = n
 lo : ∀ i, i < n → 0 ≤ L.getD i 0
 hi : ∀ i, i < n → L.getD i 0 < ((D i).n : Int)

theorem allErr_some {D : Nat → Dm} {n : Nat} (h : (allErr D n).2.2 = 0) : 1 ≤ n ∧ n ≤ 4 ∧ prodN D n ≤ 3000 ∧ ∀ i, i < n → 1 ≤ (D i).n ∧ (D i).n ≤ 12 := by
 have h4 := allErr_right h
 unfold allErr at h
 split at h
 ·simp at h
 ·split at h
  ·simp at h
  ·split at h
   ·rename_i h3; exact absurd h h3
   ·split at h
    ·simp at h
    ·rename_i a b c d
     exact ⟨by omega, by omega, by omega, fun i hi => ⟨(dimErr_right (h4.2 i hi)).2.1, (dimErr_right (h4.2 i hi)).2.2.1⟩⟩

theorem inO_of {D : Nat → Dm} {n : Nat} {L : List Int} (h : placeErr D n L = 0) : InO D n L := by
 unfold placeErr at h
 split at h
 ·rename_i h1; exact absurd h h1
 ·rename_i h1
  unfold shapeErr at h
  split at h
  ·cases h
  ·split at h
   ·cases h
   ·rename_i h2 h3
    have hn : ∀ i, i < n → outP D L i = false := fun i hi => by
     rcases findFrom_cases (outP D L) n 0 with ⟨_, h4⟩ | ⟨k, h4, _⟩
     ·exact h4 i (Nat.zero_le _) (by omega)
     ·rw [h4] at h3; omega
    exact ⟨by simpa using h1, by simpa using h2, fun i hi => by have := hn i hi; simp [outP, -List.getD_eq_getElem?_getD] at this; omega, fun i hi => by have := hn i hi; simp [outP, -List.getD_eq_getElem?_getD] at this; omega⟩
theorem InO.ok {D : Nat → Dm} {n : Nat} {L : List Int} (h : InO D n L) : placeErr D n L = 0 := by
 rw [pe1 h.right, sh2 h.len]
 rw [findFrom_none]
 ·decide
 ·intro j _ hj
  have h1 := h.lo j (by omega)
  have h2 := h.hi j (by omega)
  simp [outP, -List.getD_eq_getElem?_getD]
  omega

def numI (D : Nat → Dm) (L : List Int) : Nat → Int
 | 0 => 0
 | k + 1 => numI D L k * ((D k).n : Int) + L.getD k 0
theorem numI_nat {D : Nat → Dm} {L : List Int} (k : Nat) (h : ∀ i, i < k → 0 ≤ L.getD i 0) : numI D L k = (numTo D (fun i => (L.getD i 0).toNat) k : Int) := by
 induction k with
 | zero => rfl
 | succ k ih =>
  have := h k (by omega)
  rw [numI, numTo, ih fun i hi => h i (by omega), Int.natCast_add, Int.natCast_mul, Int.toNat_of_nonneg this]
theorem prodN_small {D : Nat → Dm} {k : Nat} (h : ∀ j, j < k → (D j).n ≤ 12) (hk : k ≤ 4) : prodN D k ≤ 20736 := by
 have h1 := prodN_le h
 have h2 : 12 ^ k ≤ 12 ^ 4 := Nat.pow_le_pow_right (by decide) hk
 have h3 : (12 : Nat) ^ 4 = 20736 := by decide
 omega
theorem numI_bound {D : Nat → Dm} {n : Nat} {L : List Int} (h : InO D n L) {k : Nat} (hk : k ≤ n) : 0 ≤ numI D L k ∧ numI D L k < (prodN D k : Int) ∧ prodN D k ≤ 20736 := by
 obtain ⟨_, h4, _, hd⟩ := allErr_some h.right
 rw [numI_nat k fun i hi => h.lo i (by omega)]
 have h1 := numTo_lt (D := D) (P := fun i => (L.getD i 0).toNat) k fun j hj => by
  have := h.lo j (by omega)
  have := h.hi j (by omega)
  omega
 refine ⟨by omega, by omega, prodN_small (fun j hj => (hd j (by omega)).2) (by omega)⟩

def numV (D : Nat → Dm) (n : Nat) (L : List Int) : Int := if placeErr D n L = 0 then numI D L n else 0

def digL (D : Nat → Dm) (n x r : Nat) : List Int := (List.range n).map fun j => if n - r ≤ j then (digitAt D n x j : Int) else 0
def placeL (D : Nat → Dm) (n x : Nat) : List Int := (List.range n).map fun j => (digitAt D n x j : Int)
theorem digL_len (D : Nat → Dm) (n x r : Nat) : (digL D n x r).length = n := by simp [digL]
theorem placeL_len (D : Nat → Dm) (n x : Nat) : (placeL D n x).length = n := by simp [placeL]
theorem digL_zero (D : Nat → Dm) (n x : Nat) : digL D n x 0 = List.replicate n 0 := by
 apply List.ext_getElem
 ·simp [digL]
 ·intro i h1 h2
  simp [digL] at h1 ⊢
  omega
theorem digL_all (D : Nat → Dm) (n x : Nat) : digL D n x n = placeL D n x := by simp [digL, placeL]
theorem digL_set (D : Nat → Dm) (n x r : Nat) (hr : r < n) : (digL D n x r).set (n - 1 - r) (digitAt D n x (n - 1 - r) : Int) = digL D n x (r + 1) := by
 apply List.ext_getElem
 ·simp [digL]
 ·intro i h1 h2
  simp only [digL, List.length_set, List.length_map, List.length_range] at h1
  rw [List.getElem_set]
  simp only [digL, List.getElem_map, List.getElem_range]
  by_cases h3 : n - 1 - r = i
  ·subst h3
   rw [if_pos rfl, if_pos (by omega)]
  ·rw [if_neg h3]
   by_cases h4 : n - r ≤ i
   ·rw [if_pos h4, if_pos (by omega)]
   ·rw [if_neg h4, if_neg (by omega)]
theorem placeL_at {D : Nat → Dm} {n x i : Nat} (h : i < n) : (placeL D n x).getD i 0 = (digitAt D n x i : Int) := by
 simp [placeL, List.getD, h]
theorem placeL_in {D : Nat → Dm} {n x : Nat} (h : (allErr D n).2.2 = 0) : InO D n (placeL D n x) := by
 obtain ⟨_, _, _, hd⟩ := allErr_some h
 exact ⟨h, placeL_len .., fun i hi => by rw [placeL_at hi]; omega, fun i hi => by rw [placeL_at hi]; have := digit_lt (D := D) (m := n) (n := x) (k := i) (hd i hi).1; omega⟩
theorem numTo_same {D : Nat → Dm} {P Q : Nat → Nat} (k : Nat) (h : ∀ i, i < k → P i = Q i) : numTo D P k = numTo D Q k := by
 induction k with
 | zero => rfl
 | succ k ih => rw [numTo, numTo, ih fun i hi => h i (by omega), h k (by omega)]
theorem num_place {D : Nat → Dm} {n x : Nat} (h : (allErr D n).2.2 = 0) (hx : x < prodN D n) : numI D (placeL D n x) n = (x : Int) := by
 rw [numI_nat n (placeL_in h).lo, numTo_same (Q := digitAt D n x) n fun i hi => by rw [placeL_at hi]; omega, num_back hx]
theorem place_num {D : Nat → Dm} {n : Nat} {L : List Int} (h : InO D n L) : placeL D n (numI D L n).toNat = L := by
 have h1 : ∀ j, j < n → (L.getD j 0).toNat < (D j).n := fun j hj => by have := h.lo j hj; have := h.hi j hj; omega
 rw [numI_nat n h.lo, Int.toNat_natCast]
 apply List.ext_getElem
 ·rw [placeL_len, h.len]
 ·intro i h2 h3
  rw [placeL_len] at h2
  have h4 := digit_num h1 h2
  have h5 := h.lo i h2
  have h6 : L.getD i 0 = L[i] := by simp [List.getD, h3]
  simp only [placeL, List.getElem_map, List.getElem_range]
  rw [h4, ← h6]
  omega

end Go.Proofs.YtjffbmejobjmjafGreatDoor

namespace Go.Proofs.YtjffbmejobjmjafGreatDoor
open Go.ChangeShapes Go.WideShapes Go.ChangeAt Go.RowKit
set_option maxRecDepth 20000

def PlAt (w : World) (A : Option Addr) (cap : Nat) (L : List Int) : Prop := L.length ≤ cap ∧ (L = [] ∨ ∃ b o, A = some ⟨b, o, none⟩ ∧ b < w.heap.size ∧ ∀ j, j < L.length → w.cell? ⟨b, o + j, none⟩ = some (.int .i64 (L.getD j 0)))
theorem PlAt.later {w w' : World} {A : Option Addr} {cap : Nat} {L : List Int} (h : PlAt w A cap L) (hB : Below w.heap.size w w') : PlAt w' A cap L := by
 obtain ⟨h1, h2 | ⟨b, o, h2, h3, h4⟩⟩ := h
 ·exact ⟨h1, Or.inl h2⟩
 ·exact ⟨h1, Or.inr ⟨b, o, h2, Nat.lt_of_lt_of_le h3 hB.size, fun j hj => (hB.cell (p := ⟨b, o + j, none⟩) h3).trans (h4 j hj)⟩⟩
theorem PlAt.nil (w : World) (A : Option Addr) (cap : Nat) : PlAt w A cap [] := ⟨Nat.zero_le _, Or.inl rfl⟩

def IntB (w : World) (g : Nat) (L : List Int) : Prop := w.heap[g]? = some (.cells (L.map (Value.int .i64)).toArray 3 (0, 0))
theorem IntB.lt {w : World} {g : Nat} {L : List Int} (h : IntB w g L) : g < w.heap.size := (Array.getElem?_eq_some_iff.1 h).1
theorem IntB.cell {w : World} {g : Nat} {L : List Int} (h : IntB w g L) {j : Nat} (hj : j < L.length) : w.cell? ⟨g, j, none⟩ = some (.int .i64 (L.getD j 0)) := by
 rw [Lib.cell_of_heap h]
 simp [List.getD, hj]
theorem IntB.frozen {w : World} {g : Nat} {L : List Int} (h : IntB w g L) (j : Nat) : w.frozen? ⟨g, j, none⟩ = false := Lib.frozen_of_heap h j
theorem IntB.later {w w' : World} {g : Nat} {L : List Int} (h : IntB w g L) (hB : Below w.heap.size w w') : IntB w' g L := (hB.block g h.lt).trans h
theorem IntB.set {w : World} {g : Nat} {L : List Int} (h : IntB w g L) (j : Nat) (x : Int) : IntB (w.setCell ⟨g, j, none⟩ (.int .i64 x)) g (L.set j x) := by
 unfold IntB at *
 have e : (L.set j x).map (Value.int .i64) = (L.map (Value.int .i64)).set j (.int .i64 x) := by rw [List.map_set]
 simp [World.setCell, Array.getElem?_modify, h, e]
theorem IntB.pl {w : World} {g : Nat} {L : List Int} (h : IntB w g L) : PlAt w (some ⟨g, 0, none⟩) L.length L :=
 ⟨Nat.le_refl _, Or.inr ⟨g, 0, rfl, h.lt, fun j hj => by rw [Nat.zero_add]; exact h.cell hj⟩⟩
theorem made_ints (n : Nat) : madeCells #[.int .i64 0] n = ((List.replicate n (0 : Int)).map (Value.int .i64)).toArray := by
 apply Array.ext
 ·simp [madeCells]
 ·intro i h1 h2
  simp [madeCells, Nat.mod_one]
theorem IntB.made (w : World) (n : Nat) : IntB (w.alloc (.cells (madeCells #[.int .i64 0] n) 3)) w.heap.size (List.replicate n 0) := by
 unfold IntB
 rw [made_ints]
 exact heap_alloc_new w _
theorem Tryz.infoIntP : (Tryz.prog.info? 3).map (fun i => (i.zero, i.size, i.bytes)) = some (some (.int .i64 0), 1, 8) := by kernel_rfl

theorem checko_any (A0 : Option Addr) (cap n : Nat) (D : Nat → Dm) (A : Nat → Option Addr) (C : Nat → Nat) (w : World) (hM : DimsV w A0 cap n D A C) : Calls Tryz.prog 101 #[.agg #[.slice A0 n cap]] w fun e w' => e = .returned (errV (allErr D n).2.2) ∧ Below w.heap.size w w' := by
 have hB0 := ownOut_below w A0 n cap 42
 have h := all_any A0 cap n D A C (ownOut w A0 n cap 42) (hM.later hB0)
 have HB0 : Hid (Below w.heap.size w (ownOut w A0 n cap 42)) := hB0
 clear hM hB0
 generalize errV (allErr D n).2.2 = v at h
 generalize (allErr D n).1 = x at h
 generalize (allErr D n).2.1 = y at h
 go_enter Tryz.func101, Tryz.ntmps101
 go_wp2_with fail
 refine h.mono ?_
 rintro e w1 ⟨rfl, hb1⟩
 go_wp2_with fail
 go_ret
 exact ⟨rfl, onB HB0.out hb1⟩

def cellsV (D : Nat → Dm) (n : Nat) : Int := if (allErr D n).2.2 = 0 then (prodN D n : Int) else 0

set_option maxHeartbeats 2000000 in
theorem pcells_any (A0 : Option Addr) (cap n : Nat) (D : Nat → Dm) (A : Nat → Option Addr) (C : Nat → Nat) (w : World) (hM : DimsV w A0 cap n D A C) : Calls Tryz.prog 64 #[.agg #[.slice A0 n cap]] w fun e w' => e = .returned (.tuple #[.int .i64 (cellsV D n), errV (allErr D n).2.2]) ∧ Below w.heap.size w w' := by
 have hB0 := ownOut_below w A0 n cap 42
 have h := checko_any A0 cap n D A C (ownOut w A0 n cap 42) (hM.later hB0)
 have HB0 : Hid (Below w.heap.size w (ownOut w A0 n cap 42)) := hB0
 have HM : Hid (DimsV w A0 cap n D A C) := hM
 clear hM hB0
 by_cases he : (allErr D n).2.2 = 0
 ·obtain ⟨hn1, hn4, -, hd⟩ := allErr_some he
  have HV : Hid (cellsV D n = (prodN D n : Int)) := by show _ = _; unfold cellsV; rw [if_pos he]
  have HE : Hid (errV (allErr D n).2.2 = .nilIface) := by show _ = _; rw [he]; rfl
  rw [he, errV_zero] at h
  have HD : Hid (∀ i, i < n → 1 ≤ (D i).n ∧ (D i).n ≤ 12) := hd
  have hn' : (n : Int) ≤ 4 := by omega
  clear he hd
  go_enter Tryz.func64, Tryz.ntmps64
  go_wp2_with fail
  refine h.mono ?_
  rintro e w1 ⟨rfl, hb1⟩
  have hB : Below w.heap.size w w1 := onB HB0.out hb1
  have h2 : w1.cell? ⟨w.heap.size, 0, none⟩ = some (.slice A0 n cap) := (hb1.cell (p := ⟨w.heap.size, 0, none⟩) (by show w.heap.size < _; rw [ownOut_size]; omega)).trans (ownOut_at ..)
  obtain ⟨hcap, h0 | ⟨b, o, rfl, hMs⟩⟩ := HM.out.later hB
  ·omega
  have HMs : Hid (DimsAt w1 b o n D A C) := hMs
  have HB : Hid (Below w.heap.size w w1) := hB
  clear hb1 h hMs hB
  go_wp2_with fail
  go_loopg [5, 16] n (fun g s5 s16 wr => ∃ (k : Nat), k ≤ n ∧ g = n - k ∧ s16 = .int .i64 k ∧ s5 = .int .i64 (prodN D k) ∧ Below w1.heap.size w1 wr)
  case atStart => exact ⟨0, Nat.zero_le _, rfl, rfl, rfl, Below.refl _ _⟩
  case round =>
   obtain ⟨k, hk, rfl, rfl, rfl, hBw⟩ := hrel
   by_cases hlt : k < n
   ·obtain ⟨h0, h1, h3, -⟩ := (HMs.out.later hBw).2 k hlt
    have hki : (k : Int) < (n : Int) := by omega
    have hp1 : prodN D (k + 1) ≤ 20736 := prod_small (fun j hj => (HD.out j (by omega)).2) (by omega)
    have hp2 : (prodN D (k + 1) : Int) = (prodN D k : Int) * ((D k).n : Int) := by rw [prodN]; exact Int.natCast_mul _ _
    have hp3 : 0 ≤ (prodN D k : Int) * ((D k).n : Int) := by omega
    have hp4 : (prodN D k : Int) * ((D k).n : Int) ≤ 20736 := by omega
    have HW : Hid (Below w1.heap.size w1 wr) := hBw
    have HP : Hid ((prodN D (k + 1) : Int) = (prodN D k : Int) * ((D k).n : Int)) := hp2
    clear hBw hp1 hp2
    go_wp2_with fail
    go_roundg (n - (k + 1))
    case measure => omega
    case rel => exact ⟨k + 1, by omega, rfl, by go_num, by rw [HP.out], onB HW.out (by go_grown)⟩
   ·have hke : k = n := by omega
    subst hke
    go_wp2_with fail
    go_ret2
    rw [HV.out, HE.out]
    exact ⟨rfl, onB HB.out hBw⟩
 ·have HV : Hid (cellsV D n = 0) := by show _ = _; unfold cellsV; rw [if_neg he]
  have HE : Hid (errV (allErr D n).2.2 = .iface 65 (.int .i64 (allErr D n).2.2)) := errV_some he
  rw [errV_some he] at h
  clear he
  generalize (allErr D n).2.2 = c at h HE
  go_enter Tryz.func64, Tryz.ntmps64
  go_wp2_with fail
  refine h.mono ?_
  rintro e w1 ⟨rfl, hb1⟩
  go_wp2_with fail
  go_ret2
  rw [HV.out, HE.out]
  exact ⟨rfl, onB HB0.out hb1⟩

theorem wrap_small {q : Nat} (h : q ≤ 3000) : wrap64 (q : Int) = q := by unfold wrap64; omega
theorem restAt_le (D : Nat → Dm) (m n r : Nat) : restAt D m n r ≤ n := by
 induction r with
 | zero => exact Nat.le_refl _
 | succ r ih => rw [restAt]; exact Nat.le_trans (Nat.div_le_self _ _) ih

end Go.Proofs.YtjffbmejobjmjafGreatDoor

namespace Go.Proofs.YtjffbmejobjmjafGreatDoor
open Go.ChangeShapes Go.WideShapes Go.ChangeAt Go.RowKit

def joinP (blank : Bool) (ka kb : Int) (r : Int × Int) : Int × Int := if ka = 2 ∨ kb = 2 then (2, 0) else if blank = true then (0, 0) else r
def JoinsTo (fb fo : Nat) (ka na kb nb k n : Int) (er : Value) : Prop := ∀ (w : World), Calls Tryz.prog 173 #[.agg #[.int .i64 ka, .int .i64 na], .agg #[.int .i64 kb, .int .i64 nb], .func (.func fb) #[] #[], .func (.func fo) #[] #[]] w fun e w' => e = .returned (.tuple #[.agg #[.int .i64 k, .int .i64 n], er]) ∧ Below w.heap.size w w'
def OpTo (f : Nat) (ka na kb nb k n : Int) (er : Value) : Prop := ∀ (w : World), Calls Tryz.prog f #[.agg #[.int .i64 ka, .int .i64 na], .agg #[.int .i64 kb, .int .i64 nb]] w fun e w' => e = .returned (.tuple #[.agg #[.int .i64 k, .int .i64 n], er]) ∧ Below w.heap.size w w'

theorem joins_yes (fb fo : Nat) (p : Int → Int → Bool) (he : Enters fb) (hp : Blank fb p) (heo : Enters fo) (ka na kb nb : Int) (ha : good ka na = true) (hb : good kb nb = true) (r : Int × Int) (ho : Makes fo na nb r) :
  JoinsTo fb fo ka na kb nb (joinP (p ka kb) ka kb r).1 (joinP (p ka kb) ka kb r).2 .nilIface := by
 intro w
 unfold joinP
 by_cases hf : ka = 2 ∨ kb = 2
 ·rw [if_pos hf]
  exact join_fault _ _ ka na kb nb w ha hb (by simp; exact hf)
 ·rw [if_neg hf]
  have hff : ((fun k : Int => k == 2) ka || (fun k : Int => k == 2) kb) = false := by simp; omega
  cases hpp : p ka kb
  ·rw [if_neg (by simp)]
   exact join_made fb fo p he hp heo ka na kb nb w ha hb r ho hff hpp
  ·rw [if_pos rfl]
   exact join_blank fb p he hp _ ka na kb nb w ha hb hff hpp
theorem good_bd {k n : Int} (h : good k n = true) : -1000000000000 ≤ n ∧ n ≤ 1000000000000 := by simp [good] at h; omega

def plusP (ka na kb nb : Int) : Int × Int := joinP (!(ka != 0 || kb != 0)) ka kb (ofP (na + nb))
def minusP (ka na kb nb : Int) : Int × Int := joinP (!(ka != 0 || kb != 0)) ka kb (ofP (na - nb))
def timesP (ka na kb nb : Int) : Int × Int := joinP (ka == 0 || kb == 0) ka kb (ofP (na * nb))
def overP (ka na kb nb : Int) : Int × Int := joinP (ka == 0 || kb == 0) ka kb (quoP na nb)

theorem add_of (ka na kb nb k n : Int) (er : Value) (h : JoinsTo 174 176 ka na kb nb k n er) : OpTo 142 ka na kb nb k n er := by
 intro w
 unfold JoinsTo at h
 go_enter Tryz.func142, Tryz.ntmps142
 go_wp2_with fail
 refine (h _).mono ?_
 rintro e w1 ⟨rfl, hb⟩
 have hB : Below w.heap.size w w1 := Below.trans (by go_grown) (hb.mono (by simp; omega))
 obtain ⟨hc, hf⟩ := bcell hb
 have hz := bsize hb
 simp at hz
 go_wp2_with fail
 refine bodyPost_ret (v := .tuple #[.agg #[.int .i64 k, .int .i64 n], er]) (by simp [results, Tryz.results142, go_sem, hc]) rfl ⟨rfl, ?_⟩
 go_grown
theorem add_yes (ka na kb nb : Int) (ha : good ka na = true) (hb : good kb nb = true) : OpTo 142 ka na kb nb (plusP ka na kb nb).1 (plusP ka na kb nb).2 .nilIface := by
 obtain ⟨h1, h2⟩ := good_bd ha
 obtain ⟨h3, h4⟩ := good_bd hb
 exact add_of _ _ _ _ _ _ _ (joins_yes _ _ _ both_in both_any plus_in ka na kb nb ha hb _ (plus_any na nb h1 h2 h3 h4))
theorem sub_of (ka na kb nb k n : Int) (er : Value) (h : JoinsTo 174 175 ka na kb nb k n er) : OpTo 141 ka na kb nb k n er := by
 intro w
 unfold JoinsTo at h
 go_enter Tryz.func141, Tryz.ntmps141
 go_wp2_with fail
 refine (h _).mono ?_
 rintro e w1 ⟨rfl, hb⟩
 have hB : Below w.heap.size w w1 := Below.trans (by go_grown) (hb.mono (by simp; omega))
 obtain ⟨hc, hf⟩ := bcell hb
 have hz := bsize hb
 simp at hz
 go_wp2_with fail
 refine bodyPost_ret (v := .tuple #[.agg #[.int .i64 k, .int .i64 n], er]) (by simp [results, Tryz.results141, go_sem, hc]) rfl ⟨rfl, ?_⟩
 go_grown
theorem sub_yes (ka na kb nb : Int) (ha : good ka na = true) (hb : good kb nb = true) : OpTo 141 ka na kb nb (minusP ka na kb nb).1 (minusP ka na kb nb).2 .nilIface := by
 obtain ⟨h1, h2⟩ := good_bd ha
 obtain ⟨h3, h4⟩ := good_bd hb
 exact sub_of _ _ _ _ _ _ _ (joins_yes _ _ _ both_in both_any minus_in ka na kb nb ha hb _ (minus_any na nb h1 h2 h3 h4))
theorem mul_of (ka na kb nb k n : Int) (er : Value) (h : JoinsTo 227 228 ka na kb nb k n er) : OpTo 201 ka na kb nb k n er := by
 intro w
 unfold JoinsTo at h
 go_enter Tryz.func201, Tryz.ntmps201
 go_wp2_with fail
 refine (h _).mono ?_
 rintro e w1 ⟨rfl, hb⟩
 have hB : Below w.heap.size w w1 := Below.trans (by go_grown) (hb.mono (by simp; omega))
 obtain ⟨hc, hf⟩ := bcell hb
 have hz := bsize hb
 simp at hz
 go_wp2_with fail
 refine bodyPost_ret (v := .tuple #[.agg #[.int .i64 k, .int .i64 n], er]) (by simp [results, Tryz.results201, go_sem, hc]) rfl ⟨rfl, ?_⟩
 go_grown
theorem mul_yes (ka na kb nb : Int) (ha : good ka na = true) (hb : good kb nb = true) : OpTo 201 ka na kb nb (timesP ka na kb nb).1 (timesP ka na kb nb).2 .nilIface := by
 obtain ⟨h1, h2⟩ := good_bd ha
 obtain ⟨h3, h4⟩ := good_bd hb
 exact mul_of _ _ _ _ _ _ _ (joins_yes _ _ _ one_in one_any product_in ka na kb nb ha hb _ (product_any na nb h1 h2 h3 h4))
theorem div_of (ka na kb nb k n : Int) (er : Value) (h : JoinsTo 227 229 ka na kb nb k n er) : OpTo 202 ka na kb nb k n er := by
 intro w
 unfold JoinsTo at h
 go_enter Tryz.func202, Tryz.ntmps202
 go_wp2_with fail
 refine (h _).mono ?_
 rintro e w1 ⟨rfl, hb⟩
 have hB : Below w.heap.size w w1 := Below.trans (by go_grown) (hb.mono (by simp; omega))
 obtain ⟨hc, hf⟩ := bcell hb
 have hz := bsize hb
 simp at hz
 go_wp2_with fail
 refine bodyPost_ret (v := .tuple #[.agg #[.int .i64 k, .int .i64 n], er]) (by simp [results, Tryz.results202, go_sem, hc]) rfl ⟨rfl, ?_⟩
 go_grown
theorem div_yes (ka na kb nb : Int) (ha : good ka na = true) (hb : good kb nb = true) : OpTo 202 ka na kb nb (overP ka na kb nb).1 (overP ka na kb nb).2 .nilIface := by
 obtain ⟨h1, h2⟩ := good_bd ha
 obtain ⟨h3, h4⟩ := good_bd hb
 exact div_of _ _ _ _ _ _ _ (joins_yes _ _ _ one_in one_any quotient_in ka na kb nb ha hb _ (quotient_any na nb h1 h2))
end Go.Proofs.YtjffbmejobjmjafGreatDoor

namespace Go.Proofs.YtjffbmejobjmjafGreatDoor
open Go.ChangeShapes Go.WideShapes Go.ChangeAt Go.RowKit
set_option maxRecDepth 20000

def noC : Int × Int := (0, 0)
def cellsC : List (Int × Int) → List Value
 | [] => []
 | c :: r => .int .i64 c.1 :: .int .i64 c.2 :: cellsC r
theorem cellsC_append (a b : List (Int × Int)) : cellsC (a ++ b) = cellsC a ++ cellsC b := by
 induction a with
 | nil => rfl
 | cons x r ih => simp [cellsC, ih]
theorem cellsC_one (L : List (Int × Int)) : ∀ v ∈ cellsC L, v.oneCell' = true := by
 induction L with
 | nil => intro v hv; cases hv
 | cons x r ih =>
  intro v hv
  simp only [cellsC, List.mem_cons] at hv
  rcases hv with rfl | rfl | hv
  ·rfl
  ·rfl
  ·exact ih v hv
theorem cellsC_at (L : List (Int × Int)) : ∀ k, k < L.length → (cellsC L)[k * 2]? = some (.int .i64 (L.getD k noC).1) ∧ (cellsC L)[k * 2 + 1]? = some (.int .i64 (L.getD k noC).2) := by
 induction L with
 | nil => intro k hk; cases hk
 | cons x r ih =>
  intro k hk
  cases k with
  | zero => simp [cellsC]
  | succ k =>
   rw [show (k + 1) * 2 = k * 2 + 1 + 1 by omega]
   simp only [cellsC, List.getElem?_cons_succ, List.getD_cons_succ]
   exact ih k (by simpa using hk)
def CelAt (w : World) (b o : Nat) (L : List (Int × Int)) : Prop := b < w.heap.size ∧ ∀ k, k < L.length → w.cell? ⟨b, o + k * 2, none⟩ = some (.int .i64 (L.getD k noC).1) ∧ w.cell? ⟨b, o + k * 2 + 1, none⟩ = some (.int .i64 (L.getD k noC).2)
theorem CelAt.later {w w' : World} {b o : Nat} {L : List (Int × Int)} (h : CelAt w b o L) (hB : Below w.heap.size w w') : CelAt w' b o L :=
 ⟨Nat.lt_of_lt_of_le h.1 hB.size, fun k hk => ⟨(hB.cell (p := ⟨b, o + k * 2, none⟩) h.1).trans (h.2 k hk).1, (hB.cell (p := ⟨b, o + k * 2 + 1, none⟩) h.1).trans (h.2 k hk).2⟩⟩
def CelV (w : World) (A : Option Addr) (cap : Nat) (L : List (Int × Int)) : Prop := L.length ≤ cap ∧ cap ≤ 9223372036854775807 ∧ (L = [] ∨ ∃ b o, A = some ⟨b, o, none⟩ ∧ CelAt w b o L)
theorem CelV.later {w w' : World} {A : Option Addr} {cap : Nat} {L : List (Int × Int)} (h : CelV w A cap L) (hB : Below w.heap.size w w') : CelV w' A cap L := by
 obtain ⟨h1, h0, h2 | ⟨b, o, h2, h3⟩⟩ := h
 ·exact ⟨h1, h0, Or.inl h2⟩
 ·exact ⟨h1, h0, Or.inr ⟨b, o, h2, h3.later hB⟩⟩
theorem CelV.nil (w : World) (A : Option Addr) (cap : Nat) (h : cap ≤ 9223372036854775807) : CelV w A cap [] := ⟨Nat.zero_le _, h, Or.inl rfl⟩
def CelB (w : World) (g : Nat) (L : List (Int × Int)) : Prop := ∃ cur : Array Value, w.heap[g]? = some (.cells cur 48 (0, 0)) ∧ ∀ k, k < L.length → cur[k * 2]? = some (.int .i64 (L.getD k noC).1) ∧ cur[k * 2 + 1]? = some (.int .i64 (L.getD k noC).2)
section
variable {w w' : World} {g : Nat} {L : List (Int × Int)}
theorem CelB.lt (h : CelB w g L) : g < w.heap.size := by
 obtain ⟨cur, h1, _⟩ := h
 exact (Array.getElem?_eq_some_iff.1 h1).1
theorem CelB.same (h : CelB w g L) (hb : w'.heap[g]? = w.heap[g]?) : CelB w' g L := by
 obtain ⟨cur, h1, h2⟩ := h
 exact ⟨cur, hb.trans h1, h2⟩
theorem CelB.later (h : CelB w g L) (hB : Below w.heap.size w w') : CelB w' g L := h.same (hB.block g h.lt)
theorem CelB.at (h : CelB w g L) {k : Nat} (hk : k < L.length) : w.cell? ⟨g, k * 2, none⟩ = some (.int .i64 (L.getD k noC).1) ∧ w.cell? ⟨g, k * 2 + 1, none⟩ = some (.int .i64 (L.getD k noC).2) := by
 obtain ⟨cur, h1, h2⟩ := h
 obtain ⟨h3, h4⟩ := h2 k hk
 exact ⟨by simp [World.cell?, h1, h3], by simp [World.cell?, h1, h4]⟩
theorem CelB.frozen (h : CelB w g L) (j : Nat) : w.frozen? ⟨g, j, none⟩ = false := by
 obtain ⟨cur, h1, _⟩ := h
 exact Lib.frozen_of_heap h1 j
theorem CelB.celAt (h : CelB w g L) : CelAt w g 0 L := ⟨h.lt, fun k hk => by rw [Nat.zero_add]; exact h.at hk⟩
theorem CelB.set (h : CelB w g L) {x : Nat} (hx : x < L.length) (a b : Int) : CelB ((w.setCell ⟨g, x * 2, none⟩ (.int .i64 a)).setCell ⟨g, x * 2 + 1, none⟩ (.int .i64 b)) g (L.set x (a, b)) := by
 obtain ⟨cur, h1, h2⟩ := h
 refine ⟨(cur.setIfInBounds (x * 2) (.int .i64 a)).setIfInBounds (x * 2 + 1) (.int .i64 b), by simp [World.setCell, Array.getElem?_modify, h1], fun k hk => ?_⟩
 rw [List.length_set] at hk
 obtain ⟨h3, h4⟩ := h2 k hk
 obtain ⟨h5, h6⟩ := h2 x hx
 have z0 := (Array.getElem?_eq_some_iff.1 h5).1
 have z1 := (Array.getElem?_eq_some_iff.1 h6).1
 by_cases e : k = x
 ·subst e
  constructor
  ·rw [Array.getElem?_setIfInBounds_ne (by omega), Array.getElem?_setIfInBounds_self_of_lt z0]
   simp [List.getD, hk]
  ·rw [Array.getElem?_setIfInBounds_self_of_lt (by simpa using z1)]
   simp [List.getD, hk]
 ·have e1 : (L.set x (a, b)).getD k noC = L.getD k noC := by simp [List.getD, List.getElem?_set_ne (fun h => e h.symm)]
  rw [e1]
  constructor
  ·rw [Array.getElem?_setIfInBounds_ne (by omega), Array.getElem?_setIfInBounds_ne (by omega)]; exact h3
  ·rw [Array.getElem?_setIfInBounds_ne (by omega), Array.getElem?_setIfInBounds_ne (by omega)]; exact h4
theorem celB_own {base : Nat} {v : Value} (h : w.ownsRow base 48 2 v L.length (cellsC L)) (hl : 0 < L.length) : ∃ g c, v = .slice (some ⟨g, 0, none⟩) L.length c ∧ base ≤ g ∧ L.length ≤ c ∧ c ≤ 9223372036854775807 ∧ CelB w g L := by
 rcases h.2 with ⟨_, h0⟩ | ⟨g, cap, cur, rfl, hb, hg, h4, h5, h6, h7⟩
 ·omega
 ·refine ⟨g, cap, rfl, hb, h4, by unfold maxLen at h5; omega, cur, hg, fun k hk => ?_⟩
  obtain ⟨x0, x1⟩ := cellsC_at L k hk
  rw [← h7, List.getElem?_take, if_pos (by omega), Array.getElem?_toList] at x0 x1
  exact ⟨x0, x1⟩
end
theorem Tryz.infoCe : (Tryz.prog.info? 48).map (fun i => (i.zero, i.size, i.bytes)) = some (some (.agg #[.int .i64 0, .int .i64 0]), 2, 16) := by kernel_rfl

def goodB (L : List (Int × Int)) (k : Nat) : Bool := !(good (L.getD k noC).1 (L.getD k noC).2)
end Go.Proofs.YtjffbmejobjmjafGreatDoor

namespace Go.Proofs.YtjffbmejobjmjafGreatDoor

def noS : ByteArray := ⟨#[]⟩
def okC (c : Int × Int) : Prop := good c.1 c.2 = true
theorem okC_no : okC noC := rfl
theorem okC_ofP (n : Int) : okC (ofP n) := by
 unfold okC ofP good
 split
 ·rename_i h; simp [h.1, h.2]
 ·simp
theorem okC_quo (x y : Int) : okC (quoP x y) := by
 unfold quoP
 split
 ·rfl
 ·exact okC_ofP _
theorem okC_join (b : Bool) (ka kb : Int) {r : Int × Int} (h : okC r) : okC (joinP b ka kb r) := by
 unfold joinP
 split
 ·rfl
 ·split
  ·rfl
  ·exact h
def opP (o : Int) (a b : Int × Int) : Int × Int := if o = 3 then plusP a.1 a.2 b.1 b.2 else if o = 4 then minusP a.1 a.2 b.1 b.2 else if o = 5 then timesP a.1 a.2 b.1 b.2 else overP a.1 a.2 b.1 b.2
theorem opP_ok (o : Int) (a b : Int × Int) : okC (opP o a b) := by
 unfold opP
 split
 ·exact okC_join _ _ _ (okC_ofP _)
 ·split
  ·exact okC_join _ _ _ (okC_ofP _)
  ·split
   ·exact okC_join _ _ _ (okC_ofP _)
   ·exact okC_join _ _ _ (okC_quo _ _)
def isS (N : List ByteArray) (s : ByteArray) (i : Nat) : Bool := decide (N.getD i noS = s)
def whereS (N : List ByteArray) (s : ByteArray) : Int := findFrom (isS N s) N.length 0
theorem where_cases (N : List ByteArray) (s : ByteArray) : (whereS N s = -1 ∧ ∀ j, j < N.length → N.getD j noS ≠ s) ∨ ∃ i : Nat, whereS N s = (i : Int) ∧ i < N.length ∧ N.getD i noS = s := by
 unfold whereS
 rcases findFrom_cases (isS N s) N.length 0 with ⟨h1, h2⟩ | ⟨m, h1, h2, h3, h4, h5⟩
 ·left
  refine ⟨h1, fun j hj => ?_⟩
  have := h2 j (Nat.zero_le _) (by omega)
  simpa [isS] using this
 ·right
  exact ⟨m, h1, by omega, of_decide_eq_true h4⟩

def downS (N : List ByteArray) (i : Nat) : Bool := Op.bytesLess (N.getD i noS).toList (N.getD (i - 1) noS).toList || (N.getD i noS).toList == (N.getD (i - 1) noS).toList
def ckErr (N : List ByteArray) (C : List (Int × Int)) : Int := if C.length ≠ N.length then 3 else if 0 ≤ findFrom (goodB C) C.length 0 then 1 else if 0 ≤ findFrom (downS N) (N.length - 1) 1 then 7 else 0
theorem ck_shape {N : List ByteArray} {C : List (Int × Int)} (h : C.length ≠ N.length) : ckErr N C = 3 := by unfold ckErr; rw [if_pos h]
theorem ck_cell {N : List ByteArray} {C : List (Int × Int)} (h : C.length = N.length) {i : Nat} (hi : i < C.length) (hb : goodB C i = true) : ckErr N C = 1 := by
 unfold ckErr
 rw [if_neg (by simpa using h)]
 rcases findFrom_cases (goodB C) C.length 0 with ⟨_, h5⟩ | ⟨m, e, _⟩
 ·rw [h5 i (Nat.zero_le _) (by omega)] at hb; cases hb
 ·rw [e, if_pos (by omega)]
theorem ck_down {N : List ByteArray} {C : List (Int × Int)} (h : C.length = N.length) (hg : ∀ j, j < C.length → goodB C j = false) {i : Nat} (h1 : 1 ≤ i) (hi : i < N.length) (hb : downS N i = true) : ckErr N C = 7 := by
 unfold ckErr
 rw [if_neg (by simpa using h), findFrom_none (fun j _ hj => hg j (by omega)), if_neg (by omega)]
 rcases findFrom_cases (downS N) (N.length - 1) 1 with ⟨_, h5⟩ | ⟨m, e, _⟩
 ·rw [h5 i h1 (by omega)] at hb; cases hb
 ·rw [e, if_pos (by omega)]
theorem ck_good {N : List ByteArray} {C : List (Int × Int)} (h : C.length = N.length) (hg : ∀ j, j < C.length → goodB C j = false) (hd : ∀ j, 1 ≤ j → j < N.length → downS N j = false) : ckErr N C = 0 := by
 unfold ckErr
 rw [if_neg (by simpa using h), findFrom_none (fun j _ hj => hg j (by omega)), if_neg (by omega), findFrom_none (fun j h1 hj => hd j h1 (by omega)), if_neg (by omega)]
theorem ck_right {N : List ByteArray} {C : List (Int × Int)} (h : ckErr N C = 0) : C.length = N.length ∧ (∀ j, j < C.length → goodB C j = false) ∧ ∀ j, 1 ≤ j → j < N.length → downS N j = false := by
 by_cases h1 : C.length = N.length
 ·refine ⟨h1, ?_⟩
  by_cases h2 : ∀ j, j < C.length → goodB C j = false
  ·refine ⟨h2, fun j hj1 hj => ?_⟩
   cases hd : downS N j
   ·rfl
   ·rw [ck_down h1 h2 hj1 hj hd] at h; cases h
  ·exfalso
   apply h2
   intro j hj
   cases hd : goodB C j
   ·rfl
   ·rw [ck_cell h1 hj hd] at h; cases h
 ·rw [ck_shape h1] at h; cases h
theorem ck_ok {N : List ByteArray} {C : List (Int × Int)} (h : ckErr N C = 0) : ∀ c ∈ C, okC c := by
 intro c hc
 obtain ⟨j, hj, rfl⟩ := List.getElem_of_mem hc
 have := (ck_right h).2.1 j hj
 unfold goodB at this
 rw [List.getD_eq_getElem?_getD, List.getElem?_eq_getElem hj] at this
 simpa [okC] using this

/-! names that rise -/
theorem down_not {N : List ByteArray} {i : Nat} (h : downS N i = false) : (N.getD (i - 1) noS).toList < (N.getD i noS).toList := by
 unfold downS at h
 rw [Bool.or_eq_false_iff, bytesLess_eq] at h
 have h1 := of_decide_eq_false h.1
 have h2 : (N.getD i noS).toList ≠ (N.getD (i - 1) noS).toList := by simpa using h.2
 rcases Std.lt_trichotomy (N.getD i noS).toList (N.getD (i - 1) noS).toList with h3 | h3 | h3
 ·exact absurd h3 h1
 ·exact absurd h3 h2
 ·exact h3
theorem rise_all {N : List ByteArray} (h : ∀ j, 1 ≤ j → j < N.length → downS N j = false) : ∀ i j, i < j → j < N.length → (N.getD i noS).toList < (N.getD j noS).toList := by
 intro i j hij
 induction j with
 | zero => omega
 | succ j ih =>
  intro hj
  have h1 := down_not (h (j + 1) (by omega) hj)
  by_cases e : i = j
  ·subst e; exact h1
  ·exact List.lt_trans (ih (by omega) (by omega)) h1
end Go.Proofs.YtjffbmejobjmjafGreatDoor

namespace Go.Proofs.YtjffbmejobjmjafGreatDoor

def stepTo (D : Nat → Dm) (dim : Nat) : Nat → Nat
 | 0 => 1
 | t + 1 => stepTo D dim t * (D (dim + 1 + t)).n
def stepD (D : Nat → Dm) (n dim : Nat) : Nat := stepTo D dim (n - 1 - dim)
theorem stepTo_front (D : Nat → Dm) (dim : Nat) : ∀ t, stepTo D dim (t + 1) = (D (dim + 1)).n * stepTo D (dim + 1) t
 | 0 => by simp [stepTo]
 | t + 1 => by
  rw [stepTo, stepTo_front D dim t, stepTo, Nat.mul_assoc, show dim + 1 + (t + 1) = dim + 1 + 1 + t by omega]
theorem rest_step (D : Nat → Dm) (m x : Nat) : ∀ r, r < m → restAt D m x r = x / stepTo D (m - 1 - r) r
 | 0, _ => by simp [restAt, stepTo]
 | r + 1, h => by
  rw [restAt, rest_step D m x r (by omega), Nat.div_div_eq_div_mul, stepTo_front, show m - 1 - (r + 1) + 1 = m - 1 - r by omega, Nat.mul_comm]
theorem digit_step {D : Nat → Dm} {n x k : Nat} (hk : k < n) : digitAt D n x k = x / stepD D n k % (D k).n := by
 unfold digitAt stepD
 rw [rest_step D n x _ (by omega), show n - 1 - (n - 1 - k) = k by omega]
theorem stepTo_pos {D : Nat → Dm} {dim : Nat} : ∀ t, (∀ j, j < dim + 1 + t → 1 ≤ (D j).n) → 1 ≤ stepTo D dim t
 | 0, _ => Nat.le_refl _
 | t + 1, h => by
  rw [stepTo]
  exact Nat.mul_le_mul (stepTo_pos t fun j hj => h j (by omega)) (h (dim + 1 + t) (by omega))
theorem stepD_pos {D : Nat → Dm} {n dim : Nat} (h : ∀ j, j < n → 1 ≤ (D j).n) (hd : dim < n) : 1 ≤ stepD D n dim := stepTo_pos _ fun j hj => h j (by omega)

def partStep (M : Nat → Mem) (at' : Int → Int × Int) (c : Int × Int) (k : Int) : Int × Int := if (M k.toNat).sign = 1 then plusP c.1 c.2 (at' k).1 (at' k).2 else if (M k.toNat).sign = -1 then minusP c.1 c.2 (at' k).1 (at' k).2 else c
def partsV (M : Nat → Mem) (at' : Int → Int × Int) (L : List Int) : Int × Int := L.foldl (partStep M at') (0, 0)
def goodC (c : Int × Int) : Prop := good c.1 c.2 = true
theorem good_ofP (x : Int) : goodC (ofP x) := by
 unfold goodC ofP good
 split
 ·rename_i h; exact decide_eq_true (Or.inl ⟨rfl, h⟩)
 ·exact decide_eq_true (Or.inr ⟨Or.inr rfl, rfl⟩)
theorem good_join (b : Bool) (ka kb : Int) {r : Int × Int} (h : goodC r) : goodC (joinP b ka kb r) := by
 unfold joinP
 split
 ·exact decide_eq_true (Or.inr ⟨Or.inr rfl, rfl⟩)
 ·split
  ·exact decide_eq_true (Or.inr ⟨Or.inl rfl, rfl⟩)
  ·exact h
theorem good_zero : goodC (0, 0) := decide_eq_true (Or.inr ⟨Or.inl rfl, rfl⟩)
theorem good_step (M : Nat → Mem) (at' : Int → Int × Int) {c : Int × Int} (h : goodC c) (k : Int) : goodC (partStep M at' c k) := by
 unfold partStep
 split
 ·exact good_join _ _ _ (good_ofP _)
 ·split
  ·exact good_join _ _ _ (good_ofP _)
  ·exact h
theorem good_fold (M : Nat → Mem) (at' : Int → Int × Int) : ∀ (L : List Int) (c : Int × Int), goodC c → goodC (L.foldl (partStep M at') c)
 | [], _, h => h
 | k :: r, _, h => good_fold M at' r _ (good_step M at' h k)
theorem good_parts (M : Nat → Mem) (at' : Int → Int × Int) (L : List Int) : goodC (partsV M at' L) := good_fold M at' L _ good_zero
def cAt (L : List (Int × Int)) (x : Int) : Int × Int := L.getD x.toNat (0, 0)
def goodL (L : List (Int × Int)) : Prop := ∀ c ∈ L, goodC c
theorem goodL_set {L : List (Int × Int)} (h : goodL L) (x : Nat) {c : Int × Int} (hc : goodC c) : goodL (L.set x c) := fun y hy => by
 rcases List.mem_or_eq_of_mem_set hy with h1 | h1
 ·exact h y h1
 ·rw [h1]; exact hc
theorem good_at {L : List (Int × Int)} (h : goodL L) (x : Int) : goodC (cAt L x) := by
 unfold cAt
 rw [List.getD_eq_getElem?_getD]
 cases he : L[x.toNat]? with
 | none => exact good_zero
 | some c => exact h c (List.mem_of_getElem? he)
theorem part_place {D : Nat → Dm} {n dim m x j : Nat} (hp : ∀ i, i < n → 1 ≤ (D i).n) (hd : dim < n) (hx : x < prodN D n) (hm : x / stepD D n dim % (D dim).n = m) (hj : j < (D dim).n) :
  ∃ y : Nat, (x : Int) + ((j : Int) - (m : Int)) * (stepD D n dim : Int) = y ∧ y < prodN D n ∧ y / stepD D n dim % (D dim).n = j ∧ ∀ i, i < n → i ≠ dim → digitAt D n y i = digitAt D n x i := by
 have hS := stepD_pos hp hd
 have hdn := hp dim hd
 have hlt : ∀ i, i < n → digitAt D n x i < (D i).n := fun i hi => digit_lt (hp i hi)
 obtain ⟨P, hP⟩ : ∃ P : Nat → Nat, P = fun i => if i = dim then j else digitAt D n x i := ⟨_, rfl⟩
 have hPlt : ∀ i, i < n → P i < (D i).n := fun i hi => by
  rw [hP]
  simp only
  split
  ·rename_i h; rw [h]; exact hj
  ·exact hlt i hi
 have hy := numTo_lt n hPlt
 have hdig : ∀ i, i < n → digitAt D n (numTo D P n) i = P i := fun i hi => digit_num hPlt hi
 refine ⟨numTo D P n, ?_, hy, ?_, fun i hi hne => ?_⟩
 ·have h1 : ∀ k, k ≤ n → (numTo D P k : Int) = (numTo D (digitAt D n x) k : Int) + (if dim < k then ((j : Int) - (m : Int)) * (stepTo D dim (k - 1 - dim) : Int) else 0) := by
   intro k
   induction k with
   | zero => intro _; simp [numTo]
   | succ k ih =>
    intro hk
    rw [numTo, numTo]
    have ih' := ih (by omega)
    rcases Nat.lt_trichotomy dim k with h | h | h
    ·rw [if_pos h] at ih'
     rw [if_pos (by omega)]
     have e : P k = digitAt D n x k := by rw [hP]; simp only; rw [if_neg (by omega)]
     rw [e, show k + 1 - 1 - dim = (k - 1 - dim) + 1 by omega, stepTo, show dim + 1 + (k - 1 - dim) = k by omega]
     push_cast
     rw [ih', Int.add_mul, Int.mul_assoc]
     omega
    ·subst h
     rw [if_neg (by omega), Int.add_zero] at ih'
     rw [if_pos (by omega)]
     have e : P dim = j := by rw [hP]; simp
     have e2 : digitAt D n x dim = m := by rw [digit_step hd, hm]
     rw [e, e2, show dim + 1 - 1 - dim = 0 by omega, stepTo]
     push_cast
     rw [ih']
     omega
    ·rw [if_neg (by omega), Int.add_zero] at ih'
     rw [if_neg (by omega)]
     have e : P k = digitAt D n x k := by rw [hP]; simp only; rw [if_neg (by omega)]
     rw [e]
     push_cast
     rw [ih']
     omega
  have h2 := h1 n (Nat.le_refl _)
  rw [if_pos hd, num_back hx] at h2
  rw [h2]
  rfl
 ·have h3 := hdig dim hd
  rw [digit_step hd] at h3
  rw [h3, hP]
  simp
 ·rw [hdig i hi, hP]
  simp [hne]
end Go.Proofs.YtjffbmejobjmjafGreatDoor

namespace Go.Proofs.YtjffbmejobjmjafGreatDoor
open Go.ChangeShapes Go.WideShapes Go.ChangeAt Go.RowKit
set_option maxRecDepth 20000

theorem byteN_eq (s : ByteArray) (k : Nat) (h : k < s.size) : byteN s k = (s[k].toNat : Int) := by
 unfold byteN
 rw [List.getD, List.getElem?_eq_getElem (by simpa using h)]
 rfl

set_option maxHeartbeats 1000000 in
theorem rname_any (s : ByteArray) (w : World) : Calls Tryz.prog 132 #[.string s] w fun e w' => e = .returned (.int .i64 (nameErr s)) ∧ w' = w := by
 by_cases h1 : s.size < 1
 ·rw [nameErr_short (Or.inl h1)]
  have h2 : s.toList.isEmpty = true := by rw [empty_same]; simpa using (by omega : s.size = 0)
  clear h1
  go_enter Tryz.func132, Tryz.ntmps132
  go_wp2
  go_ret
  exact ⟨rfl, rfl⟩
 ·have h0 : s.toList.isEmpty = false := by rw [empty_same]; simpa using (by omega : ¬ s.size = 0)
  by_cases h2 : 8 < s.size
  ·rw [nameErr_short (Or.inr h2)]
   have h2' : 8 < (s.size : Int) := by omega
   clear h1
   go_enter Tryz.func132, Tryz.ntmps132
   go_wp2
   go_ret
   exact ⟨rfl, rfl⟩
  ·have h2' : (s.size : Int) ≤ 8 := by omega
   have HN : Hid (nameErr s = if 0 ≤ findFrom (badByte s) s.size 0 then 2 else 0) := nameErr_bytes (by omega) (by omega)
   clear h1
   go_enter Tryz.func132, Tryz.ntmps132
   go_wp2
   go_loopg [3] s.size (fun g s3 wr => ∃ k : Nat, k ≤ s.size ∧ g = s.size - k ∧ s3 = .int .i64 k ∧ findFrom (badByte s) (s.size - k) k = findFrom (badByte s) s.size 0 ∧ wr = w)
   case atStart => exact ⟨0, Nat.zero_le _, rfl, rfl, rfl, rfl⟩
   case round =>
    obtain ⟨k, hk, rfl, rfl, hf, rfl⟩ := hrel
    by_cases hlt : k < s.size
    ·have HF : Hid (findFrom (badByte s) (s.size - k) k = findFrom (badByte s) s.size 0) := hf
     have hsk : s.size - k = (s.size - (k + 1)) + 1 := by omega
     have hki : (k : Int) < (s.size : Int) := by omega
     have HY := byteN_eq s k hlt
     have HZ : Hid (byteN s k = (s[k].toNat : Int)) := HY
     clear hf HY
     by_cases b1 : (s[k].toNat : Int) < 97
     ·go_wp2
      go_ret
      have hb : badByte s k = true := by unfold badByte badB; rw [HZ.out]; simp [b1]
      exact ⟨by rw [HN.out, ← HF.out, hsk, findFrom_hit _ hb, if_pos (by omega)]; rfl, rfl⟩
     ·by_cases b2 : 122 < (s[k].toNat : Int)
      ·go_wp2
       go_ret
       have hb : badByte s k = true := by unfold badByte badB; rw [HZ.out]; simp [b2]
       exact ⟨by rw [HN.out, ← HF.out, hsk, findFrom_hit _ hb, if_pos (by omega)]; rfl, rfl⟩
      ·have HB : Hid (badByte s k = false) := by show badByte s k = false; unfold badByte badB; rw [HZ.out]; simp; omega
       go_wp2
       go_roundg (s.size - (k + 1))
       case measure => omega
       case rel => exact ⟨k + 1, by omega, rfl, by go_num, by rw [← HF.out, hsk, findFrom_miss _ HB.out], rfl⟩
    ·have hke : k = s.size := by omega
     have HF : Hid (findFrom (badByte s) (s.size - k) k = findFrom (badByte s) s.size 0) := hf
     have hki : (s.size : Int) ≤ (k : Int) := by omega
     clear hf
     go_wp2
     go_ret
     exact ⟨by rw [HN.out, ← HF.out, hke, Nat.sub_self]; rfl, rfl⟩

set_option maxHeartbeats 1000000 in
theorem where_any (d : Dm) (A : Option Addr) (cap : Nat) (s : ByteArray) (w : World) (hn : d.n ≤ 12) (hM : MemsV w A cap d.n d.mem) : Calls Tryz.prog 58 #[dimV d A cap, .string s] w fun e w' => e = .returned (.int .i64 (findFrom (fun j => same (d.mem j).name s) d.n 0)) ∧ Below w.heap.size w w' := by
 have HM : Hid (MemsV w A cap d.n d.mem) := hM
 clear hM
 unfold dimV
 have hn' : (d.n : Int) ≤ 12 := by omega
 have hS := ownDim_size w d A cap 24
 have hB0 := ownDim_below w d A cap 24
 have hA2 := (ownDim_at w d A cap 24).2.2
 obtain ⟨W, hW⟩ : ∃ W, W = ownDim w d A cap 24 := ⟨_, rfl⟩
 rw [← hW] at hB0 hS hA2
 have HW : Hid (W = ownDim w d A cap 24) := hW
 have HA : Hid (W.cell? ⟨w.heap.size, 2, none⟩ = some (.slice A d.n cap)) := hA2
 have HB0 : Hid (Below w.heap.size w W) := hB0
 have hsz : w.heap.size < W.heap.size := by omega
 clear hW hA2 hB0 hS
 go_enter Tryz.func58, Tryz.ntmps58
 go_wp2_with fail
 go_loopg [5] d.n (fun g s5 wr => ∃ k : Nat, k ≤ d.n ∧ g = d.n - k ∧ s5 = .int .i64 k ∧ findFrom (fun j => same (d.mem j).name s) (d.n - k) k = findFrom (fun j => same (d.mem j).name s) d.n 0 ∧ wr = W)
 case atStart => exact ⟨0, Nat.zero_le _, rfl, rfl, rfl, by rw [HW.out]; rfl⟩
 case round =>
  obtain ⟨k, hk, rfl, rfl, hf, rfl⟩ := hrel
  have HF : Hid (findFrom (fun j => same (d.mem j).name s) (d.n - k) k = findFrom (fun j => same (d.mem j).name s) d.n 0) := hf
  have c2 := HA.out
  clear hf
  by_cases hlt : k < d.n
  ·obtain ⟨hcap, h0 | ⟨b, o, rfl, hMs⟩⟩ := HM.out.later HB0.out
   ·omega
   obtain ⟨n0, -, -, -⟩ := hMs.2 k hlt
   have hki : (k : Int) < (d.n : Int) := by omega
   have hsk : d.n - k = (d.n - (k + 1)) + 1 := by omega
   clear hMs
   cases hq : ((d.mem k).name.toList == s.toList)
   ·have HQ : Hid ((fun j => same (d.mem j).name s) k = false) := hq
    go_wp2_with fail
    go_roundg (d.n - (k + 1))
    case measure => omega
    case rel => exact ⟨k + 1, by omega, rfl, by go_num, by rw [← HF.out, hsk, findFrom_miss _ HQ.out], rfl⟩
   ·have HQ : Hid ((fun j => same (d.mem j).name s) k = true) := hq
    go_wp2_with fail
    go_ret
    exact ⟨by rw [← HF.out, hsk, findFrom_hit _ HQ.out]; rfl, HB0.out⟩
  ·have hke : k = d.n := by omega
   have hki : (d.n : Int) ≤ (k : Int) := by omega
   go_wp2_with fail
   go_ret
   exact ⟨by rw [← HF.out, hke, Nat.sub_self]; rfl, HB0.out⟩

end Go.Proofs.YtjffbmejobjmjafGreatDoor

namespace Go.Proofs.YtjffbmejobjmjafGreatDoor
open Go.ChangeShapes Go.WideShapes Go.ChangeAt Go.RowKit
set_option maxRecDepth 20000

set_option maxHeartbeats 1000000 in
theorem osize_any (b o n cap : Nat) (D : Nat → Dm) (A : Nat → Option Addr) (C : Nat → Nat) (w : World) (hn : n ≤ 4) (hd : ∀ j, j < n → (D j).n ≤ 12) (hM : DimsAt w b o n D A C) : Calls Tryz.prog 52 #[.agg #[.slice (some ⟨b, o, none⟩) n cap]] w fun e w' => e = .returned (.int .i64 (prodN D n)) ∧ Below w.heap.size w w' := by
 have HB : Hid (DimsAt w b o n D A C) := hM
 have HD : Hid (∀ j, j < n → (D j).n ≤ 12) := hd
 clear hM hd
 have hS := ownOut_size w (some ⟨b, o, none⟩) n cap 42
 have hB0 := ownOut_below w (some ⟨b, o, none⟩) n cap 42
 have hA2 := ownOut_at w (some ⟨b, o, none⟩) n cap 42
 obtain ⟨W, hW⟩ : ∃ W, W = ownOut w (some ⟨b, o, none⟩) n cap 42 := ⟨_, rfl⟩
 rw [← hW] at hB0 hS hA2
 have HW : Hid (W = ownOut w (some ⟨b, o, none⟩) n cap 42) := hW
 have HA : Hid (W.cell? ⟨w.heap.size, 0, none⟩ = some (.slice (some ⟨b, o, none⟩) n cap)) := hA2
 have HB0 : Hid (Below w.heap.size w W) := hB0
 have hs8 : (n : Int) ≤ 4 := by omega
 clear hW hA2 hB0 hS
 go_enter Tryz.func52, Tryz.ntmps52
 go_wp2_with fail
 go_loopg [3, 4] n (fun g s3 s4 wr => ∃ (k : Nat), k ≤ n ∧ g = n - k ∧ s4 = .int .i64 k ∧ s3 = .int .i64 (prodN D k) ∧ wr = W)
 case atStart => exact ⟨0, Nat.zero_le _, rfl, rfl, rfl, by rw [HW.out]; rfl⟩
 case round =>
  obtain ⟨k, hk, rfl, rfl, rfl, rfl⟩ := hrel
  have c0 := HA.out
  by_cases hlt : k < n
  ·obtain ⟨h0, h1, h2, -⟩ := (HB.out.later HB0.out).2 k hlt
   have hki : (k : Int) < (n : Int) := by omega
   have hp1 : prodN D (k + 1) ≤ 20736 := prod_small (fun j hj => HD.out j (by omega)) (by omega)
   have hp2 : (prodN D (k + 1) : Int) = (prodN D k : Int) * ((D k).n : Int) := by rw [prodN]; exact Int.natCast_mul _ _
   have hp3 : 0 ≤ (prodN D k : Int) * ((D k).n : Int) := by omega
   have hp4 : (prodN D k : Int) * ((D k).n : Int) ≤ 20736 := by omega
   have HP : Hid ((prodN D (k + 1) : Int) = (prodN D k : Int) * ((D k).n : Int)) := hp2
   clear hp1 hp2
   go_wp2_with fail
   go_roundg (n - (k + 1))
   case measure => omega
   case rel => exact ⟨k + 1, by omega, rfl, by go_num, by rw [HP.out], rfl⟩
  ·have hke : k = n := by omega
   subst hke
   go_wp2_with fail
   go_ret
   exact ⟨rfl, HB0.out⟩
end Go.Proofs.YtjffbmejobjmjafGreatDoor

namespace Go.Proofs.YtjffbmejobjmjafGreatDoor
open Go Go.ChangeShapes Go.WideShapes Go.ChangeAt Go.RowKit
set_option maxRecDepth 20000

def usedL (l : List Nd) (k : Nat) : List Int := (List.range l.length).map fun j => (usedTo l k j : Int)
section
variable {l : List Nd} {k j a b : Nat}
theorem usedL_len : (usedL l k).length = l.length := by simp [usedL]
theorem usedL_at (h : j < l.length) : (usedL l k).getD j 0 = (usedTo l k j : Int) := by simp [usedL, List.getD, h]
theorem usedTo_le (l : List Nd) (k j : Nat) : usedTo l k j ≤ 2 * k := by
 induction k with
 | zero => simp [usedTo]
 | succ k ih =>
  have h : uses (l.getD k noN) j ≤ 2 := by
   unfold uses
   split
   ·split <;> split <;> omega
   ·omega
  unfold usedTo
  omega
theorem usedL_zero : usedL l 0 = List.replicate l.length 0 := by
 apply List.ext_getElem (by simp [usedL])
 intro j h1 h2
 simp [usedL, usedTo]
theorem usedL_same (h : (l.getD k noN).op ≤ 2) : usedL l (k + 1) = usedL l k := by
 have e : ∀ j, usedTo l (k + 1) j = usedTo l k j := fun j => by
  show usedTo l k j + uses (l.getD k noN) j = _
  rw [uses, if_neg (by omega)]
  rfl
 unfold usedL
 simp only [e]
theorem getD_set_ints {L : List Int} {a b : Nat} {x : Int} (h : a < L.length) : (L.set a x).getD b 0 = if a = b then x else L.getD b 0 := by
 rw [List.getD_eq_getElem?_getD, List.getD_eq_getElem?_getD, List.getElem?_set]
 by_cases e : a = b
 ·subst e; simp [h]
 ·simp [e]
theorem usedL_two (h : 2 < (l.getD k noN).op) (ha : (l.getD k noN).left = (a : Int)) (hb : (l.getD k noN).right = (b : Int)) (_hal : a < l.length) (hbl : b < l.length) :
  ((usedL l k).set a ((usedTo l k a : Int) + 1)).set b ((if a = b then (usedTo l k a : Int) + 1 else (usedTo l k b : Int)) + 1) = usedL l (k + 1) := by
 apply List.ext_getElem (by simp [usedL])
 intro j h1 h2
 have e : (usedL l (k + 1))[j] = ((usedTo l k j + uses (l.getD k noN) j : Nat) : Int) := by simp only [usedL, usedTo, List.getElem_map, List.getElem_range]
 have e2 : ∀ h, (usedL l k)[j]'h = (usedTo l k j : Int) := fun h => by simp only [usedL, List.getElem_map, List.getElem_range]
 rw [e, uses, if_pos h, ha, hb, List.getElem_set, List.getElem_set, e2]
 by_cases hbj : b = j
 ·subst hbj
  by_cases hab : a = b
  ·subst hab
   simp
   omega
  ·have : ¬ (a : Int) = (b : Int) := by omega
   simp [hab, this]
 ·have h3 : ¬ (b : Int) = (j : Int) := by omega
  by_cases haj : a = j
  ·subst haj
   simp [hbj, h3]
  ·have h4 : ¬ (a : Int) = (j : Int) := by omega
   simp [hbj, haj, h3, h4]
end

set_option maxHeartbeats 8000000 in
theorem rform_any (A : Option Addr) (cap : Nat) (l : List Nd) (w : World) (hN : NdsV w A cap l) :
  Calls Tryz.prog 95 #[.slice A l.length cap] w fun e w' => e = .returned (.int .i64 (formErr l)) ∧ Below w.heap.size w w' := by
 by_cases c0 : l.length = 0
 ·have HR : Hid (formErr l = 5) := form_none c0
  rw [c0]
  clear c0
  go_enter Tryz.func95, Tryz.ntmps95
  go_wp2_with fail
  go_ret
  exact ⟨by rw [HR.out]; rfl, Below.refl _ _⟩
 obtain ⟨-, -, h0 | ⟨b, o, rfl, hAt⟩⟩ := hN
 ·rw [h0] at c0; exact absurd rfl c0
 have HAt : Hid (NdsAt w b o l) := hAt
 by_cases c1 : 30 < l.length
 ·have HR : Hid (formErr l = 4) := form_full c1
  have c1' : (30 : Int) < (l.length : Int) := by omega
  have c0' : ((l.length : Int) == 0) = false := by rw [beq_eq_false_iff_ne]; omega
  generalize l.length = N at c1' c0'
  clear hAt c0 c1
  go_enter Tryz.func95, Tryz.ntmps95
  go_wp2_with fail
  go_ret
  exact ⟨by rw [HR.out]; rfl, Below.refl _ _⟩
 obtain ⟨N, hNe⟩ : ∃ N, l.length = N := ⟨_, rfl⟩
 have HN : Hid (l.length = N) := hNe
 rw [hNe] at c0 c1 ⊢
 have c0' : ((N : Int) == 0) = false := by simp; omega
 have c1' : (N : Int) ≤ 30 := by omega
 have hN1 : 1 ≤ N := by omega
 have hmk := run_make_row' (P := Tryz.prog) 27 3 (.int .i64 0) 8 Tryz.underlying27 Tryz.infoIntP rfl .i64 .i64 N (by omega) (by omega)
 clear hAt hNe c0 c1
 go_enter Tryz.func95, Tryz.ntmps95
 go_wp2_with fail
 clear hmk
 go_loopg [4, 5] N (fun g s4 s5 wr => ∃ (k : Nat), k ≤ N ∧ g = N - k ∧ s4 = .int .i64 k ∧ IntB wr w.heap.size (usedL l k) ∧ (∀ j, j < k → badN l j = false) ∧ Below w.heap.size w wr)
 case atStart => exact ⟨0, Nat.zero_le _, rfl, rfl, by rw [usedL_zero, HN.out]; exact IntB.made w N, fun j hj => absurd hj (Nat.not_lt_zero _), by go_grown⟩
 case round =>
  obtain ⟨k, hk, rfl, rfl, hI, hG, hBw⟩ := hrel
  have HI : Hid (IntB wr w.heap.size (usedL l k)) := hI
  have HG : Hid (∀ j, j < k → badN l j = false) := hG
  have HBw : Hid (Below w.heap.size w wr) := hBw
  by_cases hlt : k < N
  ·have hlt' : (k : Int) < (N : Int) := by omega
   obtain ⟨x1, x2, x3, x4, x5⟩ := (HAt.out.later hBw).2 k (by rw [HN.out]; exact hlt)
   have HF : Hid (∀ c : Int, ndErr (l.getD k noN) k = c → c ≠ 0 → formErr l = c) := fun c h1 h2 => by
    rw [form_bad (by rw [HN.out]; omega) (by rw [HN.out]; exact hlt) (decide_eq_true (by rw [h1]; exact h2)) HG.out, h1]
   have HK : Hid (ndErr (l.getD k noN) k = 0 → ∀ j, j < k + 1 → badN l j = false) := fun h j hj => by
    rcases Nat.lt_or_ge j k with h1 | h1
    ·exact HG.out j h1
    ·rw [show j = k by omega]; exact decide_eq_false (by rw [h]; simp)
   have HU1 : Hid ((l.getD k noN).op ≤ 2 → usedL l (k + 1) = usedL l k) := usedL_same
   have HU2 : Hid (∀ a b : Nat, 2 < (l.getD k noN).op → (l.getD k noN).left = (a : Int) → (l.getD k noN).right = (b : Int) → a < l.length → b < l.length → ((usedL l k).set a ((usedTo l k a : Int) + 1)).set b ((if a = b then (usedTo l k a : Int) + 1 else (usedTo l k b : Int)) + 1) = usedL l (k + 1)) := fun a b => usedL_two
   generalize l.getD k noN = x at x1 x2 x3 x4 x5 HF HK HU1 HU2
   obtain ⟨op, n, nm, le, ri⟩ := x
   simp only at x1 x2 x3 x4 x5 HU1 HU2
   obtain ⟨W, hW⟩ : ∃ W, wr.alloc (.cells #[.int .i64 op, .int .i64 n, .string nm, .int .i64 le, .int .i64 ri] 158) = W := ⟨_, rfl⟩
   have y1 : W.cell? ⟨wr.heap.size, 0, none⟩ = some (.int .i64 op) := by rw [← hW]; simp
   have y2 : W.cell? ⟨wr.heap.size, 1, none⟩ = some (.int .i64 n) := by rw [← hW]; simp
   have y3 : W.cell? ⟨wr.heap.size, 2, none⟩ = some (.string nm) := by rw [← hW]; simp
   have y4 : W.cell? ⟨wr.heap.size, 3, none⟩ = some (.int .i64 le) := by rw [← hW]; simp
   have y5 : W.cell? ⟨wr.heap.size, 4, none⟩ = some (.int .i64 ri) := by rw [← hW]; simp
   have hbW : Below wr.heap.size wr W := by rw [← hW]; go_grown
   have HBW : Hid (Below w.heap.size w W) := onB hBw hbW
   have HIW : Hid (IntB W w.heap.size (usedL l k)) := hI.later hbW
   clear hI hG hBw hbW
   by_cases d1 : op < 1
   ·have HR : Hid (formErr l = 1) := HF.out 1 (by unfold ndErr; dsimp only; (repeat' split) <;> omega) (by decide)
    go_wp2_with fail
    go_ret
    exact ⟨by rw [HR.out]; rfl, HBW.out⟩
   by_cases d2 : 6 < op
   ·have HR : Hid (formErr l = 1) := HF.out 1 (by unfold ndErr; dsimp only; (repeat' split) <;> omega) (by decide)
    go_wp2_with fail
    go_ret
    exact ⟨by rw [HR.out]; rfl, HBW.out⟩
   by_cases d3 : op = 1
   ·subst d3
    by_cases d4 : n < 0
    ·have HR : Hid (formErr l = 1) := HF.out 1 (by unfold ndErr; dsimp only; (repeat' split) <;> omega) (by decide)
     go_wp2_with fail
     go_ret
     exact ⟨by rw [HR.out]; rfl, HBW.out⟩
    by_cases d5 : 1000000 < n
    ·have HR : Hid (formErr l = 1) := HF.out 1 (by unfold ndErr; dsimp only; (repeat' split) <;> omega) (by decide)
     go_wp2_with fail
     go_ret
     exact ⟨by rw [HR.out]; rfl, HBW.out⟩
    by_cases dm : nm.size ≠ 0
    ·have HR : Hid (formErr l = 3) := HF.out 3 (by unfold ndErr; dsimp only; (repeat' split) <;> omega) (by decide)
     have bm : nm.toList.isEmpty = false := by rw [empty_same]; simpa using dm
     clear dm
     go_wp2_with fail
     go_ret
     exact ⟨by rw [HR.out]; rfl, HBW.out⟩
    have bm : nm.toList.isEmpty = true := by rw [empty_same]; simpa using dm
    have HM : Hid (nm.size = 0) := by show _ = _; omega
    clear dm
    by_cases dle : le ≠ 0
    ·have HR : Hid (formErr l = 3) := HF.out 3 (by have := HM.out; unfold ndErr; dsimp only; (repeat' split) <;> omega) (by decide)
     have ble : (le != 0) = true := by simpa using dle
     clear dle
     go_wp2_with fail
     go_ret
     exact ⟨by rw [HR.out]; rfl, HBW.out⟩
    have Hle : Hid (le = 0) := by show _ = _; omega
    have ble : (le != 0) = false := by have := Hle.out; simpa using this
    clear dle
    by_cases dri : ri ≠ 0
    ·have HR : Hid (formErr l = 3) := HF.out 3 (by have := Hle.out; have := HM.out; unfold ndErr; dsimp only; (repeat' split) <;> omega) (by decide)
     have bri : (ri != 0) = true := by simpa using dri
     clear dri
     go_wp2_with fail
     go_ret
     exact ⟨by rw [HR.out]; rfl, HBW.out⟩
    have Hri : Hid (ri = 0) := by show _ = _; omega
    have bri : (ri != 0) = false := by have := Hri.out; simpa using this
    clear dri
    have HG1 : Hid (∀ j, j < k + 1 → badN l j = false) := HK.out (by have := Hle.out; have := Hri.out; have := HM.out; unfold ndErr; dsimp only; (repeat' split) <;> omega)
    have HU : Hid (usedL l (k + 1) = usedL l k) := HU1.out (by decide)
    go_wp2_with fail
    go_roundg (N - (k + 1))
    case measure => omega
    case rel => exact ⟨k + 1, by omega, rfl, by go_num, by rw [HU.out]; exact HIW.out, HG1.out, HBW.out⟩
   by_cases d6 : op = 2
   ·subst d6
    have hnm := rname_any nm W
    by_cases d7 : nameErr nm = 0
    ·have HZ : Hid (nameErr nm = 0) := d7
     rw [d7] at hnm
     clear d7
     by_cases dn : n ≠ 0
     ·have HR : Hid (formErr l = 3) := HF.out 3 (by have := HZ.out; unfold ndErr; dsimp only; (repeat' split) <;> omega) (by decide)
      have bn : (n != 0) = true := by simpa using dn
      clear dn
      go_wp2_with fail
      refine hnm.mono ?_
      rintro e w1 ⟨rfl, rfl⟩
      go_wp2_with fail
      go_ret
      exact ⟨by rw [HR.out]; rfl, HBW.out⟩
     have Hn : Hid (n = 0) := by show _ = _; omega
     have bn : (n != 0) = false := by have := Hn.out; simpa using this
     clear dn
     by_cases dle : le ≠ 0
     ·have HR : Hid (formErr l = 3) := HF.out 3 (by have := Hn.out; have := HZ.out; unfold ndErr; dsimp only; (repeat' split) <;> omega) (by decide)
      have ble : (le != 0) = true := by simpa using dle
      clear dle
      go_wp2_with fail
      refine hnm.mono ?_
      rintro e w1 ⟨rfl, rfl⟩
      go_wp2_with fail
      go_ret
      exact ⟨by rw [HR.out]; rfl, HBW.out⟩
     have Hle : Hid (le = 0) := by show _ = _; omega
     have ble : (le != 0) = false := by have := Hle.out; simpa using this
     clear dle
     by_cases dri : ri ≠ 0
     ·have HR : Hid (formErr l = 3) := HF.out 3 (by have := Hn.out; have := Hle.out; have := HZ.out; unfold ndErr; dsimp only; (repeat' split) <;> omega) (by decide)
      have bri : (ri != 0) = true := by simpa using dri
      clear dri
      go_wp2_with fail
      refine hnm.mono ?_
      rintro e w1 ⟨rfl, rfl⟩
      go_wp2_with fail
      go_ret
      exact ⟨by rw [HR.out]; rfl, HBW.out⟩
     have Hri : Hid (ri = 0) := by show _ = _; omega
     have bri : (ri != 0) = false := by have := Hri.out; simpa using this
     clear dri
     have HG1 : Hid (∀ j, j < k + 1 → badN l j = false) := HK.out (by have := Hn.out; have := Hle.out; have := Hri.out; have := HZ.out; unfold ndErr; dsimp only; (repeat' split) <;> omega)
     have HU : Hid (usedL l (k + 1) = usedL l k) := HU1.out (by decide)
     go_wp2_with fail
     refine hnm.mono ?_
     rintro e w1 ⟨rfl, rfl⟩
     go_wp2_with fail
     go_roundg (N - (k + 1))
     case measure => omega
     case rel => exact ⟨k + 1, by omega, rfl, by go_num, by rw [HU.out]; exact HIW.out, HG1.out, HBW.out⟩
    ·have HR : Hid (formErr l = 2) := HF.out 2 (by unfold ndErr; dsimp only; (repeat' split) <;> omega) (by decide)
     rw [nameErr_two d7] at hnm
     clear d7
     go_wp2_with fail
     refine hnm.mono ?_
     rintro e w1 ⟨rfl, rfl⟩
     go_wp2_with fail
     go_ret
     exact ⟨by rw [HR.out]; rfl, HBW.out⟩
   have o1 : (op == 1) = false := by simpa using d3
   have o2 : (op == 2) = false := by simpa using d6
   have HO : Hid (¬ op = 1 ∧ ¬ op = 2) := ⟨d3, d6⟩
   clear d3 d6
   by_cases d8 : le < 0
   ·have HR : Hid (formErr l = 1) := HF.out 1 (by have := HO.out; unfold ndErr; dsimp only; (repeat' split) <;> omega) (by decide)
    go_wp2_with fail
    go_ret
    exact ⟨by rw [HR.out]; rfl, HBW.out⟩
   by_cases d9 : (k : Int) ≤ le
   ·have HR : Hid (formErr l = 1) := HF.out 1 (by have := HO.out; unfold ndErr; dsimp only; (repeat' split) <;> omega) (by decide)
    go_wp2_with fail
    go_ret
    exact ⟨by rw [HR.out]; rfl, HBW.out⟩
   by_cases d10 : ri < 0
   ·have HR : Hid (formErr l = 1) := HF.out 1 (by have := HO.out; unfold ndErr; dsimp only; (repeat' split) <;> omega) (by decide)
    go_wp2_with fail
    go_ret
    exact ⟨by rw [HR.out]; rfl, HBW.out⟩
   by_cases d11 : (k : Int) ≤ ri
   ·have HR : Hid (formErr l = 1) := HF.out 1 (by have := HO.out; unfold ndErr; dsimp only; (repeat' split) <;> omega) (by decide)
    go_wp2_with fail
    go_ret
    exact ⟨by rw [HR.out]; rfl, HBW.out⟩
   by_cases dn : n ≠ 0
   ·have HR : Hid (formErr l = 3) := HF.out 3 (by have := HO.out; unfold ndErr; dsimp only; (repeat' split) <;> omega) (by decide)
    have bn : (n != 0) = true := by simpa using dn
    clear dn
    go_wp2_with fail
    go_ret
    exact ⟨by rw [HR.out]; rfl, HBW.out⟩
   have Hn : Hid (n = 0) := by show _ = _; omega
   have bn : (n != 0) = false := by have := Hn.out; simpa using this
   clear dn
   by_cases dm : nm.size ≠ 0
   ·have HR : Hid (formErr l = 3) := HF.out 3 (by have := Hn.out; have := HO.out; unfold ndErr; dsimp only; (repeat' split) <;> omega) (by decide)
    have bm : nm.toList.isEmpty = false := by rw [empty_same]; simpa using dm
    clear dm
    go_wp2_with fail
    go_ret
    exact ⟨by rw [HR.out]; rfl, HBW.out⟩
   have bm : nm.toList.isEmpty = true := by rw [empty_same]; simpa using dm
   have HM : Hid (nm.size = 0) := by show _ = _; omega
   clear dm
   have HG1 : Hid (∀ j, j < k + 1 → badN l j = false) := HK.out (by have := HO.out; have := HM.out; have := Hn.out; unfold ndErr; dsimp only; (repeat' split) <;> omega)
   obtain ⟨a, rfl⟩ : ∃ a : Nat, le = (a : Int) := ⟨le.toNat, by omega⟩
   obtain ⟨b', rfl⟩ : ∃ b' : Nat, ri = (b' : Int) := ⟨ri.toNat, by omega⟩
   have ha : a < N := by omega
   have hb : b' < N := by omega
   have HU := HU2.out a b' (by have := HO.out; omega) rfl rfl (by rw [HN.out]; exact ha) (by rw [HN.out]; exact hb)
   have HUh : Hid (((usedL l k).set a ((usedTo l k a : Int) + 1)).set b' ((if a = b' then (usedTo l k a : Int) + 1 else (usedTo l k b' : Int)) + 1) = usedL l (k + 1)) := HU
   have e1 := HIW.out.cell (j := a) (by rw [usedL_len, HN.out]; exact ha)
   rw [usedL_at (by rw [HN.out]; exact ha)] at e1
   have f1 := HIW.out.frozen a
   have HI2 := HIW.out.set a ((usedTo l k a : Int) + 1)
   have e2 := HI2.cell (j := b') (by rw [List.length_set, usedL_len, HN.out]; exact hb)
   rw [getD_set_ints (by rw [usedL_len, HN.out]; exact ha), usedL_at (by rw [HN.out]; exact hb)] at e2
   have f2 := HI2.frozen b'
   have HI3 : Hid (IntB ((W.setCell ⟨w.heap.size, a, none⟩ (.int .i64 ((usedTo l k a : Int) + 1))).setCell ⟨w.heap.size, b', none⟩ (.int .i64 ((if a = b' then (usedTo l k a : Int) + 1 else (usedTo l k b' : Int)) + 1))) w.heap.size (usedL l (k + 1))) := by
    have h := HI2.set b' ((if a = b' then (usedTo l k a : Int) + 1 else (usedTo l k b' : Int)) + 1)
    rw [HU] at h
    exact h
   have ua := usedTo_le l k a
   have ub := usedTo_le l k b'
   generalize usedTo l k a = ua' at *
   generalize usedTo l k b' = ub' at *
   obtain ⟨v, hv⟩ : ∃ v : Nat, (if a = b' then (ua' : Int) + 1 else (ub' : Int)) = (v : Int) := ⟨if a = b' then ua' + 1 else ub', by split <;> simp⟩
   have hv1 : (v : Int) ≤ 100 := by rw [← hv]; split <;> omega
   have hu1 : (ua' : Int) ≤ 100 := by omega
   rw [hv] at e2 HI3
   have hak : (a : Int) < (N : Int) := by omega
   have hbk : (b' : Int) < (N : Int) := by omega
   have hak' : (a : Int) < (k : Int) := by omega
   have hbk' : (b' : Int) < (k : Int) := by omega
   have hne : w.heap.size < wr.heap.size := HI.out.lt
   have HBV : Hid (Below w.heap.size w (W.setCell ⟨w.heap.size, a, none⟩ (.int .i64 ((ua' : Int) + 1)))) := HBW.out.setCell (by show w.heap.size ≤ w.heap.size; omega) _
   have y6 : (W.setCell ⟨w.heap.size, a, none⟩ (.int .i64 ((ua' : Int) + 1))).cell? ⟨wr.heap.size, 4, none⟩ = some (.int .i64 (b' : Int)) := by
    rw [World.cell?_setCell_far _ _ _ _ (by show w.heap.size ≠ wr.heap.size; omega)]
    exact y5
   obtain ⟨V, hV⟩ : ∃ V, W.setCell ⟨w.heap.size, a, none⟩ (.int .i64 ((ua' : Int) + 1)) = V := ⟨_, rfl⟩
   rw [hV] at e2 f2 HI3 HBV y6
   clear HU HUh HI2 hv ua ub d9 d11 ha hb hne
   go_wp2_with fail
   go_roundg (N - (k + 1))
   case measure => omega
   case rel => exact ⟨k + 1, by omega, rfl, by go_num, HI3.out, HG1.out, HBV.out.setCell (by show w.heap.size ≤ w.heap.size; omega) _⟩
  ·obtain rfl : k = N := by omega
   have hlt' : ¬ (k : Int) < (k : Int) := by omega
   clear hI hG hBw
   go_wp2_with fail
   go_loopg [6] k (fun g s6 wt => ∃ (j : Nat), j ≤ k - 1 ∧ g = k - j ∧ s6 = .int .i64 j ∧ wt = wr ∧ (∀ i, i < j → oddN l i = false))
   case atStart => exact ⟨0, Nat.zero_le _, rfl, rfl, rfl, fun i hi => absurd hi (Nat.not_lt_zero _)⟩
   case round =>
    obtain ⟨j, hj, rfl, rfl, rfl, hO⟩ := hrel
    have HO : Hid (∀ i, i < j → oddN l i = false) := hO
    clear hO
    by_cases hjl : j < k - 1
    ·have hj1 : (j : Int) < (k : Int) - 1 := by omega
     have hj2 : (j : Int) < (k : Int) := by omega
     have e1 := HI.out.cell (j := j) (by rw [usedL_len, HN.out]; omega)
     rw [usedL_at (by rw [HN.out]; omega)] at e1
     by_cases hu : usedTo l k j = 1
     ·have HO1 : Hid (∀ i, i < j + 1 → oddN l i = false) := fun i hi => by
       rcases Nat.lt_or_ge i j with h1 | h1
       ·exact HO.out i h1
       ·rw [show i = j by omega]; exact decide_eq_false (by rw [HN.out, hu]; simp)
      rw [hu] at e1
      clear hu
      go_wp2_with fail
      go_roundg (k - (j + 1))
      case measure => omega
      case rel => exact ⟨j + 1, by omega, rfl, by go_num, rfl, HO1.out⟩
     ·have HR : Hid (formErr l = 3) := form_odd (by rw [HN.out]; omega) (by rw [HN.out]; omega) (by rw [HN.out]; exact HG.out) (i := j) (by rw [HN.out]; exact hjl) (decide_eq_true (by rw [HN.out]; exact hu))
      have hu' : (((usedTo l k j : Nat) : Int) == 1) = false := by simp; omega
      generalize usedTo l k j = u at e1 hu'
      clear hu
      go_wp2_with fail
      go_ret
      exact ⟨by rw [HR.out]; rfl, HBw.out⟩
    ·have HR : Hid (formErr l = 0) := form_good (by rw [HN.out]; omega) (by rw [HN.out]; omega) (by rw [HN.out]; exact HG.out) (fun i hi => HO.out i (by rw [HN.out] at hi; omega))
     have hj1 : ¬ (j : Int) < (k : Int) - 1 := by omega
     go_wp2_with fail
     go_ret
     exact ⟨by rw [HR.out]; rfl, HBw.out⟩
end Go.Proofs.YtjffbmejobjmjafGreatDoor

namespace Go.Proofs.YtjffbmejobjmjafGreatDoor
open Go.ChangeShapes Go.WideShapes Go.ChangeAt Go.RowKit
set_option maxRecDepth 20000

end Go.Proofs.YtjffbmejobjmjafGreatDoor

namespace Go.Proofs.YtjffbmejobjmjafGreatDoor
open Go.ChangeShapes Go.WideShapes Go.ChangeAt Go.RowKit

def At (s : Nat) (k n : Int) (w : World) : Prop := s < w.heap.size ∧ w.cell? ⟨s, 0, none⟩ = some (.int .i64 k) ∧ w.cell? ⟨s, 1, none⟩ = some (.int .i64 n)
theorem At.new (k n : Int) (w : World) (T : Nat) : At w.heap.size k n (w.alloc (.cells #[.int .i64 k, .int .i64 n] T)) := ⟨by simp, by simp, by simp⟩
theorem At.set {s : Nat} {k n : Int} {w : World} {u v : Value} (hs : s < w.heap.size) (h0 : w.cell? ⟨s, 0, none⟩ = some u) (h1 : w.cell? ⟨s, 1, none⟩ = some v) : At s k n ((w.setCell ⟨s, 0, none⟩ (.int .i64 k)).setCell ⟨s, 1, none⟩ (.int .i64 n)) := by
 refine ⟨by simpa using hs, ?_, ?_⟩ <;> simp [go_sem, h0, h1]
end Go.Proofs.YtjffbmejobjmjafGreatDoor

namespace Go.Proofs.YtjffbmejobjmjafGreatDoor
open Go.ChangeShapes Go.WideShapes Go.ChangeAt Go.RowKit

theorem rof_any (n : Int) (w : World) : Calls Tryz.prog 96 #[.int .i64 n] w fun e w' => e = .returned (.agg #[.int .i64 (ofP n).1, .int .i64 (ofP n).2]) ∧ Below w.heap.size w w' := by
 by_cases h1 : n < -1000000000000
 ·rw [ofP_out (by omega)]
  go_enter Tryz.func96, Tryz.ntmps96
  go_wp2
  go_returns
  exact ⟨rfl, by go_grown⟩
 ·by_cases h2 : 1000000000000 < n
  ·rw [ofP_out (by omega)]
   go_enter Tryz.func96, Tryz.ntmps96
   go_wp2
   go_returns
   exact ⟨rfl, by go_grown⟩
  ·rw [ofP_in (by omega) (by omega)]
   go_enter Tryz.func96, Tryz.ntmps96
   go_wp2
   go_returns
   exact ⟨rfl, by go_grown⟩

theorem rsize_any (n : Int) (w : World) (h1 : -1000000000000 ≤ n) (h2 : n ≤ 1000000000000) : Calls Tryz.prog 133 #[.int .i64 n] w fun e w' => e = .returned (.int .i64 (ab n)) ∧ w' = w := by
 unfold ab
 by_cases h : n < 0
 ·rw [if_pos h]
  go_enter Tryz.func133, Tryz.ntmps133
  go_wp2
  go_ret
  exact ⟨rfl, rfl⟩
 ·rw [if_neg h]
  go_enter Tryz.func133, Tryz.ntmps133
  go_wp2
  go_ret
  exact ⟨rfl, rfl⟩
end Go.Proofs.YtjffbmejobjmjafGreatDoor

namespace Go.Proofs.YtjffbmejobjmjafGreatDoor
open Go Go.ChangeShapes Go.WideShapes Go.ChangeAt Go.RowKit

theorem post_below {H : Type} {enc : TypeId × Value → H} {P : Program} {f : Func} {s : ChangeSpec} {apart fresh handsOn : Bool} {W W' : World} {args : Array Value} {v : Value} {ds gs : List (DataW H)} {before pa pv : List MemPlace}
  (hW : DataW.Whole enc P f.params.toList s.vars apart W args.toList ds gs before)
  (hres : ∀ (b : Nat) (sp : Nat → Bool) (hd : Bool), DataW.TrodAll enc P W' b sp hd f.resultTypes.toList (v.resultList f.resultTypes.size) (s.fn H (ds ++ gs)).results [])
  (hargs : ∀ sp : Nat → Bool, (∀ p ∈ before, sp p.block = true) → DataW.TrodAll enc P W' 0 sp true f.params.toList args.toList (s.fn H (ds ++ gs)).args pa)
  (hvars : ∀ sp : Nat → Bool, (∀ p ∈ before, sp p.block = true) → DataW.TrodVars enc P W' sp s.vars (s.fn H (ds ++ gs)).vars pv)
  (hps : before = pa ++ pv) (hk : W.keptBut W' (· ∈ before)) :
  s.post enc P f apart fresh handsOn false W args v W' := by
 have hold : ∀ p ∈ before, (fun b => decide (b < W.heap.size)) p.block = true := fun p hp => by simpa using hW.lt p hp
 refine ⟨ds, gs, before, [], pa, pv, hW, hres _ _ _, hargs _ hold, hvars _ hold, World.keptBut_mono (fun p hp => ⟨hp, ?_⟩) hk, fun h => by cases h⟩
 rw [hps, List.mem_append] at hp
 exact Or.inr hp
end Go.Proofs.YtjffbmejobjmjafGreatDoor

