/-
  Places by number, on plain data: how many stand ahead of a place, and the place of a number; dims of a whole and so many parts, and outlines of such dims.
  What package place tells, as plain functions on plain data: what is wrong with a place, its number, a number's place, its text, a text's place; and that each undoes the other.
  What checkOutline, Cells and Of of package place answer, called in whatever memory: how many places an outline has; the place of a number, in new memory.
  What is read of an argument of the types api.Outline and api.Dim: where its dims and members lie, and what they hold.
  What the four closures that reckon answer (the sum, the difference, the product, the quotient of two numbers of cells): Of what comes of it.
  What is read of an argument of the type []int: where its numbers lie.
  A law's end by 'Below': where nothing old has turned and the row asks for no second call, the results, the arguments and the frame are enough.
-/
import Derived.Lib.Strings
import Derived.Deep.OwnRows
import Derived.Lib.Builder
import Derived.Deep.Slices
import Derived.Deep.Strs
import Derived.Deep.Fields
import Derived.Test.YtfngmnhkhfgmjadJRAH
import Derived.Test.YtfngmnhkhfgmjadJRAJ
namespace Go.Proofs.Ytfngmnhkhfgmjad
def numTo (D : Nat → Dm) (P : Nat → Nat) : Nat → Nat
 | 0 => 0
 | k + 1 => numTo D P k * (D k).n + P k
theorem numTo_lt {D : Nat → Dm} {P : Nat → Nat} (k : Nat) (h : ∀ j, j < k → P j < (D j).n) : numTo D P k < prodN D k := by
 induction k with
 | zero => exact Nat.one_pos
 | succ k ih =>
  have h1 := ih fun j hj => h j (by omega)
  have h2 := h k (by omega)
  rw [numTo, prodN]
  have h3 : (numTo D P k + 1) * (D k).n ≤ prodN D k * (D k).n := Nat.mul_le_mul_right _ h1
  rw [Nat.add_mul] at h3
  omega
end Go.Proofs.Ytfngmnhkhfgmjad
namespace Go.Proofs.Ytfngmnhkhfgmjad
def outP (D : Nat → Dm) (L : List Int) (i : Nat) : Bool := decide (L.getD i 0 < 0) || decide (((D i).n : Int) ≤ L.getD i 0)
def shapeErr (D : Nat → Dm) (n : Nat) (L : List Int) : Int := if L.length ≠ n then 3 else if 0 ≤ findFrom (outP D L) n 0 then 1 else 0
def placeErr (D : Nat → Dm) (n : Nat) (L : List Int) : Int := if (allErr D n).2.2 ≠ 0 then (allErr D n).2.2 else shapeErr D n L
theorem sh0 {D : Nat → Dm} {n : Nat} {L : List Int} (h : L.length ≠ n) : shapeErr D n L = 3 := by unfold shapeErr; rw [if_pos h]
theorem sh1 {D : Nat → Dm} {n : Nat} {L : List Int} (h : L.length = n) (h1 : 0 ≤ findFrom (outP D L) n 0) : shapeErr D n L = 1 := by unfold shapeErr; rw [if_neg (by simpa using h), if_pos h1]
theorem sh2 {D : Nat → Dm} {n : Nat} {L : List Int} (h : L.length = n) (h1 : ¬ 0 ≤ findFrom (outP D L) n 0) : shapeErr D n L = 0 := by unfold shapeErr; rw [if_neg (by simpa using h), if_neg h1]
theorem pe0 {D : Nat → Dm} {n : Nat} {L : List Int} (h : (allErr D n).2.2 ≠ 0) : placeErr D n L = (allErr D n).2.2 := by unfold placeErr; rw [if_pos h]
theorem pe1 {D : Nat → Dm} {n : Nat} {L : List Int} (h : (allErr D n).2.2 = 0) : placeErr D n L = shapeErr D n L := by unfold placeErr; rw [if_neg (by simpa using h)]
structure InO (D : Nat → Dm) (n : Nat) (L : List Int) : Prop where
 right : (allErr D n).2.2 = 0
 len : L.length = n
 lo : ∀ i, i < n → 0 ≤ L.getD i 0
 hi : ∀ i, i < n → L.getD i 0 < ((D i).n : Int)
theorem allErr_some {D : Nat → Dm} {n : Nat} (h : (allErr D n).2.2 = 0) : 1 ≤ n ∧ n ≤ 4 ∧ prodN D n ≤ 3000 ∧ ∀ i, i < n → 1 ≤ (D i).n ∧ (D i).n ≤ 12 := by
 have h4 := allErr_right h
 unfold allErr at h
 split at h
 ·simp at h
 ·split at h
  ·simp at h
  ·split at h
   ·rename_i h3; exact absurd h h3
   ·split at h
    ·simp at h
    ·rename_i a b c d
     exact ⟨by omega, by omega, by omega, fun i hi => ⟨(dimErr_right (h4.2 i hi)).2.1, (dimErr_right (h4.2 i hi)).2.2.1⟩⟩
theorem inO_of {D : Nat → Dm} {n : Nat} {L : List Int} (h : placeErr D n L = 0) : InO D n L := by
 unfold placeErr at h
 split at h
 ·rename_i h1; exact absurd h h1
 ·rename_i h1
  unfold shapeErr at h
  split at h
  ·cases h
  ·split at h
   ·cases h
   ·rename_i h2 h3
    have hn : ∀ i, i < n → outP D L i = false := fun i hi => by
     rcases findFrom_cases (outP D L) n 0 with ⟨_, h4⟩ | ⟨k, h4, _⟩
     ·exact h4 i (Nat.zero_le _) (by omega)
     ·rw [h4] at h3; omega
    exact ⟨by simpa using h1, by simpa using h2, fun i hi => by have := hn i hi; simp [outP, -List.getD_eq_getElem?_getD] at this; omega, fun i hi => by have := hn i hi; simp [outP, -List.getD_eq_getElem?_getD] at this; omega⟩
theorem InO.ok {D : Nat → Dm} {n : Nat} {L : List Int} (h : InO D n L) : placeErr D n L = 0 := by
 rw [pe1 h.right, sh2 h.len]
 rw [findFrom_none]
 ·decide
 ·intro j _ hj
  have h1 := h.lo j (by omega)
  have h2 := h.hi j (by omega)
  simp [outP, -List.getD_eq_getElem?_getD]
  omega
def numI (D : Nat → Dm) (L : List Int) : Nat → Int
 | 0 => 0
 | k + 1 => numI D L k * ((D k).n : Int) + L.getD k 0
theorem numI_nat {D : Nat → Dm} {L : List Int} (k : Nat) (h : ∀ i, i < k → 0 ≤ L.getD i 0) : numI D L k = (numTo D (fun i => (L.getD i 0).toNat) k : Int) := by
 induction k with
 | zero => rfl
 | succ k ih =>
  have := h k (by omega)
  rw [numI, numTo, ih fun i hi => h i (by omega), Int.natCast_add, Int.natCast_mul, Int.toNat_of_nonneg this]
theorem prodN_small {D : Nat → Dm} {k : Nat} (h : ∀ j, j < k → (D j).n ≤ 12) (hk : k ≤ 4) : prodN D k ≤ 20736 := by
 have h1 := prodN_le h
 have h2 : 12 ^ k ≤ 12 ^ 4 := Nat.pow_le_pow_right (by decide) hk
 have h3 : (12 : Nat) ^ 4 = 20736 := by decide
 omega
theorem numI_bound {D : Nat → Dm} {n : Nat} {L : List Int} (h : InO D n L) {k : Nat} (hk : k ≤ n) : 0 ≤ numI D L k ∧ numI D L k < (prodN D k : Int) ∧ prodN D k ≤ 20736 := by
 obtain ⟨_, h4, _, hd⟩ := allErr_some h.right
 rw [numI_nat k fun i hi => h.lo i (by omega)]
 have h1 := numTo_lt (D := D) (P := fun i => (L.getD i 0).toNat) k fun j hj => by
  have := h.lo j (by omega)
  have := h.hi j (by omega)
  omega
 refine ⟨by omega, by omega, prodN_small (fun j hj => (hd j (by omega)).2) (by omega)⟩
end Go.Proofs.Ytfngmnhkhfgmjad
namespace Go.Proofs.Ytfngmnhkhfgmjad
open Go.ChangeShapes Go.WideShapes Go.ChangeAt Go.RowKit
set_option maxRecDepth 20000
def PlAt (w : World) (A : Option Addr) (cap : Nat) (L : List Int) : Prop := L.length ≤ cap ∧ (L = [] ∨ ∃ b o, A = some ⟨b, o, none⟩ ∧ b < w.heap.size ∧ ∀ j, j < L.length → w.cell? ⟨b, o + j, none⟩ = some (.int .i64 (L.getD j 0)))
theorem PlAt.later {w w' : World} {A : Option Addr} {cap : Nat} {L : List Int} (h : PlAt w A cap L) (hB : Below w.heap.size w w') : PlAt w' A cap L := by
 obtain ⟨h1, h2 | ⟨b, o, h2, h3, h4⟩⟩ := h
 ·exact ⟨h1, Or.inl h2⟩
 ·exact ⟨h1, Or.inr ⟨b, o, h2, Nat.lt_of_lt_of_le h3 hB.size, fun j hj => (hB.cell (p := ⟨b, o + j, none⟩) h3).trans (h4 j hj)⟩⟩
theorem PlAt.nil (w : World) (A : Option Addr) (cap : Nat) : PlAt w A cap [] := ⟨Nat.zero_le _, Or.inl rfl⟩
def NewA (N : Nat) (A : Option Addr) : Prop := ∀ b o, A = some ⟨b, o, none⟩ → N ≤ b
theorem NewA.none (N : Nat) : NewA N none := fun _ _ h => by cases h
theorem NewA.le {N M : Nat} {A : Option Addr} (h : NewA N A) (hm : M ≤ N) : NewA M A := fun b o e => Nat.le_trans hm (h b o e)
def IntB (w : World) (g : Nat) (L : List Int) : Prop := w.heap[g]? = some (.cells (L.map (Value.int .i64)).toArray 3 (0, 0))
theorem IntB.lt {w : World} {g : Nat} {L : List Int} (h : IntB w g L) : g < w.heap.size := (Array.getElem?_eq_some_iff.1 h).1
theorem IntB.cell {w : World} {g : Nat} {L : List Int} (h : IntB w g L) {j : Nat} (hj : j < L.length) : w.cell? ⟨g, j, none⟩ = some (.int .i64 (L.getD j 0)) := by
 rw [Lib.cell_of_heap h]
 simp [List.getD, hj]
theorem IntB.frozen {w : World} {g : Nat} {L : List Int} (h : IntB w g L) (j : Nat) : w.frozen? ⟨g, j, none⟩ = false := Lib.frozen_of_heap h j
theorem IntB.later {w w' : World} {g : Nat} {L : List Int} (h : IntB w g L) (hB : Below w.heap.size w w') : IntB w' g L := (hB.block g h.lt).trans h
theorem IntB.set {w : World} {g : Nat} {L : List Int} (h : IntB w g L) (j : Nat) (x : Int) : IntB (w.setCell ⟨g, j, none⟩ (.int .i64 x)) g (L.set j x) := by
 unfold IntB at *
 have e : (L.set j x).map (Value.int .i64) = (L.map (Value.int .i64)).set j (.int .i64 x) := by rw [List.map_set]
 simp [World.setCell, Array.getElem?_modify, h, e]
theorem made_ints (n : Nat) : madeCells #[.int .i64 0] n = ((List.replicate n (0 : Int)).map (Value.int .i64)).toArray := by
 apply Array.ext
 ·simp [madeCells]
 ·intro i h1 h2
  simp [madeCells, Nat.mod_one]
theorem IntB.made (w : World) (n : Nat) : IntB (w.alloc (.cells (madeCells #[.int .i64 0] n) 3)) w.heap.size (List.replicate n 0) := by
 unfold IntB
 rw [made_ints]
 exact heap_alloc_new w _
theorem Try.infoIntP : (Try.prog.info? 3).map (fun i => (i.zero, i.size, i.bytes)) = some (some (.int .i64 0), 1, 8) := by kernel_rfl
theorem checko_any (A0 : Option Addr) (cap n : Nat) (D : Nat → Dm) (A : Nat → Option Addr) (C : Nat → Nat) (w : World) (hM : DimsV w A0 cap n D A C) : Calls Try.prog 46 #[.agg #[.slice A0 n cap]] w fun e w' => e = .returned (errV (allErr D n).2.2) ∧ Below w.heap.size w w' := by
 have hB0 := ownOut_below w A0 n cap 24
 have h := all_any A0 cap n D A C (ownOut w A0 n cap 24) (hM.later hB0)
 have HB0 : Hid (Below w.heap.size w (ownOut w A0 n cap 24)) := hB0
 clear hM hB0
 generalize errV (allErr D n).2.2 = v at h
 generalize (allErr D n).1 = x at h
 generalize (allErr D n).2.1 = y at h
 go_enter Try.func46, Try.ntmps46
 go_wp2_with fail
 refine h.mono ?_
 rintro e w1 ⟨rfl, hb1⟩
 go_wp2_with fail
 go_ret
 exact ⟨rfl, onB HB0.out hb1⟩
end Go.Proofs.Ytfngmnhkhfgmjad
namespace Go.Proofs.Ytfngmnhkhfgmjad
open Go Go.ChangeShapes Go.WideShapes Go.ChangeAt Go.RowKit Go.Deep
set_option maxRecDepth 100000
section
variable {H : Type} {enc : TypeId × Value → H} {w : World} {held : Bool}
theorem addr_plain {a : Addr} {k : Nat} {v : Value} (h : w.cell? (a.add k) = some v) (hk : k = 0) : a = ⟨a.block, a.off, none⟩ := by
 subst hk
 have e : (a.add 0) = a := by simp [Addr.add]
 rw [e] at h
 have := World.cell?_spot h
 cases a
 simp_all
theorem plain_add (b o k : Nat) : (⟨b, o, none⟩ : Addr).add k = ⟨b, o + k, none⟩ := by
 unfold Addr.add
 by_cases hk : k = 0
 ·subst hk; simp
 ·rw [if_neg hk]
end
end Go.Proofs.Ytfngmnhkhfgmjad
namespace Go.Proofs.Ytfngmnhkhfgmjad
open Go.ChangeShapes Go.WideShapes Go.ChangeAt Go.RowKit
def Makes (fn : Nat) (x y : Int) (r : Int × Int) : Prop := ∀ (w : World), Calls Try.prog fn #[.int .i64 x, .int .i64 y] w fun e w' => e = .returned (.agg #[.int .i64 r.1, .int .i64 r.2]) ∧ Below w.heap.size w w'
theorem bsize {W w1 : World} {n : Nat} (hb : Below n W w1) : W.heap.size ≤ w1.heap.size := hb.size
theorem plus_any (x y : Int) (hx1 : -1000000000000 ≤ x) (hx2 : x ≤ 1000000000000) (hy1 : -1000000000000 ≤ y) (hy2 : y ≤ 1000000000000) : Makes 36 x y (ofP (x + y)) := by
 intro w
 go_enter Try.func36, Try.ntmps36
 go_wp2_with (go_at_call 11; refine (of_any _ _).mono ?_; rintro e w1 ⟨rfl, hb⟩; obtain ⟨hc, hf⟩ := bcell hb; have hz := bsize hb; simp at hz)
 refine bodyPost_ret (v := .agg #[.int .i64 (ofP (x + y)).1, .int .i64 (ofP (x + y)).2]) (by simp [results, Try.results36, go_sem, hc]) rfl ⟨rfl, ?_⟩
 exact (((((Below.refl _ _).alloc (Nat.le_refl _) _).trans (hb.mono (by simp))).setCell (by simp) _).setCell (by simp) _)
end Go.Proofs.Ytfngmnhkhfgmjad
namespace Go.Proofs.Ytfngmnhkhfgmjad
open Go Go.ChangeShapes Go.WideShapes Go.ChangeAt Go.RowKit Go.Deep
set_option maxRecDepth 100000
theorem open_list {H : Type} {enc : TypeId × Value → H} {w : World} {held : Bool} {r : Reach} {b0 : Nat} {v : Value} {d : DataW H} {p : List MemPlace} (hv : Value.okWide Try.prog w r b0 26 v) (h : DataW.Trod enc Try.prog w 0 (fun _ => true) held 26 v d p) :
  ∃ (Ap : Option Addr) (cp : Nat) (L : List Int), v = .slice Ap L.length cp ∧ PlAt w Ap cp L := by
 obtain ⟨a, len, cap, rfl⟩ := okWide_slice Try.underlying26 hv
 obtain ⟨fuel, hf⟩ := h
 have hf' : DataW.trod enc Try.prog w 0 (fun _ => true) held fuel 26 [.slice a len cap] = some (d, p) := hf
 rcases open_ints Try.underlying26 Try.underlying3 (by kernel_rfl) hf' with ⟨e, _⟩ | ⟨a', len', cap', zs, e, _, hl, _, hzl, _, hc, _⟩
 ·simp at e
  obtain ⟨rfl, rfl, rfl⟩ := e
  exact ⟨none, 0, [], rfl, PlAt.nil _ _ _⟩
 ·simp at e hzl
  obtain ⟨rfl, rfl, rfl⟩ := e
  have hlen : (zs.take len).length = len := by simp; omega
  refine ⟨some a', cap, zs.take len, by rw [hlen], by rw [hlen]; exact hl, ?_⟩
  rcases Nat.eq_zero_or_pos len with h0 | h0
  ·left
   subst h0
   simp
  right
  have c0 := hc 0 (by omega)
  have hp := addr_plain c0 rfl
  have hb := World.block_lt_of_cell? _ _ c0
  refine ⟨a'.block, a'.off, by rw [← hp], by simpa [Addr.add] using hb, fun j hj => ?_⟩
  rw [hlen] at hj
  have := hc j (by omega)
  rw [hp, plain_add] at this
  rw [this]
  simp [List.getD, hj]
end Go.Proofs.Ytfngmnhkhfgmjad
namespace Go.Proofs.Ytfngmnhkhfgmjad
open Go Go.ChangeShapes Go.WideShapes Go.ChangeAt Go.RowKit
theorem post_below {H : Type} {enc : TypeId × Value → H} {P : Program} {f : Func} {s : ChangeSpec} {apart fresh handsOn : Bool} {W W' : World} {args : Array Value} {v : Value} {ds gs : List (DataW H)} {before pa pv : List MemPlace}
  (hW : DataW.Whole enc P f.params.toList s.vars apart W args.toList ds gs before)
  (hres : ∀ (b : Nat) (sp : Nat → Bool) (hd : Bool), DataW.TrodAll enc P W' b sp hd f.resultTypes.toList (v.resultList f.resultTypes.size) (s.fn H (ds ++ gs)).results [])
  (hargs : ∀ sp : Nat → Bool, (∀ p ∈ before, sp p.block = true) → DataW.TrodAll enc P W' 0 sp true f.params.toList args.toList (s.fn H (ds ++ gs)).args pa)
  (hvars : ∀ sp : Nat → Bool, (∀ p ∈ before, sp p.block = true) → DataW.TrodVars enc P W' sp s.vars (s.fn H (ds ++ gs)).vars pv)
  (hps : before = pa ++ pv) (hk : W.keptBut W' (· ∈ before)) :
  s.post enc P f apart fresh handsOn false W args v W' := by
 have hold : ∀ p ∈ before, (fun b => decide (b < W.heap.size)) p.block = true := fun p hp => by simpa using hW.lt p hp
 refine ⟨ds, gs, before, [], pa, pv, hW, hres _ _ _, hargs _ hold, hvars _ hold, World.keptBut_mono (fun p hp => ⟨hp, ?_⟩) hk, fun h => by cases h⟩
 rw [hps, List.mem_append] at hp
 exact Or.inr hp
end Go.Proofs.Ytfngmnhkhfgmjad
