/-
  Places by number, on plain data: how many stand ahead of a place, and the place of a number; dims of a whole and so many parts, and outlines of such dims.
  What package place tells, as plain functions on plain data: what is wrong with a place, its number, a number's place, its text, a text's place; and that each undoes the other.
  plain.Told and tallysame.Error: of nil 0, of an api.Errno its number.
  A law's end by 'Below': where nothing old has turned and the row asks for no second call, the results, the arguments and the frame are enough.
-/
import Derived.Lib.Strings
import Derived.Test.YtfngmnhkhfgmjacDoorJIAH
import Derived.Test.YtfngmnhkhfgmjacDoorJIAI
namespace Go.Proofs.YtfngmnhkhfgmjacDoor
def numTo (D : Nat → Dm) (P : Nat → Nat) : Nat → Nat
 | 0 => 0
 | k + 1 => numTo D P k * (D k).n + P k
theorem numTo_lt {D : Nat → Dm} {P : Nat → Nat} (k : Nat) (h : ∀ j, j < k → P j < (D j).n) : numTo D P k < prodN D k := by
 induction k with
 | zero => exact Nat.one_pos
 | succ k ih =>
  have h1 := ih fun j hj => h j (by omega)
  have h2 := h k (by omega)
  rw [numTo, prodN]
  have h3 : (numTo D P k + 1) * (D k).n ≤ prodN D k * (D k).n := Nat.mul_le_mul_right _ h1
  rw [Nat.add_mul] at h3
  omega
end Go.Proofs.YtfngmnhkhfgmjacDoor
namespace Go.Proofs.YtfngmnhkhfgmjacDoor
def outP (D : Nat → Dm) (L : List Int) (i : Nat) : Bool := decide (L.getD i 0 < 0) || decide (((D i).n : Int) ≤ L.getD i 0)
def shapeErr (D : Nat → Dm) (n : Nat) (L : List Int) : Int := if L.length ≠ n then 3 else if 0 ≤ findFrom (outP D L) n 0 then 1 else 0
def placeErr (D : Nat → Dm) (n : Nat) (L : List Int) : Int := if (allErr D n).2.2 ≠ 0 then (allErr D n).2.2 else shapeErr D n L
theorem sh0 {D : Nat → Dm} {n : Nat} {L : List Int} (h : L.length ≠ n) : shapeErr D n L = 3 := by unfold shapeErr; rw [if_pos h]
theorem sh1 {D : Nat → Dm} {n : Nat} {L : List Int} (h : L.length = n) (h1 : 0 ≤ findFrom (outP D L) n 0) : shapeErr D n L = 1 := by unfold shapeErr; rw [if_neg (by simpa using h), if_pos h1]
theorem sh2 {D : Nat → Dm} {n : Nat} {L : List Int} (h : L.length = n) (h1 : ¬ 0 ≤ findFrom (outP D L) n 0) : shapeErr D n L = 0 := by unfold shapeErr; rw [if_neg (by simpa using h), if_neg h1]
theorem pe0 {D : Nat → Dm} {n : Nat} {L : List Int} (h : (allErr D n).2.2 ≠ 0) : placeErr D n L = (allErr D n).2.2 := by unfold placeErr; rw [if_pos h]
theorem pe1 {D : Nat → Dm} {n : Nat} {L : List Int} (h : (allErr D n).2.2 = 0) : placeErr D n L = shapeErr D n L := by unfold placeErr; rw [if_neg (by simpa using h)]
structure InO (D : Nat → Dm) (n : Nat) (L : List Int) : Prop where
 right : (allErr D n).2.2 = 0
 len : L.length = n
 lo : ∀ i, i < n → 0 ≤ L.getD i 0
 hi : ∀ i, i < n → L.getD i 0 < ((D i).n : Int)
theorem allErr_some {D : Nat → Dm} {n : Nat} (h : (allErr D n).2.2 = 0) : 1 ≤ n ∧ n ≤ 4 ∧ prodN D n ≤ 3000 ∧ ∀ i, i < n → 1 ≤ (D i).n ∧ (D i).n ≤ 12 := by
 have h4 := allErr_right h
 unfold allErr at h
 split at h
 ·simp at h
 ·split at h
  ·simp at h
  ·split at h
   ·rename_i h3; exact absurd h h3
   ·split at h
    ·simp at h
    ·rename_i a b c d
     exact ⟨by omega, by omega, by omega, fun i hi => ⟨(dimErr_right (h4.2 i hi)).2.1, (dimErr_right (h4.2 i hi)).2.2.1⟩⟩
theorem inO_of {D : Nat → Dm} {n : Nat} {L : List Int} (h : placeErr D n L = 0) : InO D n L := by
 unfold placeErr at h
 split at h
 ·rename_i h1; exact absurd h h1
 ·rename_i h1
  unfold shapeErr at h
  split at h
  ·cases h
  ·split at h
   ·cases h
   ·rename_i h2 h3
    have hn : ∀ i, i < n → outP D L i = false := fun i hi => by
     rcases findFrom_cases (outP D L) n 0 with ⟨_, h4⟩ | ⟨k, h4, _⟩
     ·exact h4 i (Nat.zero_le _) (by omega)
     ·rw [h4] at h3; omega
    exact ⟨by simpa using h1, by simpa using h2, fun i hi => by have := hn i hi; simp [outP, -List.getD_eq_getElem?_getD] at this; omega, fun i hi => by have := hn i hi; simp [outP, -List.getD_eq_getElem?_getD] at this; omega⟩
theorem InO.ok {D : Nat → Dm} {n : Nat} {L : List Int} (h : InO D n L) : placeErr D n L = 0 := by
 rw [pe1 h.right, sh2 h.len]
 rw [findFrom_none]
 ·decide
 ·intro j _ hj
  have h1 := h.lo j (by omega)
  have h2 := h.hi j (by omega)
  simp [outP, -List.getD_eq_getElem?_getD]
  omega
def numI (D : Nat → Dm) (L : List Int) : Nat → Int
 | 0 => 0
 | k + 1 => numI D L k * ((D k).n : Int) + L.getD k 0
theorem numI_nat {D : Nat → Dm} {L : List Int} (k : Nat) (h : ∀ i, i < k → 0 ≤ L.getD i 0) : numI D L k = (numTo D (fun i => (L.getD i 0).toNat) k : Int) := by
 induction k with
 | zero => rfl
 | succ k ih =>
  have := h k (by omega)
  rw [numI, numTo, ih fun i hi => h i (by omega), Int.natCast_add, Int.natCast_mul, Int.toNat_of_nonneg this]
theorem prodN_small {D : Nat → Dm} {k : Nat} (h : ∀ j, j < k → (D j).n ≤ 12) (hk : k ≤ 4) : prodN D k ≤ 20736 := by
 have h1 := prodN_le h
 have h2 : 12 ^ k ≤ 12 ^ 4 := Nat.pow_le_pow_right (by decide) hk
 have h3 : (12 : Nat) ^ 4 = 20736 := by decide
 omega
theorem numI_bound {D : Nat → Dm} {n : Nat} {L : List Int} (h : InO D n L) {k : Nat} (hk : k ≤ n) : 0 ≤ numI D L k ∧ numI D L k < (prodN D k : Int) ∧ prodN D k ≤ 20736 := by
 obtain ⟨_, h4, _, hd⟩ := allErr_some h.right
 rw [numI_nat k fun i hi => h.lo i (by omega)]
 have h1 := numTo_lt (D := D) (P := fun i => (L.getD i 0).toNat) k fun j hj => by
  have := h.lo j (by omega)
  have := h.hi j (by omega)
  omega
 refine ⟨by omega, by omega, prodN_small (fun j hj => (hd j (by omega)).2) (by omega)⟩
end Go.Proofs.YtfngmnhkhfgmjacDoor
namespace Go.Proofs.YtfngmnhkhfgmjacDoor
open Go.ChangeShapes Go.WideShapes Go.ChangeAt Go.RowKit
theorem told_nil (w : World) : Calls Tryd.prog 29 #[.nilIface] w fun e w' => e = .returned (.int .i64 0) ∧ w' = w := by
 go_enter Tryd.func29, Tryd.ntmps29
 go_wp2
 go_ret
 exact ⟨rfl, rfl⟩
theorem told_hit (c : Int) (w : World) (hk : Kind0 w) : Calls Tryd.prog 29 #[.iface 69 (.int .i64 c)] w fun e w' => e = .returned (.int .i64 c) ∧ Below w.heap.size w w' := by
 have h := as_hit c w.heap.size (w.alloc (.cells #[.int .i64 0] 69)) (hk.later ((Below.refl _ _).alloc (Nat.le_refl _) _)) (by simp) (by simp) (by simp)
 go_enter Tryd.func29, Tryd.ntmps29
 go_wp2_with fail
 refine h.mono ?_
 rintro e w1 ⟨rfl, hw1⟩
 have hB : Below w.heap.size w w1 := by rw [hw1]; go_grown
 have hc : w1.cell? ⟨w.heap.size, 0, none⟩ = some (.int .i64 c) := by
  rw [hw1]
  refine World.cell?_setCell_same _ _ _ (u := .int .i64 0) ?_
  rw [World.cell?_alloc_lt _ _ ⟨w.heap.size, 0, none⟩ (by first | (simp; done) | (simp; omega)), World.cell?_alloc_lt _ _ ⟨w.heap.size, 0, none⟩ (by first | (simp; done) | (simp; omega)), World.cell?_alloc_lt _ _ ⟨w.heap.size, 0, none⟩ (by first | (simp; done) | (simp; omega)), World.cell?_alloc_lt _ _ ⟨w.heap.size, 0, none⟩ (by first | (simp; done) | (simp; omega))]
  simp
 clear hw1 h hk
 go_wp2_with fail
 go_ret
 exact ⟨rfl, hB⟩
theorem same_nil (n : Int) (w : World) : Calls Tryd.prog 10 #[.nilIface, .int .i64 n] w fun e w' => e = .returned (.bool (0 == n)) ∧ Below w.heap.size w w' := by
 go_enter Tryd.func10, Tryd.ntmps10
 go_wp2_with (go_at_call 29; refine (told_nil _).mono ?_; rintro e w1 ⟨rfl, rfl⟩)
 go_ret
 exact ⟨rfl, Below.refl _ _⟩
theorem same_hit (c n : Int) (w : World) (hk : Kind0 w) : Calls Tryd.prog 10 #[.iface 69 (.int .i64 c), .int .i64 n] w fun e w' => e = .returned (.bool (c == n)) ∧ Below w.heap.size w w' := by
 go_enter Tryd.func10, Tryd.ntmps10
 go_wp2_with fail
 refine (told_hit c _ hk).mono ?_
 rintro e w1 ⟨rfl, hb⟩
 go_wp2_with fail
 go_ret
 exact ⟨rfl, hb⟩
end Go.Proofs.YtfngmnhkhfgmjacDoor
namespace Go.Proofs.YtfngmnhkhfgmjacDoor
open Go Go.ChangeShapes Go.WideShapes Go.ChangeAt Go.RowKit
theorem post_below {H : Type} {enc : TypeId × Value → H} {P : Program} {f : Func} {s : ChangeSpec} {apart fresh handsOn : Bool} {W W' : World} {args : Array Value} {v : Value} {ds gs : List (DataW H)} {before pa pv : List MemPlace}
  (hW : DataW.Whole enc P f.params.toList s.vars apart W args.toList ds gs before)
  (hres : ∀ (b : Nat) (sp : Nat → Bool) (hd : Bool), DataW.TrodAll enc P W' b sp hd f.resultTypes.toList (v.resultList f.resultTypes.size) (s.fn H (ds ++ gs)).results [])
  (hargs : ∀ sp : Nat → Bool, (∀ p ∈ before, sp p.block = true) → DataW.TrodAll enc P W' 0 sp true f.params.toList args.toList (s.fn H (ds ++ gs)).args pa)
  (hvars : ∀ sp : Nat → Bool, (∀ p ∈ before, sp p.block = true) → DataW.TrodVars enc P W' sp s.vars (s.fn H (ds ++ gs)).vars pv)
  (hps : before = pa ++ pv) (hk : W.keptBut W' (· ∈ before)) :
  s.post enc P f apart fresh handsOn false W args v W' := by
 have hold : ∀ p ∈ before, (fun b => decide (b < W.heap.size)) p.block = true := fun p hp => by simpa using hW.lt p hp
 refine ⟨ds, gs, before, [], pa, pv, hW, hres _ _ _, hargs _ hold, hvars _ hold, World.keptBut_mono (fun p hp => ⟨hp, ?_⟩) hk, fun h => by cases h⟩
 rw [hps, List.mem_append] at hp
 exact Or.inr hp
end Go.Proofs.YtfngmnhkhfgmjacDoor
