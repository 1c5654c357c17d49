/-
  The texts a*b+c and a-(b-c) of three small numbers, on plain data: what is read of them, and what it comes to.
  The document's own digits of a number (tallyref1.Digits): its numeral.
  What tallylaw4.ReckonNumbers answers, called in whatever memory: true.
-/
import Derived.Test.YtklfenojapgmnaeGreatDoorFRM
import Derived.Test.YtklfenojapgmnaeGreatDoorNums
import Derived.Test.YtklfenojapgmnaeGreatDoorOut2
import Derived.WalkSpells
import Derived.WalkLawsBesides
import Derived.Test.YtklfenojapgmnaeGreatDoorCells6
namespace Go.Proofs.YtklfenojapgmnaeGreatDoor

/-- a text of a tree is read as its nodes, which come to what the tree does -/
theorem tre_value (t : Tre) (h : okT t) (h30 : sizT t ≤ 30) (hs : (treT t).size ≤ 100) (hc : constT t = true) : prsE (treT t) = 0 ∧ valE (prsL (treT t)) [] [] = 0 ∧ valC (prsL (treT t)) [] [] = valT [] [] t := by
  obtain ⟨g1, g2⟩ := gone_tree t h
  have hf := form_post t h h30
  have hE : prsE (treT t) = 0 := by
    unfold prsE
    rw [if_neg (by omega), if_pos g1, g2]
    exact hf
  have hL : prsL (treT t) = post t 0 := by
    unfold prsL
    rw [if_pos hE, g2]
  have hv : valE (post t 0) [] [] = 0 := by
    unfold valE
    rw [hf, ck_nil, tree_post t h, miss_const _ _ hc]
    rfl
  refine ⟨hE, by rw [hL]; exact hv, ?_⟩
  rw [hL]
  unfold valC
  rw [if_pos hv, tree_post t h]
theorem numB_size {n : Int} (h0 : 0 ≤ n) (h1 : n ≤ 1000) : (numB n).size ≤ 7 := by
  obtain ⟨u, rfl⟩ : ∃ u : Nat, n = u := ⟨n.toNat, by omega⟩
  have := dig7_le u (by omega)
  unfold numB
  rw [Lib.itoa_nonneg]
  show (Lib.decDigits u).toArray.size ≤ 7
  simpa using this
def tr1 (a b c : Int) : Tre := .bin 3 (.bin 5 (.num a) (.num b)) (.num c)
def tr2 (a b c : Int) : Tre := .bin 4 (.num a) (.bin 4 (.num b) (.num c))
theorem tre1 (a b c : Int) : treT (tr1 a b c) = numB a ++ ⟨#[42]⟩ ++ numB b ++ ⟨#[43]⟩ ++ numB c := by
  unfold tr1
  rw [tre_bin, tre_bin, tre_num, tre_num, tre_num]
  rfl
theorem tre2 (a b c : Int) : treT (tr2 a b c) = numB a ++ ⟨#[45, 40]⟩ ++ numB b ++ ⟨#[45]⟩ ++ numB c ++ ⟨#[41]⟩ := by
  unfold tr2
  rw [tre_bin, tre_bin, tre_num, tre_num, tre_num]
  have e1 : brk (numB a) (decide (bindT (.num a) < bindN 4)) = numB a := rfl
  have e2 : brk (numB b) (decide (bindT (.num b) < bindN 4)) = numB b := rfl
  have e3 : brk (numB c) (decide (bindT (.num c) ≤ bindN 4)) = numB c := rfl
  have e4 : ∀ x, brk x (decide (bindT (.bin 4 (.num b) (.num c)) ≤ bindN 4)) = ⟨#[40]⟩ ++ x ++ ⟨#[41]⟩ := fun x => rfl
  have e5 : sgnT 4 = ⟨#[45]⟩ := rfl
  rw [e1, e2, e3, e4, e5]
  apply ByteArray.ext
  apply Array.toList_inj.1
  simp
theorem ofP_small {n : Int} (h1 : -2000000 ≤ n) (h2 : n ≤ 2000000) : ofP n = (1, n) := ofP_in (by omega) (by omega)
theorem nums_one {a b : Int} (ha : 0 ≤ a ∧ a ≤ 1000) (hb : 0 ≤ b ∧ b ≤ 1000) : a * b ≤ 1000000 ∧ 0 ≤ a * b := by
  have h1 : a * b ≤ 1000 * 1000 := Int.mul_le_mul ha.2 hb.2 hb.1 (by omega)
  have h2 := Int.mul_nonneg ha.1 hb.1
  omega
theorem num1 {a b c : Int} (ha : 0 ≤ a ∧ a ≤ 1000) (hb : 0 ≤ b ∧ b ≤ 1000) (hc : 0 ≤ c ∧ c ≤ 1000) : prsE (numB a ++ ⟨#[42]⟩ ++ numB b ++ ⟨#[43]⟩ ++ numB c) = 0 ∧ valE (prsL (numB a ++ ⟨#[42]⟩ ++ numB b ++ ⟨#[43]⟩ ++ numB c)) [] [] = 0 ∧ valC (prsL (numB a ++ ⟨#[42]⟩ ++ numB b ++ ⟨#[43]⟩ ++ numB c)) [] [] = (1, a * b + c) := by
  have s1 := numB_size ha.1 ha.2
  have s2 := numB_size hb.1 hb.2
  have s3 := numB_size hc.1 hc.2
  obtain ⟨p1, p2⟩ := nums_one ha hb
  have hz : (treT (tr1 a b c)).size ≤ 100 := by
    rw [tre1, ByteArray.size_append, ByteArray.size_append, ByteArray.size_append, ByteArray.size_append]
    have z1 : (ByteArray.mk #[42]).size = 1 := rfl
    have z2 : (ByteArray.mk #[43]).size = 1 := rfl
    omega
  have h := tre_value (tr1 a b c) ⟨by omega, ⟨by omega, ⟨ha.1, by omega⟩, ⟨hb.1, by omega⟩⟩, ⟨hc.1, by omega⟩⟩ (by show 1 + 1 + 1 + 1 + 1 ≤ 30; omega) hz rfl
  rw [tre1] at h
  refine ⟨h.1, h.2.1, h.2.2.trans ?_⟩
  show opP 3 (opP 5 (ofP a) (ofP b)) (ofP c) = _
  rw [ofP_small (by omega) (by omega), ofP_small (by omega) (by omega), ofP_small (by omega) (by omega)]
  have e1 : opP 5 (1, a) (1, b) = ofP (a * b) := rfl
  rw [e1, ofP_small (by omega) (by omega)]
  have e2 : opP 3 (1, a * b) (1, c) = ofP (a * b + c) := rfl
  rw [e2, ofP_small (by omega) (by omega)]
theorem num2 {a b c : Int} (ha : 0 ≤ a ∧ a ≤ 1000) (hb : 0 ≤ b ∧ b ≤ 1000) (hc : 0 ≤ c ∧ c ≤ 1000) : prsE (numB a ++ ⟨#[45, 40]⟩ ++ numB b ++ ⟨#[45]⟩ ++ numB c ++ ⟨#[41]⟩) = 0 ∧ valE (prsL (numB a ++ ⟨#[45, 40]⟩ ++ numB b ++ ⟨#[45]⟩ ++ numB c ++ ⟨#[41]⟩)) [] [] = 0 ∧ valC (prsL (numB a ++ ⟨#[45, 40]⟩ ++ numB b ++ ⟨#[45]⟩ ++ numB c ++ ⟨#[41]⟩)) [] [] = (1, a - (b - c)) := by
  have s1 := numB_size ha.1 ha.2
  have s2 := numB_size hb.1 hb.2
  have s3 := numB_size hc.1 hc.2
  have hz : (treT (tr2 a b c)).size ≤ 100 := by
    rw [tre2, ByteArray.size_append, ByteArray.size_append, ByteArray.size_append, ByteArray.size_append, ByteArray.size_append]
    have z1 : (ByteArray.mk #[45, 40]).size = 2 := rfl
    have z2 : (ByteArray.mk #[45]).size = 1 := rfl
    have z3 : (ByteArray.mk #[41]).size = 1 := rfl
    omega
  have h := tre_value (tr2 a b c) ⟨by omega, ⟨ha.1, by omega⟩, ⟨by omega, ⟨hb.1, by omega⟩, ⟨hc.1, by omega⟩⟩⟩ (by show 1 + (1 + 1 + 1) + 1 ≤ 30; omega) hz rfl
  rw [tre2] at h
  refine ⟨h.1, h.2.1, h.2.2.trans ?_⟩
  show opP 4 (ofP a) (opP 4 (ofP b) (ofP c)) = _
  rw [ofP_small (by omega) (by omega), ofP_small (by omega) (by omega), ofP_small (by omega) (by omega)]
  have e1 : opP 4 (1, b) (1, c) = ofP (b - c) := rfl
  rw [e1, ofP_small (by omega) (by omega)]
  have e2 : opP 4 (1, a) (1, b - c) = ofP (a - (b - c)) := rfl
  rw [e2, ofP_small (by omega) (by omega)]
end Go.Proofs.YtklfenojapgmnaeGreatDoor

namespace Go.Proofs.YtklfenojapgmnaeGreatDoor
open Go.ChangeShapes Go.WideShapes Go.ChangeAt Go.RowKit

theorem dig_fin : ∀ p : Fin 10, (ByteArray.mk #[48, 49, 50, 51, 52, 53, 54, 55, 56, 57]).extract p.val (p.val + 1) = ⟨#[UInt8.ofNat (48 + p.val)]⟩ := by decide +kernel
theorem dig_piece (d : Nat) (h : d < 10) : (ByteArray.mk #[48, 49, 50, 51, 52, 53, 54, 55, 56, 57]).extract d (d + 1) = ⟨#[UInt8.ofNat (48 + d)]⟩ := dig_fin ⟨d, h⟩

theorem digits_one (u : Nat) (h : u < 10) (w : World) : Calls Tryz.prog 13 #[.int .i64 u] w fun e w' => e = .returned (.string ⟨(Lib.decDigits u).toArray⟩) ∧ w' = w := by
  have h1 : (u : Int) < 10 := by omega
  go_enter Tryz.func13, Tryz.ntmps13
  go_wp2
  go_ret
  exact ⟨by rw [dig_piece u h, Lib.decDigits_one h]; rfl, rfl⟩

theorem digits_more (u : Nat) (h : 10 ≤ u) (hu : u ≤ 1000000000000) (w : World) (ih : ∀ w : World, Calls Tryz.prog 13 #[.int .i64 ((u / 10 : Nat) : Int)] w fun e w' => e = .returned (.string ⟨(Lib.decDigits (u / 10)).toArray⟩) ∧ w' = w) : Calls Tryz.prog 13 #[.int .i64 u] w fun e w' => e = .returned (.string ⟨(Lib.decDigits u).toArray⟩) ∧ w' = w := by
  have h1 : (10 : Int) ≤ u := by omega
  have h2 : (u : Int) ≤ 1000000000000 := by omega
  have ih' : ∀ w : World, Calls Tryz.prog 13 #[.int .i64 ((u : Int) / 10)] w fun e w' => e = .returned (.string ⟨(Lib.decDigits (u / 10)).toArray⟩) ∧ w' = w := by
    rw [show ((u : Int) / 10) = ((u / 10 : Nat) : Int) from by omega]
    exact ih
  have hsz : (Lib.decDigits (u / 10)).length ≤ 15 := nDigits_le _ 15 (by omega) (by omega)
  have hfin : (ByteArray.mk (Lib.decDigits (u / 10)).toArray) ++ (ByteArray.mk #[UInt8.ofNat (48 + u % 10)]) = ⟨(Lib.decDigits u).toArray⟩ := by
    rw [Lib.decDigits.eq_1 u, dif_neg (by omega)]
    apply ByteArray.ext
    simp
  have HF : Hid ((ByteArray.mk (Lib.decDigits (u / 10)).toArray) ++ (ByteArray.mk #[UInt8.ofNat (48 + u % 10)]) = ⟨(Lib.decDigits u).toArray⟩) := hfin
  have hs1 : (ByteArray.mk (Lib.decDigits (u / 10)).toArray).size ≤ 15 := by
    show (Lib.decDigits (u / 10)).toArray.size ≤ 15
    simpa using hsz
  clear hfin ih hsz
  generalize ByteArray.mk (Lib.decDigits (u / 10)).toArray = s0 at ih' HF hs1
  generalize ByteArray.mk (Lib.decDigits u).toArray = s1 at HF ⊢
  obtain ⟨d, hd0⟩ : ∃ d : Nat, u % 10 = d := ⟨_, rfl⟩
  have hd : (u : Int) % 10 = (d : Int) := by omega
  have hd1 : (d : Int) < 10 := by omega
  have hd2 : d < 10 := by omega
  rw [hd0] at HF
  go_enter Tryz.func13, Tryz.ntmps13
  go_wp2_with fail
  refine (ih' _).mono ?_
  rintro e w1 ⟨rfl, rfl⟩
  go_wp2_with fail
  go_ret
  exact ⟨by rw [dig_piece d hd2, HF.out]; rfl, rfl⟩

theorem digits_nat (u : Nat) (hu : u ≤ 1000000000000) : ∀ w : World, Calls Tryz.prog 13 #[.int .i64 u] w fun e w' => e = .returned (.string ⟨(Lib.decDigits u).toArray⟩) ∧ w' = w := by
  induction u using Nat.strongRecOn with
  | _ u ih =>
    intro w
    by_cases h : u < 10
    · exact digits_one u h w
    · exact digits_more u (by omega) hu w (ih (u / 10) (by omega) (by omega))

theorem digits_any (n : Int) (h1 : -1000000000000 ≤ n) (h2 : n ≤ 1000000000000) (w : World) : Calls Tryz.prog 13 #[.int .i64 n] w fun e w' => e = .returned (.string ⟨(Lib.itoa n).toArray⟩) ∧ w' = w := by
  unfold Lib.itoa
  by_cases h : n < 0
  · rw [if_pos h]
    have hd := digits_nat n.natAbs (by omega)
    rw [show ((n.natAbs : Nat) : Int) = -n from by omega] at hd
    have hsz : (Lib.decDigits n.natAbs).length ≤ 15 := nDigits_le _ 15 (by omega) (by omega)
    have hfin : (ByteArray.mk #[45]) ++ (ByteArray.mk (Lib.decDigits n.natAbs).toArray) = ⟨(45 :: Lib.decDigits n.natAbs).toArray⟩ := by
      apply ByteArray.ext
      simp
    have HF : Hid ((ByteArray.mk #[45]) ++ (ByteArray.mk (Lib.decDigits n.natAbs).toArray) = ⟨(45 :: Lib.decDigits n.natAbs).toArray⟩) := hfin
    have hs1 : (ByteArray.mk (Lib.decDigits n.natAbs).toArray).size ≤ 15 := by
      show (Lib.decDigits n.natAbs).toArray.size ≤ 15
      simpa using hsz
    clear hfin hsz
    generalize ByteArray.mk (Lib.decDigits n.natAbs).toArray = s0 at hd HF hs1
    generalize ByteArray.mk (45 :: Lib.decDigits n.natAbs).toArray = s1 at HF ⊢
    go_enter Tryz.func13, Tryz.ntmps13
    go_wp2_with fail
    refine (hd _).mono ?_
    rintro e w1 ⟨rfl, rfl⟩
    go_wp2_with fail
    go_ret
    exact ⟨by rw [HF.out]; rfl, rfl⟩
  · rw [if_neg h]
    obtain ⟨u, rfl⟩ : ∃ u : Nat, n = (u : Int) := ⟨n.toNat, by omega⟩
    exact digits_nat u (by omega) w

end Go.Proofs.YtklfenojapgmnaeGreatDoor

namespace Go.Proofs.YtklfenojapgmnaeGreatDoor
open Go.ChangeShapes Go.WideShapes Go.ChangeAt Go.RowKit
set_option maxRecDepth 20000

theorem value_nilN (A : Option Addr) (cap : Nat) (l : List Nd) (w : World) (hL : NdsV w A cap l) : Calls Tryz.prog 10 #[.slice A l.length cap, .slice none 0 0, .slice none 0 0] w fun e w' => e = .returned (.tuple #[.agg #[.int .i64 (valC l [] []).1, .int .i64 (valC l [] []).2], errV (valE l [] [])]) ∧ Below w.heap.size w w' :=
  value_any A cap l none 0 [] none 0 [] w hL (NmV.nil _ _ _ (by decide)) (CelV.nil _ _ _ (by decide))

set_option maxHeartbeats 8000000 in
theorem rnums_any (a b c : Int) (w : World) : Calls Tryz.prog 5 #[.int .i64 a, .int .i64 b, .int .i64 c] w fun e w' => e = .returned (.bool true) ∧ Below w.heap.size w w' := by
  have h5 := of_in (n := 5) (by omega) (by omega)
  by_cases h0 : a < 0
  · go_enter Tryz.func5, Tryz.ntmps5
    go_wp2_with fail
    refine (h5 _).mono ?_
    rintro e w1 ⟨rfl, hb1⟩
    have HB1 := hid_of hb1
    clear hb1
    go_wp2_with fail
    go_ret
    exact ⟨rfl, HB1.out.alloc HB1.out.size _⟩
  by_cases h1 : 1000 < a
  · go_enter Tryz.func5, Tryz.ntmps5
    go_wp2_with fail
    refine (h5 _).mono ?_
    rintro e w1 ⟨rfl, hb1⟩
    have HB1 := hid_of hb1
    clear hb1
    go_wp2_with fail
    go_ret
    exact ⟨rfl, HB1.out.alloc HB1.out.size _⟩
  by_cases h2 : b < 0
  · go_enter Tryz.func5, Tryz.ntmps5
    go_wp2_with fail
    refine (h5 _).mono ?_
    rintro e w1 ⟨rfl, hb1⟩
    have HB1 := hid_of hb1
    clear hb1
    go_wp2_with fail
    go_ret
    exact ⟨rfl, HB1.out.alloc HB1.out.size _⟩
  by_cases h3 : 1000 < b
  · go_enter Tryz.func5, Tryz.ntmps5
    go_wp2_with fail
    refine (h5 _).mono ?_
    rintro e w1 ⟨rfl, hb1⟩
    have HB1 := hid_of hb1
    clear hb1
    go_wp2_with fail
    go_ret
    exact ⟨rfl, HB1.out.alloc HB1.out.size _⟩
  by_cases h4 : c < 0
  · go_enter Tryz.func5, Tryz.ntmps5
    go_wp2_with fail
    refine (h5 _).mono ?_
    rintro e w1 ⟨rfl, hb1⟩
    have HB1 := hid_of hb1
    clear hb1
    go_wp2_with fail
    go_ret
    exact ⟨rfl, HB1.out.alloc HB1.out.size _⟩
  by_cases h6 : 1000 < c
  · go_enter Tryz.func5, Tryz.ntmps5
    go_wp2_with fail
    refine (h5 _).mono ?_
    rintro e w1 ⟨rfl, hb1⟩
    have HB1 := hid_of hb1
    clear hb1
    go_wp2_with fail
    go_ret
    exact ⟨rfl, HB1.out.alloc HB1.out.size _⟩
  obtain ⟨m1, m2, m3⟩ := num1 (a := a) (b := b) (c := c) ⟨by omega, by omega⟩ ⟨by omega, by omega⟩ ⟨by omega, by omega⟩
  obtain ⟨n1, n2, n3⟩ := num2 (a := a) (b := b) (c := c) ⟨by omega, by omega⟩ ⟨by omega, by omega⟩ ⟨by omega, by omega⟩
  obtain ⟨p1, p2⟩ := nums_one (a := a) (b := b) ⟨by omega, by omega⟩ ⟨by omega, by omega⟩
  have da := digits_any a (by omega) (by omega)
  have db := digits_any b (by omega) (by omega)
  have dc := digits_any c (by omega) (by omega)
  have za := numB_size (n := a) (by omega) (by omega)
  have zb := numB_size (n := b) (by omega) (by omega)
  have zc := numB_size (n := c) (by omega) (by omega)
  have ea : (⟨(Lib.itoa a).toArray⟩ : ByteArray) = numB a := rfl
  have eb : (⟨(Lib.itoa b).toArray⟩ : ByteArray) = numB b := rfl
  have ec : (⟨(Lib.itoa c).toArray⟩ : ByteArray) = numB c := rfl
  rw [ea] at da
  rw [eb] at db
  rw [ec] at dc
  have hP1 := fun w' => fparse_any (numB a ++ ⟨#[42]⟩ ++ numB b ++ ⟨#[43]⟩ ++ numB c) w' (by simp only [ByteArray.size_append]; have z1 : (ByteArray.mk #[42]).size = 1 := rfl; have z2 : (ByteArray.mk #[43]).size = 1 := rfl; omega)
  have hP2 := fun w' => fparse_any (numB a ++ ⟨#[45, 40]⟩ ++ numB b ++ ⟨#[45]⟩ ++ numB c ++ ⟨#[41]⟩) w' (by simp only [ByteArray.size_append]; have z1 : (ByteArray.mk #[45, 40]).size = 2 := rfl; have z2 : (ByteArray.mk #[45]).size = 1 := rfl; have z3 : (ByteArray.mk #[41]).size = 1 := rfl; omega)
  rw [m1, errV_zero] at hP1
  rw [n1, errV_zero] at hP2
  obtain ⟨L1, hL1⟩ : ∃ L, prsL (numB a ++ ⟨#[42]⟩ ++ numB b ++ ⟨#[43]⟩ ++ numB c) = L := ⟨_, rfl⟩
  obtain ⟨L2, hL2⟩ : ∃ L, prsL (numB a ++ ⟨#[45, 40]⟩ ++ numB b ++ ⟨#[45]⟩ ++ numB c ++ ⟨#[41]⟩) = L := ⟨_, rfl⟩
  rw [hL1] at hP1 m2 m3
  rw [hL2] at hP2 n2 n3
  have M2 := hid_of m2
  have M3 := hid_of m3
  have N2 := hid_of n2
  have N3 := hid_of n3
  have HP1 := hid_of hP1
  have HP2 := hid_of hP2
  obtain ⟨xa, hxa⟩ : ∃ x, numB a = x := ⟨_, rfl⟩
  obtain ⟨xb, hxb⟩ : ∃ x, numB b = x := ⟨_, rfl⟩
  obtain ⟨xc, hxc⟩ : ∃ x, numB c = x := ⟨_, rfl⟩
  rw [hxa] at da za HP1 HP2
  rw [hxb] at db zb HP1 HP2
  rw [hxc] at dc zc HP1 HP2
  obtain ⟨pr, hpr⟩ : ∃ pr, a * b = pr := ⟨_, rfl⟩
  rw [hpr] at p1 p2 M3
  have hof1 := of_in (n := pr + c) (by omega) (by omega)
  have hof2 := of_in (n := a - (b - c)) (by omega) (by omega)
  have i1 : 0 ≤ a := by omega
  have i2 : a ≤ 1000 := by omega
  have i3 : 0 ≤ b := by omega
  have i4 : b ≤ 1000 := by omega
  have i5 : 0 ≤ c := by omega
  have i6 : c ≤ 1000 := by omega
  clear m1 m2 m3 n1 n2 n3 hL1 hL2 hP1 hP2 hxa hxb hxc ea eb ec h0 h1 h2 h3 h4 h6
  go_enter Tryz.func5, Tryz.ntmps5
  go_wp2_with fail
  refine (h5 _).mono ?_
  rintro e w1 ⟨rfl, hb1⟩
  have HB1 := hid_of (hb1.alloc hb1.size (.cells #[.int .i64 1, .int .i64 5] 38))
  clear hb1
  go_wp2_with fail
  refine (da _).mono ?_
  rintro e w2 ⟨rfl, rfl⟩
  go_wp2_with fail
  refine (db _).mono ?_
  rintro e w2 ⟨rfl, rfl⟩
  go_wp2_with fail
  refine (dc _).mono ?_
  rintro e w2 ⟨rfl, rfl⟩
  go_wp2_with fail
  refine (HP1.out _).mono ?_
  rintro e w3 ⟨⟨A3, c3, rfl, hN3⟩, hb3⟩
  have HB3 := hid_of (onB HB1.out hb3)
  have HN3 := hid_of hN3
  clear hb3 hN3
  go_wp2_with fail
  refine (HP2.out _).mono ?_
  rintro e w4 ⟨⟨A4, c4, rfl, hN4⟩, hb4⟩
  have HB4 := hid_of (onB HB3.out hb4)
  have HM4 := hid_of (HN3.out.later hb4)
  have HN4 := hid_of hN4
  have hv4 := value_nilN A3 c3 L1 w4 HM4.out
  rw [M2.out, M3.out, errV_zero] at hv4
  clear hb4 hN4
  go_wp2_with fail
  refine hv4.mono ?_
  rintro e w5 ⟨rfl, hb5⟩
  have HB5 := hid_of (onB HB4.out hb5)
  obtain ⟨V5, hV5⟩ : ∃ V5, w5.alloc (.cells #[.int .i64 1, .int .i64 (pr + c)] 38) = V5 := ⟨_, rfl⟩
  have hb5' : Below w5.heap.size w5 V5 := by rw [← hV5]; exact (Below.refl _ _).alloc (Nat.le_refl _) _
  have g5 : V5.heap[w5.heap.size]? = some (.cells #[.int .i64 1, .int .i64 (pr + c)] 38 (0, 0)) := by rw [← hV5]; exact heap_alloc_new _ _
  have HV5 := hid_of (onB HB5.out hb5')
  have G5 := hid_of g5
  have hv6 := value_nilN A4 c4 L2 V5 (HN4.out.later (onB hb5 hb5'))
  rw [N2.out, N3.out, errV_zero] at hv6
  clear hb5 hb5' g5 hv4
  go_wp2_with fail
  refine hv6.mono ?_
  rintro e w6 ⟨rfl, hb6⟩
  have HB6 := hid_of (onB HV5.out hb6)
  have hg6 := (hb6.block w5.heap.size (Array.getElem?_eq_some_iff.1 G5.out).1).trans G5.out
  clear hb6 hv6 hV5
  obtain ⟨V6, hV6⟩ : ∃ V6, w6.alloc (.cells #[.int .i64 1, .int .i64 (a - (b - c))] 38) = V6 := ⟨_, rfl⟩
  have HV6 : Hid (Below w.heap.size w V6) := by show Below w.heap.size w V6; rw [← hV6]; exact HB6.out.alloc HB6.out.size _
  have hg7 : V6.heap[w5.heap.size]? = some (.cells #[.int .i64 1, .int .i64 (pr + c)] 38 (0, 0)) := by rw [← hV6, heap_alloc_old _ _ (Array.getElem?_eq_some_iff.1 hg6).1]; exact hg6
  have hg8 : V6.heap[w6.heap.size]? = some (.cells #[.int .i64 1, .int .i64 (a - (b - c))] 38 (0, 0)) := by rw [← hV6]; exact heap_alloc_new _ _
  have G7 := hid_of hg7
  have G8 := hid_of hg8
  have u0 : V6.cell? ⟨w5.heap.size, 0, none⟩ = some (.int .i64 1) := by simp [World.cell?, hg7]
  have u1 : V6.cell? ⟨w5.heap.size, 1, none⟩ = some (.int .i64 (pr + c)) := by simp [World.cell?, hg7]
  clear hg6 hg7 hg8
  have hA7 : At w5.heap.size 1 (pr + c) V6 := ⟨(Array.getElem?_eq_some_iff.1 G7.out).1, u0, u1⟩
  have hA8 : At w6.heap.size 1 (a - (b - c)) V6 := by
    have h := G8.out
    exact ⟨(Array.getElem?_eq_some_iff.1 h).1, by simp [World.cell?, h], by simp [World.cell?, h]⟩
  clear u0 u1
  have hw1 : IntKind.i64.wrap pr = pr := by rw [IntKind.wrap_i64]; omega
  have hw2 : IntKind.i64.wrap (pr + c) = pr + c := by rw [IntKind.wrap_i64]; omega
  have hw3 : IntKind.i64.wrap (b - c) = b - c := by rw [IntKind.wrap_i64]; omega
  have hw4 : IntKind.i64.wrap (a - (b - c)) = a - (b - c) := by rw [IntKind.wrap_i64]; omega
  go_wp2_with fail
  clear hV6
  go_region_held3 (fun w' => Below V6.heap.size V6 w' ∧ w'.cell? ⟨w5.heap.size, 0, none⟩ = some (.int .i64 1) ∧ w'.cell? ⟨w5.heap.size, 1, none⟩ = some (.int .i64 (pr + c)) ∧ w'.cell? ⟨w6.heap.size, 0, none⟩ = some (.int .i64 1) ∧ w'.cell? ⟨w6.heap.size, 1, none⟩ = some (.int .i64 (a - (b - c))))
    ((refine held_of2 hA7 hA8 ?_; go_grown; done))
    ((go_at_call 12; first | (refine (hof1 _).mono ?_; rintro e w7 ⟨rfl, hb7⟩; have hN7 := Below.next (W0 := V6) (by go_grown) hb7; clear hb7) | (refine (hof2 _).mono ?_; rintro e w8 ⟨rfl, hb8⟩; have hN8 := Below.next (W0 := V6) (by go_grown) hb8; clear hb8)))
  all_goals go_wp2_with fail
  all_goals go_ret
  all_goals first | exact ⟨rfl, onB HV6.out hN8⟩ | exact ⟨rfl, onB HV6.out hN7⟩
end Go.Proofs.YtklfenojapgmnaeGreatDoor
