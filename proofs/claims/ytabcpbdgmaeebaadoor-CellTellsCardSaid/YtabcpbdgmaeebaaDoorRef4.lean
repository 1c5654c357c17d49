/-
  The document's own digits of a number (tallyref1.Digits), and a cell as text (tallyref1.Show): what the program writes.
-/
import Derived.Test.YtabcpbdgmaeebaaDoorTexts
import Derived.WalkSpells
import Derived.WalkLawsBesides
namespace Go.Proofs.YtabcpbdgmaeebaaDoor
open Go.ChangeShapes Go.WideShapes Go.ChangeAt Go.RowKit

theorem dig_fin : ∀ p : Fin 10, (ByteArray.mk #[48, 49, 50, 51, 52, 53, 54, 55, 56, 57]).extract p.val (p.val + 1) = ⟨#[UInt8.ofNat (48 + p.val)]⟩ := by decide +kernel
theorem dig_piece (d : Nat) (h : d < 10) : (ByteArray.mk #[48, 49, 50, 51, 52, 53, 54, 55, 56, 57]).extract d (d + 1) = ⟨#[UInt8.ofNat (48 + d)]⟩ := dig_fin ⟨d, h⟩

theorem digits_one (u : Nat) (h : u < 10) (w : World) : Calls Tryd.prog 23 #[.int .i64 u] w fun e w' => e = .returned (.string ⟨(Lib.decDigits u).toArray⟩) ∧ w' = w := by
  have h1 : (u : Int) < 10 := by omega
  go_enter Tryd.func23, Tryd.ntmps23
  go_wp2
  go_ret
  exact ⟨by rw [dig_piece u h, Lib.decDigits_one h]; rfl, rfl⟩

theorem digits_more (u : Nat) (h : 10 ≤ u) (hu : u ≤ 1000000000000) (w : World) (ih : ∀ w : World, Calls Tryd.prog 23 #[.int .i64 ((u / 10 : Nat) : Int)] w fun e w' => e = .returned (.string ⟨(Lib.decDigits (u / 10)).toArray⟩) ∧ w' = w) : Calls Tryd.prog 23 #[.int .i64 u] w fun e w' => e = .returned (.string ⟨(Lib.decDigits u).toArray⟩) ∧ w' = w := by
  have h1 : (10 : Int) ≤ u := by omega
  have h2 : (u : Int) ≤ 1000000000000 := by omega
  have ih' : ∀ w : World, Calls Tryd.prog 23 #[.int .i64 ((u : Int) / 10)] w fun e w' => e = .returned (.string ⟨(Lib.decDigits (u / 10)).toArray⟩) ∧ w' = w := by
    rw [show ((u : Int) / 10) = ((u / 10 : Nat) : Int) from by omega]
    exact ih
  have hsz : (Lib.decDigits (u / 10)).length ≤ 15 := nDigits_le _ 15 (by omega) (by omega)
  have hfin : (ByteArray.mk (Lib.decDigits (u / 10)).toArray) ++ (ByteArray.mk #[UInt8.ofNat (48 + u % 10)]) = ⟨(Lib.decDigits u).toArray⟩ := by
    rw [Lib.decDigits.eq_1 u, dif_neg (by omega)]
    apply ByteArray.ext
    simp
  have HF : Hid ((ByteArray.mk (Lib.decDigits (u / 10)).toArray) ++ (ByteArray.mk #[UInt8.ofNat (48 + u % 10)]) = ⟨(Lib.decDigits u).toArray⟩) := hfin
  have hs1 : (ByteArray.mk (Lib.decDigits (u / 10)).toArray).size ≤ 15 := by
    show (Lib.decDigits (u / 10)).toArray.size ≤ 15
    simpa using hsz
  clear hfin ih hsz
  generalize ByteArray.mk (Lib.decDigits (u / 10)).toArray = s0 at ih' HF hs1
  generalize ByteArray.mk (Lib.decDigits u).toArray = s1 at HF ⊢
  obtain ⟨d, hd0⟩ : ∃ d : Nat, u % 10 = d := ⟨_, rfl⟩
  have hd : (u : Int) % 10 = (d : Int) := by omega
  have hd1 : (d : Int) < 10 := by omega
  have hd2 : d < 10 := by omega
  rw [hd0] at HF
  go_enter Tryd.func23, Tryd.ntmps23
  go_wp2_with fail
  refine (ih' _).mono ?_
  rintro e w1 ⟨rfl, rfl⟩
  go_wp2_with fail
  go_ret
  exact ⟨by rw [dig_piece d hd2, HF.out]; rfl, rfl⟩

theorem digits_nat (u : Nat) (hu : u ≤ 1000000000000) : ∀ w : World, Calls Tryd.prog 23 #[.int .i64 u] w fun e w' => e = .returned (.string ⟨(Lib.decDigits u).toArray⟩) ∧ w' = w := by
  induction u using Nat.strongRecOn with
  | _ u ih =>
    intro w
    by_cases h : u < 10
    · exact digits_one u h w
    · exact digits_more u (by omega) hu w (ih (u / 10) (by omega) (by omega))

theorem digits_any (n : Int) (h1 : -1000000000000 ≤ n) (h2 : n ≤ 1000000000000) (w : World) : Calls Tryd.prog 23 #[.int .i64 n] w fun e w' => e = .returned (.string ⟨(Lib.itoa n).toArray⟩) ∧ w' = w := by
  unfold Lib.itoa
  by_cases h : n < 0
  · rw [if_pos h]
    have hd := digits_nat n.natAbs (by omega)
    rw [show ((n.natAbs : Nat) : Int) = -n from by omega] at hd
    have hsz : (Lib.decDigits n.natAbs).length ≤ 15 := nDigits_le _ 15 (by omega) (by omega)
    have hfin : (ByteArray.mk #[45]) ++ (ByteArray.mk (Lib.decDigits n.natAbs).toArray) = ⟨(45 :: Lib.decDigits n.natAbs).toArray⟩ := by
      apply ByteArray.ext
      simp
    have HF : Hid ((ByteArray.mk #[45]) ++ (ByteArray.mk (Lib.decDigits n.natAbs).toArray) = ⟨(45 :: Lib.decDigits n.natAbs).toArray⟩) := hfin
    have hs1 : (ByteArray.mk (Lib.decDigits n.natAbs).toArray).size ≤ 15 := by
      show (Lib.decDigits n.natAbs).toArray.size ≤ 15
      simpa using hsz
    clear hfin hsz
    generalize ByteArray.mk (Lib.decDigits n.natAbs).toArray = s0 at hd HF hs1
    generalize ByteArray.mk (45 :: Lib.decDigits n.natAbs).toArray = s1 at HF ⊢
    go_enter Tryd.func23, Tryd.ntmps23
    go_wp2_with fail
    refine (hd _).mono ?_
    rintro e w1 ⟨rfl, rfl⟩
    go_wp2_with fail
    go_ret
    exact ⟨by rw [HF.out]; rfl, rfl⟩
  · rw [if_neg h]
    obtain ⟨u, rfl⟩ : ∃ u : Nat, n = (u : Int) := ⟨n.toNat, by omega⟩
    exact digits_nat u (by omega) w

theorem show_any (k n : Int) (h : good k n = true) (w : World) : Calls Tryd.prog 8 #[.agg #[.int .i64 k, .int .i64 n]] w fun e w' => e = .returned (.string ⟨(printP k n).toArray⟩) ∧ Below w.heap.size w w' := by
  obtain ⟨b1, b2⟩ := good_bd h
  have hd := digits_any n b1 b2
  clear h
  unfold printP
  by_cases h0 : k = 0
  · subst h0
    rw [if_pos rfl]
    go_enter Tryd.func8, Tryd.ntmps8
    go_wp2_with fail
    go_ret
    exact ⟨rfl, by go_grown⟩
  · rw [if_neg h0]
    have q0 : (k == 0) = false := by simpa using h0
    by_cases h2 : k = 2
    · subst h2
      rw [if_pos rfl]
      go_enter Tryd.func8, Tryd.ntmps8
      go_wp2_with fail
      go_ret
      exact ⟨rfl, by go_grown⟩
    · rw [if_neg h2]
      have q2 : (k == 2) = false := by simpa using h2
      clear h0 h2
      generalize Lib.itoa n = l at hd ⊢
      go_enter Tryd.func8, Tryd.ntmps8
      go_wp2_with fail
      refine (hd _).mono ?_
      rintro e w1 ⟨rfl, rfl⟩
      go_wp2_with fail
      go_ret
      exact ⟨rfl, by go_grown⟩
end Go.Proofs.YtabcpbdgmaeebaaDoor
