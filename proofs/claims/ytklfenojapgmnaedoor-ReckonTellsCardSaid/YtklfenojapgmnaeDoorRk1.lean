/-
  Names in a row, in memory; what check of package reckon answers: as many cells as names, each cell right, names that rise; where a name is among names that rise.
-/
import Derived.Test.YtklfenojapgmnaeDoorRk0
import Derived.Test.YtklfenojapgmnaeDoorFmC
import Derived.Test.YtklfenojapgmnaeDoorShelfG
import Derived.Laws.Cover1
namespace Go.Proofs.YtklfenojapgmnaeDoor
open Go.ChangeShapes Go.WideShapes Go.ChangeAt Go.RowKit
set_option maxRecDepth 20000

/-- a slice of names: none, or laid -/
def NmV (w : World) (A : Option Addr) (c : Nat) (N : List ByteArray) : Prop := N.length ≤ c ∧ N.length < 4611686018427387904 ∧ c ≤ 9223372036854775807 ∧ (N = [] ∨ ∃ b o, A = some ⟨b, o, none⟩ ∧ b < w.heap.size ∧ ∀ j, j < N.length → w.cell? ⟨b, o + j, none⟩ = some (.string (N.getD j noS)))
theorem NmV.later {w w' : World} {A : Option Addr} {c : Nat} {N : List ByteArray} (h : NmV w A c N) (hB : Below w.heap.size w w') : NmV w' A c N := by
  obtain ⟨h1, h2, h3, h4 | ⟨b, o, h4, h5, h6⟩⟩ := h
  · exact ⟨h1, h2, h3, Or.inl h4⟩
  · exact ⟨h1, h2, h3, Or.inr ⟨b, o, h4, Nat.lt_of_lt_of_le h5 hB.size, fun j hj => (hB.cell (p := ⟨b, o + j, none⟩) h5).trans (h6 j hj)⟩⟩
theorem NmV.nil (w : World) (A : Option Addr) (c : Nat) (h : c ≤ 9223372036854775807) : NmV w A c [] := ⟨Nat.zero_le _, by decide, h, Or.inl rfl⟩

set_option maxHeartbeats 4000000 in
theorem rkcheck_any (An : Option Addr) (cn : Nat) (N : List ByteArray) (Ac : Option Addr) (cc : Nat) (C : List (Int × Int)) (w : World) (hN : NmV w An cn N) (hC : CelV w Ac cc C) :
    Calls Tryd.prog 23 #[.slice An N.length cn, .slice Ac C.length cc] w fun e w' => e = .returned (errV (ckErr N C)) ∧ Below w.heap.size w w' := by
  by_cases hne : C.length = N.length
  case neg =>
    have hb : ((C.length : Int) != (N.length : Int)) = true := by simp; omega
    rw [ck_shape hne, errV_some (by decide)]
    clear hne hN hC
    go_enter Tryd.func23, Tryd.ntmps23
    go_wp2_with fail
    go_ret
    exact ⟨rfl, Below.refl _ _⟩
  obtain ⟨-, hN2, -, hN4⟩ := hN
  obtain ⟨-, -, hC3⟩ := hC
  obtain ⟨n, hn⟩ : ∃ n, N.length = n := ⟨_, rfl⟩
  have HNL : Hid (N.length = n) := hn
  have HCL : Hid (C.length = n) := hne.trans hn
  rw [hne, hn]
  rw [hn] at hN2 
  by_cases h0 : n = 0
  · subst h0
    rw [ck_good (N := N) (C := C) hne (fun j hj => by have := HCL.out; omega) (fun j _ hj => by omega), errV_zero]
    clear hN4 hC3 hne hn hN2
    go_enter Tryd.func23, Tryd.ntmps23
    go_wp2_with fail
    refine wp_loop_rounds 1 ?_
    rw [rounds_succ]
    go_wp2_with fail
    refine wp_loop_rounds 1 ?_
    rw [rounds_succ]
    go_wp2_with fail
    go_ret
    exact ⟨rfl, Below.refl _ _⟩
  obtain ⟨b, o, rfl, hCA⟩ := hC3.resolve_left (fun e => by rw [e] at hne; simp at hne; omega)
  obtain ⟨bn, on, rfl, hNb, hNA⟩ := hN4.resolve_left (fun e => by rw [e] at hn; simp at hn; omega)
  have HC : Hid (CelAt w b o C) := hCA
  have HN : Hid (∀ j, j < N.length → w.cell? ⟨bn, on + j, none⟩ = some (.string (N.getD j noS))) := hNA
  have hni : (n : Int) < 4611686018427387904 := by omega
  have hn0 : 0 < (n : Int) := by omega
  clear hne hn hCA hNA hN2
  go_enter Tryd.func23, Tryd.ntmps23
  go_wp2_with fail
  go_loopg [17] n (fun g s17 wr => ∃ (k : Nat), k ≤ n ∧ g = n - k ∧ s17 = .int .i64 k ∧ (∀ j, j < k → goodB C j = false) ∧ Below w.heap.size w wr)
  case atStart => exact ⟨0, Nat.zero_le _, rfl, rfl, fun j hj => absurd hj (Nat.not_lt_zero j), Below.refl _ _⟩
  case round =>
    obtain ⟨k, hk, rfl, rfl, hbd, hBw⟩ := hrel
    have HBd : Hid (∀ j, j < k → goodB C j = false) := hbd
    have HW : Hid (Below w.heap.size w wr) := hBw
    have hbl : b < w.heap.size := HC.out.1
    have hsz := hBw.size
    clear hbd hBw
    by_cases hlt : k < n
    · have hki : (k : Int) < (n : Int) := by omega
      obtain ⟨x0, x1⟩ := (HC.out.later HW.out).2 k (by rw [HCL.out]; exact hlt)
      have hck := check_any (C.getD k noC).1 (C.getD k noC).2
      obtain ⟨kk, hkk⟩ : ∃ kk, (C.getD k noC).1 = kk := ⟨_, rfl⟩
      obtain ⟨nn, hnn⟩ : ∃ nn, (C.getD k noC).2 = nn := ⟨_, rfl⟩
      have HG : Hid (goodB C k = !(good kk nn)) := by show _ = _; unfold goodB; rw [hkk, hnn]
      rw [hkk] at x0 hck
      rw [hnn] at x1 hck
      clear hkk hnn
      cases hg : good kk nn
      · rw [hg] at hck
        have HF : Hid (ckErr N C = 1) := ck_cell (by rw [HCL.out, HNL.out]) (i := k) (by rw [HCL.out]; exact hlt) (by rw [HG.out, hg]; rfl)
        rw [if_neg (by decide)] at hck
        clear hg
        go_wp2_with fail
        refine (hck _).mono ?_
        rintro e w1 ⟨rfl, hb1⟩
        have HB1 : Hid (Below w.heap.size w w1) := onB HW.out (onB (by go_grown) hb1)
        clear hb1 hck
        go_wp2_with fail
        go_ret
        exact ⟨by rw [HF.out]; rfl, HB1.out⟩
      · rw [hg, if_pos rfl] at hck
        have HGd : Hid (goodB C k = false) := by show _ = _; rw [HG.out, hg]; rfl
        clear hg
        go_wp2_with fail
        refine (hck _).mono ?_
        rintro e w1 ⟨rfl, hb1⟩
        have HB1 : Hid (Below w.heap.size w w1) := onB HW.out (onB (by go_grown) hb1)
        clear hb1 hck
        go_wp2_with fail
        go_roundg (n - (k + 1))
        case measure => omega
        case rel => exact ⟨k + 1, by omega, rfl, by go_num, fun j hj => by rcases Nat.lt_succ_iff_lt_or_eq.1 hj with h | h; exact HBd.out j h; rw [h]; exact HGd.out, HB1.out⟩
    · have hke : k = n := by omega
      subst hke
      have HAll : Hid (∀ j, j < C.length → goodB C j = false) := fun j hj => HBd.out j (by have := HCL.out; omega)
      go_wp2_with fail
      go_loopg [8] k (fun g s8 ws => ∃ (i : Nat), i < k ∧ g = k - i ∧ s8 = .int .i64 ((i : Int) + 1) ∧ (∀ j, 1 ≤ j → j < i + 1 → downS N j = false) ∧ Below w.heap.size w ws)
      case atStart => exact ⟨0, by omega, rfl, rfl, fun j h1 h2 => by omega, HW.out⟩
      case round =>
        obtain ⟨i, hi, rfl, rfl, hbd, hBw⟩ := hrel
        have HDn : Hid (∀ j, 1 ≤ j → j < i + 1 → downS N j = false) := hbd
        have HV : Hid (Below w.heap.size w wr) := hBw
        clear hbd
        by_cases hlt2 : i + 1 < k
        · have hki : (i : Int) + 1 < (k : Int) := by omega
          have c1 := (hBw.cell (p := ⟨bn, on + (i + 1), none⟩) hNb).trans (HN.out (i + 1) (by rw [HNL.out]; exact hlt2))
          have c0 := (hBw.cell (p := ⟨bn, on + i, none⟩) hNb).trans (HN.out i (by rw [HNL.out]; omega))
          obtain ⟨x, hx⟩ : ∃ x, N.getD (i + 1) noS = x := ⟨_, rfl⟩
          obtain ⟨y, hy⟩ : ∃ y, N.getD i noS = y := ⟨_, rfl⟩
          have HD : Hid (downS N (i + 1) = (Op.bytesLess x.toList y.toList || x.toList == y.toList)) := by show _ = _; unfold downS; rw [hx, Nat.add_sub_cancel, hy]
          rw [hx] at c1
          rw [hy] at c0
          have hsub : (i : Int) + 1 - 1 = (i : Int) := by omega
          have hto : ((i : Int) + 1).toNat = i + 1 := by omega
          clear hx hy hBw
          cases ht : (Op.bytesLess x.toList y.toList || x.toList == y.toList)
          · have HDF : Hid (downS N (i + 1) = false) := by show _ = _; rw [HD.out, ht]
            clear HD
            go_wp2_with fail
            go_quiet (fail)
            have HB2 : Hid (Below w.heap.size w (wr.drewN nq)) := below_drewN HV.out _
            go_wp2_with fail
            go_roundg (k - (i + 1))
            case measure => omega
            case rel => exact ⟨i + 1, hlt2, rfl, by go_num, fun j h1 hj => by rcases Nat.lt_succ_iff_lt_or_eq.1 hj with h | h; exact HDn.out j h1 h; rw [h]; exact HDF.out, HB2.out⟩
          · have HF : Hid (ckErr N C = 7) := ck_down (by rw [HCL.out, HNL.out]) HAll.out (i := i + 1) (by omega) (by rw [HNL.out]; exact hlt2) (by rw [HD.out, ht])
            clear HD
            go_wp2_with fail
            go_quiet (fail)
            have HB2 : Hid (Below w.heap.size w (wr.drewN nq)) := below_drewN HV.out _
            go_wp2_with fail
            go_ret
            exact ⟨by rw [HF.out]; rfl, HB2.out⟩
        · have hie : k = i + 1 := by omega
          have HF : Hid (ckErr N C = 0) := ck_good (by rw [HCL.out, HNL.out]) HAll.out (fun j h1 hj => HDn.out j h1 (by have := HNL.out; omega))
          have hki : ¬ (i : Int) + 1 < (k : Int) := by omega
          clear hie
          go_wp2_with fail
          go_ret
          exact ⟨by rw [HF.out]; rfl, HV.out⟩
end Go.Proofs.YtklfenojapgmnaeDoor
