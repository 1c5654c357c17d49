/-
  For every two numbers a and b the Go function tallylaw4.CellDivides returns true, in whatever memory it is called: a quotient of two cells, times what divided, is no more than what was divided, and the rest is less than what divided.
  Conditions: none; it writes nothing but memory that it makes.
-/
import Derived.Test.YtabcpbdgmaeebaaRows
import Derived.Test.YtabcpbdgmaeebaaDivides
import Derived.Test.YtabcpbdgmaeebaaPost
namespace Go.Proofs.Ytabcpbdgmaeebaa.cellDivides
open Go.ChangeShapes Go.WideShapes Go.ChangeAt Go.RowKit
set_option linter.unusedVariables false

theorem own : ownKnob Try.prog.godebug = none := by kernel_rfl

theorem rest_of (a b : Int) (hb : b ≠ 0) : (b < 0 ∧ b < a - a.tdiv b * b ∧ a - a.tdiv b * b < -b ∨ 0 < b ∧ -b < a - a.tdiv b * b ∧ a - a.tdiv b * b < b) ∧ ((0 < a ∧ 0 ≤ a - a.tdiv b * b ∧ 0 ≤ a.tdiv b * b) ∨ (a < 0 ∧ a - a.tdiv b * b ≤ 0 ∧ a.tdiv b * b ≤ 0) ∨ (a = 0 ∧ a.tdiv b * b = 0)) := by
  have he : a - a.tdiv b * b = a.tmod b := by rw [Int.tmod_def, Int.mul_comm]
  have hn : (a.tmod b).natAbs = a.natAbs % b.natAbs := Int.natAbs_tmod a b
  have hl := Nat.mod_lt a.natAbs (Int.natAbs_pos.mpr hb)
  have hm := Nat.mod_le a.natAbs b.natAbs
  have hp : 0 ≤ a → 0 ≤ a.tmod b := fun h => Int.tmod_nonneg b h
  have hq : 0 ≤ -a → 0 ≤ (-a).tmod b := fun h => Int.tmod_nonneg b h
  rw [Int.neg_tmod] at hq
  generalize a.tdiv b * b = d at *
  generalize a.tmod b = r at *
  constructor <;> omega

theorem over_num (a b : Int) : overP 1 a 1 b = quoP a b := by unfold overP joinP; rw [if_neg (by omega), if_neg (by decide)]
theorem times_num (a b : Int) : timesP 1 a 1 b = ofP (a * b) := by unfold timesP joinP; rw [if_neg (by omega), if_neg (by decide)]
theorem minus_num (a b : Int) : minusP 1 a 1 b = ofP (a - b) := by unfold minusP joinP; rw [if_neg (by omega), if_neg (by decide)]
theorem good_num {n : Int} (h1 : -1000000000000 ≤ n) (h2 : n ≤ 1000000000000) : good 1 n = true := by simp [good]; omega

theorem out_walk (a b : Int) (w : World) (h : a < -1000000 ∨ 1000000 < a ∨ b < -1000000 ∨ 1000000 < b) : Calls Try.prog 5 #[.int .i64 a, .int .i64 b] w fun e w' => e = .returned (.bool true) ∧ Below w.heap.size w w' := by
  by_cases h1 : a < -1000000
  · go_enter Try.func5, Try.ntmps5
    go_wp2
    go_ret
    exact ⟨rfl, Below.refl _ _⟩
  · by_cases h2 : 1000000 < a
    · go_enter Try.func5, Try.ntmps5
      go_wp2
      go_ret
      exact ⟨rfl, Below.refl _ _⟩
    · by_cases h3 : b < -1000000
      · go_enter Try.func5, Try.ntmps5
        go_wp2
        go_ret
        exact ⟨rfl, Below.refl _ _⟩
      · have h4 : 1000000 < b := by omega
        clear h
        go_enter Try.func5, Try.ntmps5
        go_wp2
        go_ret
        exact ⟨rfl, Below.refl _ _⟩

set_option maxHeartbeats 1000000 in
theorem zero_walk (a : Int) (w : World) (ha1 : -1000000 ≤ a) (ha2 : a ≤ 1000000) : Calls Try.prog 5 #[.int .i64 a, .int .i64 0] w fun e w' => e = .returned (.bool true) ∧ Below w.heap.size w w' := by
  have hoa := of_in (n := a) (by omega) (by omega)
  have hob := of_in (n := 0) (by omega) (by omega)
  have hd := div_yes 1 a 1 0 (good_num (by omega) (by omega)) (good_num (by omega) (by omega))
  rw [over_num, show quoP a 0 = (2, 0) from rfl] at hd
  unfold OpTo at hd
  go_enter Try.func5, Try.ntmps5
  go_wp2_with fail
  refine (hoa _).mono ?_
  rintro e w1 ⟨rfl, hb⟩
  have hB1 : Below w.heap.size w w1 := hb
  clear hb
  go_wp2_with fail
  refine (hob _).mono ?_
  rintro e w2 ⟨rfl, hb⟩
  have hB2 : Below w.heap.size w w2 := Below.next hB1 hb
  clear hb hB1
  go_wp2_with fail
  refine (hd _).mono ?_
  rintro e w3 ⟨rfl, hb⟩
  have hB3 : Below w.heap.size w w3 := Below.next hB2 hb
  clear hb hB2
  go_wp2
  go_ret
  exact ⟨rfl, hB3.alloc hB3.size _⟩

theorem divides_walk (a b : Int) (w : World) : Calls Try.prog 5 #[.int .i64 a, .int .i64 b] w fun e w' => e = .returned (.bool true) ∧ Below w.heap.size w w' := by
  by_cases h : a < -1000000 ∨ 1000000 < a ∨ b < -1000000 ∨ 1000000 < b
  · exact out_walk a b w h
  · by_cases hb : b = 0
    · subst hb
      exact zero_walk a w (by omega) (by omega)
    · obtain ⟨hr, hs⟩ := rest_of a b hb
      have hq := ab_bd (Int.le_trans (tdiv_bd a b) (ab_in (m := 1000000) (by omega) (by omega)).2)
      have hdiv := div_yes 1 a 1 b (good_num (by omega) (by omega)) (good_num (by omega) (by omega))
      rw [over_num, quoP, if_neg hb, ofP_in (by omega) (by omega)] at hdiv
      have hmul := mul_yes 1 (a.tdiv b) 1 b (good_num (by omega) (by omega)) (good_num (by omega) (by omega))
      rw [times_num, ofP_in (by omega) (by omega)] at hmul
      have hsub := sub_yes 1 a 1 (a.tdiv b * b) (good_num (by omega) (by omega)) (good_num (by omega) (by omega))
      rw [minus_num, ofP_in (by omega) (by omega)] at hsub
      exact div_core a b (a.tdiv b) (a.tdiv b * b) (a - a.tdiv b * b) w (by omega) (by omega) (by omega) (by omega) (by simpa using hb) hdiv hmul hsub hr (by omega)

/-! ### THE ROW's STEP: WRITTEN OUT: LEAVE IT -/
set_option maxRecDepth 100000 in
theorem lifted (os : Os) (started : os.Started) (H : Type) (enc : TypeId × Value → H) :
    ReturnsInHanded {} Try.checked os 5 .any (Rows.cellDividesSpec.pre6 enc Try.prog Try.f5 Rows.cellDividesRow.domain false) (Rows.cellDividesSpec.post enc Try.prog Try.f5 false true false false) := by
  refine returnsInHanded_of_change (C := Try.checked) own started (by kernel_rfl) Try.func5
    (ChangeSpec.witness6 (enc := enc) (C := Try.checked) false ⟨#[], #[.int .i64 0, .int .i64 0], []⟩ 8 (by kernel_rfl) (by kernel_rfl) (by kernel_rfl) (by kernel_rfl)) ?_
  intro W base args ds gs before hval0 hW hcnd _
  have hval : ∀ (j : Nat) t v, Try.f5.params[j]? = some t → args[j]? = some v → Value.okWide Try.prog W .any base t v := hval0
  have hW' := hW
  obtain ⟨p, q, hA0, hV, rfl, hfz, hnd⟩ := hW
  have hA : DataW.TrodAll enc Try.prog W 0 (fun _ => true) true Try.f5.params.toList args.toList ds p := hA0
  rw [Try.params5] at hA hval
  obtain ⟨v0, vs0, d0, ds0, p0, q0, hargs, rfl, rfl, h0, r0⟩ := trodAll_cons hA
  obtain ⟨v1, vs1, d1, ds1, p1, q1, rfl, rfl, rfl, h1, r1⟩ := trodAll_cons r0
  obtain ⟨rfl, rfl, rfl⟩ := trodAll_nil r1
  obtain rfl : args = #[v0, v1] := by cases args; simp_all
  obtain ⟨rfl, rfl⟩ := trodVars_none hV
  obtain ⟨a0, rfl, rfl, rfl, w0⟩ := open_int Try.underlying3 (hval 0 3 v0 rfl rfl) h0
  obtain ⟨a1, rfl, rfl, rfl, w1⟩ := open_int Try.underlying3 (hval 1 3 v1 rfl rfl) h1
  clear hA0 hval0
  simp only [List.append_nil] at hW'
  refine (divides_walk a0 a1 W).mono fun e W' ⟨he, hg⟩ => ?_
  subst he
  exact ⟨_, rfl, post_below (pa := []) (pv := []) hW' (fun _ _ _ => (trodAll_cons_mk (shut_bool Try.underlying4 _) trodAll_mk0)) (fun sp _ => (trodAll_cons_mk (shut_int Try.underlying3 w0) (trodAll_cons_mk (shut_int Try.underlying3 w1) trodAll_mk0))) (fun _ _ => rfl) rfl
    (hg.frame _)⟩

theorem over : Rows.cellDividesRow.holds Try.pinned (OpenSpec.ofChange Rows.cellDividesSpec) :=
  OpenClaim.holds_of_wide 5 Try.f5 rfl rfl rfl rfl rfl rfl rfl ⟨rfl, rfl, rfl, rfl, rfl⟩ rfl rfl rfl rfl rfl (by kernel_rfl) Try.func5 (by kernel_rfl)
    (of_decide_eq_true (by kernel_rfl)) (by unfold Func.isWrapper; first | (rw [if_pos (by decide +kernel)]; kernel_rfl) | (rw [if_neg (by decide +kernel)]; exact ⟨rfl, rfl⟩))
    (fun os started H enc _ => lifted os started H enc)

end Go.Proofs.Ytabcpbdgmaeebaa.cellDivides

namespace Go.Proofs.Ytabcpbdgmaeebaa
theorem cellDivides_holds : Rows.CellDividesSaid := cellDivides.over
#print axioms cellDivides_holds
end Go.Proofs.Ytabcpbdgmaeebaa
