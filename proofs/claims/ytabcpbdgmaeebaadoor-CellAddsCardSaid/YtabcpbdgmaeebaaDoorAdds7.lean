/-
  tallylaw1.CellAdds returns true for all cells and texts, where the library's variables hold what they begin with.
-/
import Derived.Test.YtabcpbdgmaeebaaDoorAdds2
import Derived.Test.YtabcpbdgmaeebaaDoorAdds3
import Derived.Test.YtabcpbdgmaeebaaDoorAdds4
import Derived.Test.YtabcpbdgmaeebaaDoorAdds5
import Derived.Test.YtabcpbdgmaeebaaDoorAdds6
namespace Go.Proofs.YtabcpbdgmaeebaaDoor
open Go.ChangeShapes Go.WideShapes Go.ChangeAt Go.RowKit

theorem itoa_ne (n : Int) (b : UInt8) (hb : b.toNat < 48) : Lib.itoa n ≠ [b] := by
  unfold Lib.itoa
  split
  · intro h
    injection h with h1 h2
    exact decDigits_ne _ h2
  · obtain ⟨d, r, e, hd, _, _⟩ := head_decDigits n.toNat
    rw [e]
    intro h
    injection h with h1 h2
    have := congrArg UInt8.toNat h1
    rw [ofNat_toNat_digit d hd] at this
    omega

theorem parseP_print {k n : Int} (h : good k n = true) : parseP (printP k n) = .ok (k, n) := by
  have h' : (k = 1 ∧ -1000000000000 ≤ n ∧ n ≤ 1000000000000) ∨ ((k = 0 ∨ k = 2) ∧ n = 0) := by simpa [good] using h
  rcases h' with ⟨rfl, h1, h2⟩ | ⟨rfl | rfl, rfl⟩
  · have e : printP 1 n = Lib.itoa n := by unfold printP; rw [if_neg (by omega), if_neg (by omega)]
    rw [e]
    unfold parseP
    rw [if_neg (itoa_ne n 45 (by decide)), if_neg (itoa_ne n 35 (by decide)), numP_itoa n h1 h2]
    simp only [if_pos (And.intro h1 h2)]
  · rfl
  · rfl
theorem parseP_ok {l : List UInt8} {k n : Int} (h : parseP l = .ok (k, n)) : good k n = true ∧ printP k n = l := by
  unfold parseP at h
  split at h
  · next hl => injection h with h; injection h with h1 h2; subst h1 h2; exact ⟨by decide, by rw [hl]; rfl⟩
  · split at h
    · next hl => injection h with h; injection h with h1 h2; subst h1 h2; exact ⟨by decide, by rw [hl]; rfl⟩
    · split at h
      · cases h
      · next m hm =>
        split at h
        · next hin =>
          injection h with h
          injection h with h1 h2
          subst h1 h2
          exact ⟨by simp [good]; omega, by unfold printP; rw [if_neg (by omega), if_neg (by omega)]; exact numP_back hm⟩
        · cases h

theorem plusP_comm (ka na kb nb : Int) : plusP kb nb ka na = plusP ka na kb nb := by
  unfold plusP joinP
  rw [Int.add_comm nb na, Bool.or_comm]
  simp only [Or.comm]
theorem timesP_comm (ka na kb nb : Int) : timesP kb nb ka na = timesP ka na kb nb := by
  unfold timesP joinP
  rw [Int.mul_comm nb na, Bool.or_comm]
  simp only [Or.comm]
theorem good_cases {k n : Int} (h : good k n = true) : (k = 1 ∧ -1000000000000 ≤ n ∧ n ≤ 1000000000000) ∨ ((k = 0 ∨ k = 2) ∧ n = 0) := by simpa [good] using h
theorem ofP_good (n : Int) : good (ofP n).1 (ofP n).2 = true := by
  by_cases h : -1000000000000 ≤ n ∧ n ≤ 1000000000000
  · rw [ofP_in h.1 h.2]; simp [good]; omega
  · rw [ofP_out (by omega)]; decide
theorem plusP_good (ka na kb nb : Int) : good (plusP ka na kb nb).1 (plusP ka na kb nb).2 = true := by
  unfold plusP joinP
  split
  · decide
  · split
    · decide
    · exact ofP_good _
theorem plusP_empty {ka na : Int} (h : good ka na = true) : plusP ka na 0 0 = (ka, na) := by
  rcases good_cases h with ⟨rfl, h1, h2⟩ | ⟨rfl | rfl, rfl⟩
  · unfold plusP joinP
    rw [if_neg (by omega), if_neg (by decide), Int.add_zero, ofP_in h1 h2]
  · rfl
  · rfl
theorem fin_fact {ka na kb nb : Int} (ha : good ka na = true) :
    (ka = 2 ∧ (plusP ka na kb nb).1 = 2 ∧ (timesP ka na kb nb).1 = 2) ∨ ((ka == 2) = false ∧ kb = 2 ∧ (plusP ka na kb nb).1 = 2 ∧ (timesP ka na kb nb).1 = 2) ∨ ((ka == 2) = false ∧ (kb == 2) = false ∧ ((plusP ka na kb nb).1 != 1) = true)
    ∨ ((ka == 2) = false ∧ (kb == 2) = false ∧ (plusP ka na kb nb).1 = 1 ∧ (ka != 1) = true)
    ∨ (ka = 1 ∧ (kb == 2) = false ∧ (plusP ka na kb nb).1 = 1 ∧ (minusP (plusP ka na kb nb).1 (plusP ka na kb nb).2 kb nb).1 = 1 ∧ (minusP (plusP ka na kb nb).1 (plusP ka na kb nb).2 kb nb).2 = na) := by
  by_cases h2 : ka = 2
  · left
    refine ⟨h2, ?_, ?_⟩
    · unfold plusP joinP; rw [if_pos (Or.inl h2)]
    · unfold timesP joinP; rw [if_pos (Or.inl h2)]
  · by_cases h3 : kb = 2
    · right; left
      refine ⟨by simpa using h2, h3, ?_, ?_⟩
      · unfold plusP joinP; rw [if_pos (Or.inr h3)]
      · unfold timesP joinP; rw [if_pos (Or.inr h3)]
    · right; right
      by_cases hx : (plusP ka na kb nb).1 = 1
      · right
        by_cases h1 : ka = 1
        · right
          obtain ⟨a1, a2⟩ := good_bd ha
          subst h1
          have hp : plusP 1 na kb nb = ofP (na + nb) := by unfold plusP joinP; rw [if_neg (by omega), if_neg (by simp)]
          rw [hp] at hx ⊢
          have hin : -1000000000000 ≤ na + nb ∧ na + nb ≤ 1000000000000 := by
            by_cases hin : -1000000000000 ≤ na + nb ∧ na + nb ≤ 1000000000000
            · exact hin
            · rw [ofP_out (by omega)] at hx; simp at hx
          rw [ofP_in hin.1 hin.2]
          have hm : minusP 1 (na + nb) kb nb = (1, na) := by
            unfold minusP joinP
            rw [if_neg (by omega), if_neg (by simp), show na + nb - nb = na by omega, ofP_in a1 a2]
          exact ⟨rfl, by simpa using h3, rfl, by rw [hm], by rw [hm]⟩
        · left
          exact ⟨by simpa using h2, by simpa using h3, hx, by simpa using h1⟩
      · left
        exact ⟨by simpa using h2, by simpa using h3, by simpa using hx⟩

theorem adds_walk (ka na kb nb : Int) (s : ByteArray) (w : World) (hE : Env w) : Calls Tryd.prog 4 #[.agg #[.int .i64 ka, .int .i64 na], .agg #[.int .i64 kb, .int .i64 nb], .string s] w fun e w' => e = .returned (.bool true) ∧ Below w.heap.size w w' := by
  have hpar := parse_any s
  have hprint : ∀ k n, parseP s.data.toList = .ok (k, n) → ∀ (w : World), Env w → Calls Tryd.prog 9 #[.agg #[.int .i64 k, .int .i64 n]] w fun e w' => e = .returned (.tuple #[.string s, .nilIface]) ∧ Below w.heap.size w w' := by
    intro k n h w hw
    obtain ⟨h1, h2⟩ := parseP_ok h
    have hp := print_yes k n w hw h1
    rw [h2] at hp
    exact hp
  cases hga : good ka na
  · have hpra := fun w => print_no ka na w hga
    have hab := add_no ka na kb nb (by rw [hga]; rfl)
    have hba := add_no kb nb ka na (by rw [hga]; simp)
    have mab := mul_no ka na kb nb (by rw [hga]; rfl)
    have mba := mul_no kb nb ka na (by rw [hga]; simp)
    cases hp : parseP s.data.toList with
    | error c =>
      rw [hp] at hpar
      exact adds_f_a ka na kb nb s w hE c hpar hpra hab hba mab mba
    | ok p =>
      obtain ⟨k, n⟩ := p
      rw [hp] at hpar
      exact adds_o_a ka na kb nb s w hE k n hpar (hprint k n hp) hpra hab hba mab mba
  · have hpra := fun w hw => print_yes ka na w hw hga
    have hpat := parse_any ⟨(printP ka na).toArray⟩
    rw [show (ByteArray.mk (printP ka na).toArray).data.toList = printP ka na from by simp, parseP_print hga] at hpat
    cases hgb : good kb nb
    · have hab := add_no ka na kb nb (by rw [hga, hgb]; rfl)
      have hba := add_no kb nb ka na (by rw [hgb]; rfl)
      have mab := mul_no ka na kb nb (by rw [hga, hgb]; rfl)
      have mba := mul_no kb nb ka na (by rw [hgb]; rfl)
      cases hp : parseP s.data.toList with
      | error c =>
        rw [hp] at hpar
        exact adds_f_b ka na kb nb s w hE c hpar _ hpra hpat hab hba mab mba
      | ok p =>
        obtain ⟨k, n⟩ := p
        rw [hp] at hpar
        exact adds_o_b ka na kb nb s w hE k n hpar (hprint k n hp) _ hpra hpat hab hba mab mba
    · have hab := add_yes ka na kb nb hga hgb
      have hba := add_yes kb nb ka na hgb hga
      rw [plusP_comm] at hba
      have mab := mul_yes ka na kb nb hga hgb
      have mba := mul_yes kb nb ka na hgb hga
      rw [timesP_comm] at mba
      have hae := add_yes ka na 0 0 hga (by decide)
      rw [plusP_empty hga] at hae
      have hsu := sub_yes _ _ kb nb (plusP_good ka na kb nb) hgb
      have hfin := fin_fact (kb := kb) (nb := nb) hga
      cases hp : parseP s.data.toList with
      | error c =>
        rw [hp] at hpar
        exact adds_f_g ka na kb nb s w hE c hpar _ hpra hpat _ _ _ _ _ _ hab hba mab mba hae hsu hfin
      | ok p =>
        obtain ⟨k, n⟩ := p
        rw [hp] at hpar
        exact adds_o_g ka na kb nb s w hE k n hpar (hprint k n hp) _ hpra hpat _ _ _ _ _ _ hab hba mab mba hae hsu hfin
end Go.Proofs.YtabcpbdgmaeebaaDoor
