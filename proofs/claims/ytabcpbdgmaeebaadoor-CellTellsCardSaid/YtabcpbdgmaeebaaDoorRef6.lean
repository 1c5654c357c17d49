/-
  tallyref1.Int and tallyref1.Read of every text come to the same as the program's number and Parse.
-/
import Derived.Test.YtabcpbdgmaeebaaDoorRef5
import Derived.Test.YtabcpbdgmaeebaaDoorNums2
import Derived.Lib.Strings
namespace Go.Proofs.YtabcpbdgmaeebaaDoor
open Go.ChangeShapes Go.WideShapes Go.ChangeAt Go.RowKit
set_option linter.unusedVariables false

theorem head_of (s : ByteArray) (h : 0 < s.size) : ∃ r, s.data.toList = s[0] :: r := by
  have hb := byte_at s 0 h
  cases hl : s.data.toList with
  | nil => rw [hl] at hb; cases hb
  | cons a r =>
    rw [hl] at hb
    simp only [List.getElem?_cons_zero, Option.some.injEq] at hb
    exact ⟨r, by rw [hb]⟩

def IntIs (s : ByteArray) (w : World) (o : Option Int) : Prop := Calls Tryd.prog 33 #[.string s, .int .i64 15] w fun e w' => e = .returned (.tuple #[.int .i64 (o.getD 0), .bool o.isSome]) ∧ w' = w

theorem eq_bool {a : UInt8} {n : Nat} (h : a.toNat = n) : ((a.toNat : Int) == (n : Int)) = true := by simp [h]
theorem ne_bool {a : UInt8} {n : Nat} (h : a.toNat ≠ n) : ((a.toNat : Int) == (n : Int)) = false := by simp; omega

theorem rint_any (s : ByteArray) (w : World) : IntIs s w (numP s.data.toList) := by
  rcases Nat.eq_zero_or_pos s.size with h0 | h0
  · have hl : s.data.toList = [] := by
      have e := Lib.size_eq s
      cases hl : s.data.toList with
      | nil => rfl
      | cons a b => rw [hl, List.length_cons] at e; omega
    rw [hl, numP_nil]
    exact int_empty s w h0
  · obtain ⟨r, hl⟩ := head_of s h0
    have hsz := Lib.size_eq s
    by_cases h1 : s.size = 1
    · have hr : r = [] := by
        rw [hl, List.length_cons] at hsz
        exact List.length_eq_zero_iff.mp (by omega)
      subst hr
      rw [hl, numP_one, ← hl]
      cases hd : Lib.decFrom 0 s.data.toList with
      | none =>
        by_cases h48 : s[0].toNat = 48
        · exact int_one_none_true s w h1 h0 (eq_bool h48) hd
        · exact int_one_none_false s w h1 h0 (ne_bool h48) hd
      | some v =>
        by_cases h48 : s[0].toNat = 48
        · exact int_one_some_true s v w h1 h0 (eq_bool h48) hd
        · exact int_one_some_false s v w h1 h0 (ne_bool h48) hd
    · have h2 : 1 < s.size := by omega
      by_cases h45 : s[0].toNat = 45
      · obtain ⟨t, ht⟩ : ∃ t, s.extract 1 s.size = t := ⟨_, rfl⟩
        have htl : t.data.toList = r := by
          rw [← ht, Lib.extract_data, hl]
          simp only [List.drop_succ_cons, List.drop_zero]
          exact List.take_of_length_le (by rw [hl, List.length_cons] at hsz; omega)
        have htsz := Lib.size_eq t
        rw [htl] at htsz
        rw [hl, List.length_cons] at hsz
        have ht0 : 0 < t.size := by omega
        obtain ⟨r', hr'⟩ := head_of t ht0
        have e45 : s[0] = 45 := u8_eq h45
        rw [hl, e45, ← htl]
        by_cases h15 : t.size ≤ 15
        · by_cases h48 : t[0].toNat = 48
          · rw [hr', numP_lessnought _ _ h48]
            exact int_mnought s t w h2 (eq_bool h45) ht ht0 h15 (eq_bool h48)
          · rw [hr', numP_less _ _ (by rw [← hr', ← Lib.size_eq]; exact h15) h48, ← hr']
            cases hd : Lib.decFrom 0 t.data.toList with
            | none => exact int_less_none s t w h2 (eq_bool h45) ht ht0 h15 (ne_bool h48) hd
            | some v => exact int_less_some s t v w h2 (eq_bool h45) ht ht0 h15 (ne_bool h48) hd
        · rw [numP_long _ (by rw [trim_less, ← Lib.size_eq]; omega)]
          exact int_mlong s t w h2 (eq_bool h45) ht ht0 (by omega)
      · by_cases h15 : s.size ≤ 15
        · by_cases h48 : s[0].toNat = 48
          · cases r with
            | nil => rw [hl] at hsz; simp at hsz; omega
            | cons b r =>
              rw [hl, numP_nought _ _ _ h48]
              exact int_nought s w h2 h15 (ne_bool h45) (eq_bool h48)
          · rw [hl, numP_more _ _ (by rw [← hl, ← hsz]; exact h15) h45 h48, ← hl]
            cases hd : Lib.decFrom 0 s.data.toList with
            | none => exact int_more_none s w h2 h15 (ne_bool h45) (ne_bool h48) hd
            | some v => exact int_more_some s v w h2 h15 (ne_bool h45) (ne_bool h48) hd
        · rw [hl, numP_long _ (by rw [trim_keep _ _ h45, ← hl, ← hsz]; omega)]
          exact int_long s w h2 (by omega) (ne_bool h45)

def readV : Told → Value
  | .ok p => .tuple #[.agg #[.int .i64 p.1, .int .i64 p.2], .int .i64 0]
  | .error c => .tuple #[.agg #[.int .i64 0, .int .i64 0], .int .i64 c]

theorem read_any (s : ByteArray) (w : World) : Calls Tryd.prog 17 #[.string s] w fun e w' => e = .returned (readV (parseP s.data.toList)) ∧ Below w.heap.size w w' := by
  unfold parseP
  by_cases h1 : s.data.toList = [45]
  · rw [if_pos h1]
    have q1 : s.toList = [45] := by rw [ByteArray.toList_eq]; exact h1
    go_enter Tryd.func17, Tryd.ntmps17
    go_wp2_with fail
    refine bodyPost_ret (v := .tuple #[.agg #[.int .i64 0, .int .i64 0], .int .i64 0]) (by simp [results, Tryd.results17, go_sem]) rfl ⟨rfl, ?_⟩
    go_grown
  · have q1 : (s.toList == [45]) = false := by rw [ByteArray.toList_eq]; simpa using h1
    rw [if_neg h1]
    by_cases h2 : s.data.toList = [35]
    · rw [if_pos h2]
      have q2 : s.toList = [35] := by rw [ByteArray.toList_eq]; exact h2
      clear q1
      go_enter Tryd.func17, Tryd.ntmps17
      go_wp2_with fail
      refine bodyPost_ret (v := .tuple #[.agg #[.int .i64 2, .int .i64 0], .int .i64 0]) (by simp [results, Tryd.results17, go_sem]) rfl ⟨rfl, ?_⟩
      go_grown
    · have q2 : (s.toList == [35]) = false := by rw [ByteArray.toList_eq]; simpa using h2
      rw [if_neg h2]
      have hn := fun w => rint_any s w
      unfold IntIs at hn
      clear h1 h2
      cases hp : numP s.data.toList with
      | none =>
        rw [hp] at hn
        simp only [Option.getD_none, Option.isSome_none] at hn
        clear hp
        go_enter Tryd.func17, Tryd.ntmps17
        go_wp2_with fail
        refine (hn _).mono ?_
        rintro e w1 ⟨rfl, rfl⟩
        go_wp2
        refine bodyPost_ret (v := .tuple #[.agg #[.int .i64 0, .int .i64 0], .int .i64 2]) (by simp [results, Tryd.results17, go_sem]) rfl ⟨rfl, ?_⟩
        go_grown
      | some n =>
        rw [hp] at hn
        simp only [Option.getD_some, Option.isSome_some] at hn
        clear hp
        by_cases hin : -1000000000000 ≤ n ∧ n ≤ 1000000000000
        · simp only [if_pos hin]
          obtain ⟨hi1, hi2⟩ := hin
          go_enter Tryd.func17, Tryd.ntmps17
          go_wp2_with fail
          refine (hn _).mono ?_
          rintro e w1 ⟨rfl, rfl⟩
          go_wp2
          refine bodyPost_ret (v := .tuple #[.agg #[.int .i64 1, .int .i64 n], .int .i64 0]) (by simp [results, Tryd.results17, go_sem]) rfl ⟨rfl, ?_⟩
          go_grown
        · simp only [if_neg hin]
          by_cases hi1 : n < -1000000000000
          · clear hin
            go_enter Tryd.func17, Tryd.ntmps17
            go_wp2_with fail
            refine (hn _).mono ?_
            rintro e w1 ⟨rfl, rfl⟩
            go_wp2
            refine bodyPost_ret (v := .tuple #[.agg #[.int .i64 0, .int .i64 0], .int .i64 1]) (by simp [results, Tryd.results17, go_sem]) rfl ⟨rfl, ?_⟩
            go_grown
          · have hi2 : 1000000000000 < n := by omega
            clear hin
            go_enter Tryd.func17, Tryd.ntmps17
            go_wp2_with fail
            refine (hn _).mono ?_
            rintro e w1 ⟨rfl, rfl⟩
            go_wp2
            refine bodyPost_ret (v := .tuple #[.agg #[.int .i64 0, .int .i64 0], .int .i64 1]) (by simp [results, Tryd.results17, go_sem]) rfl ⟨rfl, ?_⟩
            go_grown
end Go.Proofs.YtabcpbdgmaeebaaDoor
