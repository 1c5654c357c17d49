/-
  The document's own reading of a number (tallyref1.Int, tallyref1.Read) of every text: what its digits spell, without a needless nought, perhaps with a less sign ahead.
-/
import Derived.Test.YtabcpbdgmaeebaaDoorTexts
import Derived.WalkSpells
import Derived.WalkLawsBesides
namespace Go.Proofs.YtabcpbdgmaeebaaDoor
open Go.ChangeShapes Go.WideShapes Go.ChangeAt Go.RowKit
set_option linter.unusedVariables false

theorem decFrom_bad {l : List UInt8} {k : Nat} {b : UInt8} (hb : l[k]? = some b) (hd : b.toNat < 48 ∨ 57 < b.toNat) (acc : Nat) : Lib.decFrom acc l = none := by
  cases h : Lib.decFrom acc l with
  | none => rfl
  | some n =>
    obtain ⟨d, hd'⟩ := Lib.digit_of_decFrom l acc n h k b hb
    have := digit_toNat hd'
    omega
theorem decFrom_step {l : List UInt8} {k v : Nat} {b : UInt8} (h : Lib.decFrom 0 (l.take k) = some v) (hb : l[k]? = some b) (h1 : 48 ≤ b.toNat) (h2 : b.toNat ≤ 57) : Lib.decFrom 0 (l.take (k + 1)) = some (v * 10 + (b.toNat - 48)) :=
  Lib.decFrom_take l k 0 v b (b.toNat - 48) h hb (by unfold Lib.digitVal; rw [if_pos ⟨h1, h2⟩])
theorem pow_step {v d k : Nat} (h : v < 10 ^ k) (hd : d ≤ 9) : v * 10 + d < 10 ^ (k + 1) := by
  rw [Nat.pow_succ]; omega
theorem pow_small {v k : Nat} (h : v < 10 ^ k) (hk : k ≤ 14) : v < 100000000000000 :=
  Nat.lt_of_lt_of_le h (Nat.pow_le_pow_right (by omega) hk)
theorem byte_at (s : ByteArray) (k : Nat) (h : k < s.size) : s.data.toList[k]? = some s[k] := by
  rw [List.getElem?_eq_getElem (by simpa using h)]; rfl

theorem ne_empty {s : ByteArray} (h : 1 ≤ s.size) : s.toList.isEmpty = false := by
  rw [ByteArray.toList_eq]
  have e := Lib.size_eq s
  cases hl : s.data.toList with
  | nil => rw [hl, List.length_nil] at e; omega
  | cons a b => rfl

theorem int_empty (s : ByteArray) (w : World) (hs : s.size = 0) : Calls Tryd.prog 33 #[.string s, .int .i64 15] w fun e w' => e = .returned (.tuple #[.int .i64 0, .bool false]) ∧ w' = w := by
  have h1 : (s.size : Int) ≤ 1 := by omega
  have g2 : s.toList = [] := by
    rw [ByteArray.toList_eq]
    have e := Lib.size_eq s
    cases hl : s.data.toList with
    | nil => rfl
    | cons a b => rw [hl, List.length_cons] at e; omega
  clear hs
  go_enter Tryd.func33, Tryd.ntmps33
  go_wp2
  all_goals
    go_ret2
    exact ⟨rfl, rfl⟩

theorem int_long (s : ByteArray) (w : World) (hs : 1 < s.size) (h15 : 15 < s.size) (hm : ((s[0].toNat : Int) == 45) = false) : Calls Tryd.prog 33 #[.string s, .int .i64 15] w fun e w' => e = .returned (.tuple #[.int .i64 0, .bool false]) ∧ w' = w := by
  have h1 : (1 : Int) < (s.size : Int) := by omega
  have h3 : 0 < s.size := by omega
  have g2 := ne_empty (s := s) (by omega)
  have h2 : (15 : Int) < (s.size : Int) := by omega
  go_enter Tryd.func33, Tryd.ntmps33
  go_wp2
  all_goals
    go_ret2
    exact ⟨rfl, rfl⟩

theorem int_nought (s : ByteArray) (w : World) (hs : 1 < s.size) (h15 : s.size ≤ 15) (hm : ((s[0].toNat : Int) == 45) = false) (hz : ((s[0].toNat : Int) == 48) = true) : Calls Tryd.prog 33 #[.string s, .int .i64 15] w fun e w' => e = .returned (.tuple #[.int .i64 0, .bool false]) ∧ w' = w := by
  have h1 : (1 : Int) < (s.size : Int) := by omega
  have h3 : 0 < s.size := by omega
  have g2 := ne_empty (s := s) (by omega)
  have h2 : (s.size : Int) ≤ 15 := by omega
  go_enter Tryd.func33, Tryd.ntmps33
  go_wp2
  all_goals
    go_ret2
    exact ⟨rfl, rfl⟩

theorem int_mlong (s t : ByteArray) (w : World) (hs : 1 < s.size) (hm : ((s[0].toNat : Int) == 45) = true) (he : s.extract 1 s.size = t) (ht1 : 0 < t.size) (ht : 15 < t.size) : Calls Tryd.prog 33 #[.string s, .int .i64 15] w fun e w' => e = .returned (.tuple #[.int .i64 0, .bool false]) ∧ w' = w := by
  have h1 : (1 : Int) < (s.size : Int) := by omega
  have g2 := ne_empty (s := t) (by omega)
  have h2 : (15 : Int) < (t.size : Int) := by omega
  go_enter Tryd.func33, Tryd.ntmps33
  go_wp2
  all_goals
    go_ret2
    exact ⟨rfl, rfl⟩

theorem int_mnought (s t : ByteArray) (w : World) (hs : 1 < s.size) (hm : ((s[0].toNat : Int) == 45) = true) (he : s.extract 1 s.size = t) (ht1 : 0 < t.size) (ht : t.size ≤ 15) (hz : ((t[0].toNat : Int) == 48) = true) : Calls Tryd.prog 33 #[.string s, .int .i64 15] w fun e w' => e = .returned (.tuple #[.int .i64 0, .bool false]) ∧ w' = w := by
  have h1 : (1 : Int) < (s.size : Int) := by omega
  have g2 := ne_empty (s := t) (by omega)
  have h2 : (t.size : Int) ≤ 15 := by omega
  go_enter Tryd.func33, Tryd.ntmps33
  go_wp2
  all_goals
    go_ret2
    exact ⟨rfl, rfl⟩

set_option maxHeartbeats 1000000 in
theorem int_one_none_true (s : ByteArray) (w : World) (hs : s.size = 1) (h0 : 0 < s.size) (hq : ((s[0].toNat : Int) == 48) = true) (HO : Hid (Lib.decFrom 0 s.data.toList = none)) : Calls Tryd.prog 33 #[.string s, .int .i64 15] w fun e w' => e = .returned (.tuple #[.int .i64 0, .bool false]) ∧ w' = w := by
  have h1 : (s.size : Int) ≤ 1 := by omega
  have h2 : (1 : Int) ≤ (s.size : Int) := by omega
  have g2 := ne_empty (s := s) (by omega)
  have hs' : s.size ≤ 1 := by omega
  clear hs
  go_enter Tryd.func33, Tryd.ntmps33
  go_wp2
  go_loop [7, 8] (fun n i => ∃ k v : Nat, k ≤ s.size ∧ i = .int .i64 k ∧ n = .int .i64 v ∧ Lib.decFrom 0 (s.data.toList.take k) = some v ∧ v < 10 ^ k) (fun _ i => s.size - (intOf i).toNat)
  case atStart => exact ⟨0, 0, Nat.zero_le _, rfl, rfl, rfl, by decide⟩
  case round =>
    obtain ⟨k, v, hk, rfl, rfl, hd, hv⟩ := hrel
    by_cases hlt : k < s.size
    · have hv1 : (v : Int) < 100000000000000 := by have := pow_small hv (by omega); omega
      have hv0 : (0 : Int) ≤ (v : Int) := by omega
      have hb := byte_at s k hlt
      have HB : Hid (s.data.toList[k]? = some s[k]) := hb
      have HD : Hid (Lib.decFrom 0 (s.data.toList.take k) = some v) := hd
      have HV : Hid (v < 10 ^ k) := hv
      clear hb hd hv
      by_cases h1 : (s[k].toNat : Int) < 48
      · have hbad := decFrom_bad HB.out (Or.inl (by omega)) 0
        clear hbad
        go_wp2
        go_ret2
        exact ⟨rfl, rfl⟩
      · by_cases h2 : 57 < (s[k].toNat : Int)
        · go_wp2
          go_ret2
          exact ⟨rfl, rfl⟩
        · go_wp2
          go_round
          case rel => exact ⟨k + 1, v * 10 + (s[k].toNat - 48), by omega, by go_num, by go_num, decFrom_step HD.out HB.out (by omega) (by omega), pow_step HV.out (by omega)⟩
          case measure => simp [intOf]; omega
    · have hall : Lib.decFrom 0 s.data.toList = some v := by rw [← hd, List.take_of_length_le (by rw [← Lib.size_eq]; omega)]
      rw [HO.out] at hall
      cases hall

set_option maxHeartbeats 1000000 in
theorem int_one_none_false (s : ByteArray) (w : World) (hs : s.size = 1) (h0 : 0 < s.size) (hq : ((s[0].toNat : Int) == 48) = false) (HO : Hid (Lib.decFrom 0 s.data.toList = none)) : Calls Tryd.prog 33 #[.string s, .int .i64 15] w fun e w' => e = .returned (.tuple #[.int .i64 0, .bool false]) ∧ w' = w := by
  have h1 : (s.size : Int) ≤ 1 := by omega
  have h2 : (1 : Int) ≤ (s.size : Int) := by omega
  have g2 := ne_empty (s := s) (by omega)
  have hs' : s.size ≤ 1 := by omega
  clear hs
  go_enter Tryd.func33, Tryd.ntmps33
  go_wp2
  go_loop [7, 8] (fun n i => ∃ k v : Nat, k ≤ s.size ∧ i = .int .i64 k ∧ n = .int .i64 v ∧ Lib.decFrom 0 (s.data.toList.take k) = some v ∧ v < 10 ^ k) (fun _ i => s.size - (intOf i).toNat)
  case atStart => exact ⟨0, 0, Nat.zero_le _, rfl, rfl, rfl, by decide⟩
  case round =>
    obtain ⟨k, v, hk, rfl, rfl, hd, hv⟩ := hrel
    by_cases hlt : k < s.size
    · have hv1 : (v : Int) < 100000000000000 := by have := pow_small hv (by omega); omega
      have hv0 : (0 : Int) ≤ (v : Int) := by omega
      have hb := byte_at s k hlt
      have HB : Hid (s.data.toList[k]? = some s[k]) := hb
      have HD : Hid (Lib.decFrom 0 (s.data.toList.take k) = some v) := hd
      have HV : Hid (v < 10 ^ k) := hv
      clear hb hd hv
      by_cases h1 : (s[k].toNat : Int) < 48
      · have hbad := decFrom_bad HB.out (Or.inl (by omega)) 0
        clear hbad
        go_wp2
        go_ret2
        exact ⟨rfl, rfl⟩
      · by_cases h2 : 57 < (s[k].toNat : Int)
        · go_wp2
          go_ret2
          exact ⟨rfl, rfl⟩
        · go_wp2
          go_round
          case rel => exact ⟨k + 1, v * 10 + (s[k].toNat - 48), by omega, by go_num, by go_num, decFrom_step HD.out HB.out (by omega) (by omega), pow_step HV.out (by omega)⟩
          case measure => simp [intOf]; omega
    · have hall : Lib.decFrom 0 s.data.toList = some v := by rw [← hd, List.take_of_length_le (by rw [← Lib.size_eq]; omega)]
      rw [HO.out] at hall
      cases hall

set_option maxHeartbeats 1000000 in
theorem int_more_none (s : ByteArray) (w : World) (hs : 1 < s.size) (h15 : s.size ≤ 15) (hm : ((s[0].toNat : Int) == 45) = false) (hz : ((s[0].toNat : Int) == 48) = false) (HO : Hid (Lib.decFrom 0 s.data.toList = none)) : Calls Tryd.prog 33 #[.string s, .int .i64 15] w fun e w' => e = .returned (.tuple #[.int .i64 0, .bool false]) ∧ w' = w := by
  have h1 : (1 : Int) < (s.size : Int) := by omega
  have h3 : 0 < s.size := by omega
  have g2 := ne_empty (s := s) (by omega)
  have h2 : (s.size : Int) ≤ 15 := by omega
  go_enter Tryd.func33, Tryd.ntmps33
  go_wp2
  go_loop [7, 8] (fun n i => ∃ k v : Nat, k ≤ s.size ∧ i = .int .i64 k ∧ n = .int .i64 v ∧ Lib.decFrom 0 (s.data.toList.take k) = some v ∧ v < 10 ^ k) (fun _ i => s.size - (intOf i).toNat)
  case atStart => exact ⟨0, 0, Nat.zero_le _, rfl, rfl, rfl, by decide⟩
  case round =>
    obtain ⟨k, v, hk, rfl, rfl, hd, hv⟩ := hrel
    by_cases hlt : k < s.size
    · have hv1 : (v : Int) < 100000000000000 := by have := pow_small hv (by omega); omega
      have hv0 : (0 : Int) ≤ (v : Int) := by omega
      have hb := byte_at s k hlt
      have HB : Hid (s.data.toList[k]? = some s[k]) := hb
      have HD : Hid (Lib.decFrom 0 (s.data.toList.take k) = some v) := hd
      have HV : Hid (v < 10 ^ k) := hv
      clear hb hd hv
      by_cases h1 : (s[k].toNat : Int) < 48
      · have hbad := decFrom_bad HB.out (Or.inl (by omega)) 0
        clear hbad
        go_wp2
        go_ret2
        exact ⟨rfl, rfl⟩
      · by_cases h2 : 57 < (s[k].toNat : Int)
        · go_wp2
          go_ret2
          exact ⟨rfl, rfl⟩
        · go_wp2
          go_round
          case rel => exact ⟨k + 1, v * 10 + (s[k].toNat - 48), by omega, by go_num, by go_num, decFrom_step HD.out HB.out (by omega) (by omega), pow_step HV.out (by omega)⟩
          case measure => simp [intOf]; omega
    · have hall : Lib.decFrom 0 s.data.toList = some v := by rw [← hd, List.take_of_length_le (by rw [← Lib.size_eq]; omega)]
      rw [HO.out] at hall
      cases hall

set_option maxHeartbeats 1000000 in
theorem int_less_none (s : ByteArray) (t : ByteArray) (w : World) (hs : 1 < s.size) (hm : ((s[0].toNat : Int) == 45) = true) (he : s.extract 1 s.size = t) (ht1 : 0 < t.size) (ht : t.size ≤ 15) (hz : ((t[0].toNat : Int) == 48) = false) (HO : Hid (Lib.decFrom 0 t.data.toList = none)) : Calls Tryd.prog 33 #[.string s, .int .i64 15] w fun e w' => e = .returned (.tuple #[.int .i64 0, .bool false]) ∧ w' = w := by
  have h1 : (1 : Int) < (s.size : Int) := by omega
  have g2 := ne_empty (s := t) (by omega)
  have h2 : (t.size : Int) ≤ 15 := by omega
  go_enter Tryd.func33, Tryd.ntmps33
  go_wp2
  go_loop [7, 8] (fun n i => ∃ k v : Nat, k ≤ t.size ∧ i = .int .i64 k ∧ n = .int .i64 v ∧ Lib.decFrom 0 (t.data.toList.take k) = some v ∧ v < 10 ^ k) (fun _ i => t.size - (intOf i).toNat)
  case atStart => exact ⟨0, 0, Nat.zero_le _, rfl, rfl, rfl, by decide⟩
  case round =>
    obtain ⟨k, v, hk, rfl, rfl, hd, hv⟩ := hrel
    by_cases hlt : k < t.size
    · have hv1 : (v : Int) < 100000000000000 := by have := pow_small hv (by omega); omega
      have hv0 : (0 : Int) ≤ (v : Int) := by omega
      have hb := byte_at t k hlt
      have HB : Hid (t.data.toList[k]? = some t[k]) := hb
      have HD : Hid (Lib.decFrom 0 (t.data.toList.take k) = some v) := hd
      have HV : Hid (v < 10 ^ k) := hv
      clear hb hd hv
      by_cases h1 : (t[k].toNat : Int) < 48
      · have hbad := decFrom_bad HB.out (Or.inl (by omega)) 0
        clear hbad
        go_wp2
        go_ret2
        exact ⟨rfl, rfl⟩
      · by_cases h2 : 57 < (t[k].toNat : Int)
        · go_wp2
          go_ret2
          exact ⟨rfl, rfl⟩
        · go_wp2
          go_round
          case rel => exact ⟨k + 1, v * 10 + (t[k].toNat - 48), by omega, by go_num, by go_num, decFrom_step HD.out HB.out (by omega) (by omega), pow_step HV.out (by omega)⟩
          case measure => simp [intOf]; omega
    · have hall : Lib.decFrom 0 t.data.toList = some v := by rw [← hd, List.take_of_length_le (by rw [← Lib.size_eq]; omega)]
      rw [HO.out] at hall
      cases hall

set_option maxHeartbeats 1000000 in
theorem int_one_some_true (s : ByteArray) (v0 : Nat) (w : World) (hs : s.size = 1) (h0 : 0 < s.size) (hq : ((s[0].toNat : Int) == 48) = true) (HO : Hid (Lib.decFrom 0 s.data.toList = some v0)) : Calls Tryd.prog 33 #[.string s, .int .i64 15] w fun e w' => e = .returned (.tuple #[.int .i64 v0, .bool true]) ∧ w' = w := by
  have h1 : (s.size : Int) ≤ 1 := by omega
  have h2 : (1 : Int) ≤ (s.size : Int) := by omega
  have g2 := ne_empty (s := s) (by omega)
  have hs' : s.size ≤ 1 := by omega
  clear hs
  go_enter Tryd.func33, Tryd.ntmps33
  go_wp2
  go_loop [7, 8] (fun n i => ∃ k v : Nat, k ≤ s.size ∧ i = .int .i64 k ∧ n = .int .i64 v ∧ Lib.decFrom 0 (s.data.toList.take k) = some v ∧ v < 10 ^ k) (fun _ i => s.size - (intOf i).toNat)
  case atStart => exact ⟨0, 0, Nat.zero_le _, rfl, rfl, rfl, by decide⟩
  case round =>
    obtain ⟨k, v, hk, rfl, rfl, hd, hv⟩ := hrel
    by_cases hlt : k < s.size
    · have hv1 : (v : Int) < 100000000000000 := by have := pow_small hv (by omega); omega
      have hv0 : (0 : Int) ≤ (v : Int) := by omega
      have hb := byte_at s k hlt
      have HB : Hid (s.data.toList[k]? = some s[k]) := hb
      have HD : Hid (Lib.decFrom 0 (s.data.toList.take k) = some v) := hd
      have HV : Hid (v < 10 ^ k) := hv
      clear hb hd hv
      by_cases h1 : (s[k].toNat : Int) < 48
      · have hbad := decFrom_bad HB.out (Or.inl (by omega)) 0
        rw [HO.out] at hbad
        cases hbad
      · by_cases h2 : 57 < (s[k].toNat : Int)
        · have hbad := decFrom_bad HB.out (Or.inr (by omega)) 0
          rw [HO.out] at hbad
          cases hbad
        · go_wp2
          go_round
          case rel => exact ⟨k + 1, v * 10 + (s[k].toNat - 48), by omega, by go_num, by go_num, decFrom_step HD.out HB.out (by omega) (by omega), pow_step HV.out (by omega)⟩
          case measure => simp [intOf]; omega
    · have hall : Lib.decFrom 0 s.data.toList = some v := by rw [← hd, List.take_of_length_le (by rw [← Lib.size_eq]; omega)]
      rw [HO.out] at hall
      injection hall with hall
      subst hall
      have hv1 : (v0 : Int) < 10000000000000000 := by have := Nat.lt_of_lt_of_le hv (Nat.pow_le_pow_right (by omega) (show k ≤ 16 by omega)); omega
      clear hd hv
      go_wp2
      go_ret2
      exact ⟨rfl, rfl⟩

set_option maxHeartbeats 1000000 in
theorem int_one_some_false (s : ByteArray) (v0 : Nat) (w : World) (hs : s.size = 1) (h0 : 0 < s.size) (hq : ((s[0].toNat : Int) == 48) = false) (HO : Hid (Lib.decFrom 0 s.data.toList = some v0)) : Calls Tryd.prog 33 #[.string s, .int .i64 15] w fun e w' => e = .returned (.tuple #[.int .i64 v0, .bool true]) ∧ w' = w := by
  have h1 : (s.size : Int) ≤ 1 := by omega
  have h2 : (1 : Int) ≤ (s.size : Int) := by omega
  have g2 := ne_empty (s := s) (by omega)
  have hs' : s.size ≤ 1 := by omega
  clear hs
  go_enter Tryd.func33, Tryd.ntmps33
  go_wp2
  go_loop [7, 8] (fun n i => ∃ k v : Nat, k ≤ s.size ∧ i = .int .i64 k ∧ n = .int .i64 v ∧ Lib.decFrom 0 (s.data.toList.take k) = some v ∧ v < 10 ^ k) (fun _ i => s.size - (intOf i).toNat)
  case atStart => exact ⟨0, 0, Nat.zero_le _, rfl, rfl, rfl, by decide⟩
  case round =>
    obtain ⟨k, v, hk, rfl, rfl, hd, hv⟩ := hrel
    by_cases hlt : k < s.size
    · have hv1 : (v : Int) < 100000000000000 := by have := pow_small hv (by omega); omega
      have hv0 : (0 : Int) ≤ (v : Int) := by omega
      have hb := byte_at s k hlt
      have HB : Hid (s.data.toList[k]? = some s[k]) := hb
      have HD : Hid (Lib.decFrom 0 (s.data.toList.take k) = some v) := hd
      have HV : Hid (v < 10 ^ k) := hv
      clear hb hd hv
      by_cases h1 : (s[k].toNat : Int) < 48
      · have hbad := decFrom_bad HB.out (Or.inl (by omega)) 0
        rw [HO.out] at hbad
        cases hbad
      · by_cases h2 : 57 < (s[k].toNat : Int)
        · have hbad := decFrom_bad HB.out (Or.inr (by omega)) 0
          rw [HO.out] at hbad
          cases hbad
        · go_wp2
          go_round
          case rel => exact ⟨k + 1, v * 10 + (s[k].toNat - 48), by omega, by go_num, by go_num, decFrom_step HD.out HB.out (by omega) (by omega), pow_step HV.out (by omega)⟩
          case measure => simp [intOf]; omega
    · have hall : Lib.decFrom 0 s.data.toList = some v := by rw [← hd, List.take_of_length_le (by rw [← Lib.size_eq]; omega)]
      rw [HO.out] at hall
      injection hall with hall
      subst hall
      have hv1 : (v0 : Int) < 10000000000000000 := by have := Nat.lt_of_lt_of_le hv (Nat.pow_le_pow_right (by omega) (show k ≤ 16 by omega)); omega
      clear hd hv
      go_wp2
      go_ret2
      exact ⟨rfl, rfl⟩

set_option maxHeartbeats 1000000 in
theorem int_more_some (s : ByteArray) (v0 : Nat) (w : World) (hs : 1 < s.size) (h15 : s.size ≤ 15) (hm : ((s[0].toNat : Int) == 45) = false) (hz : ((s[0].toNat : Int) == 48) = false) (HO : Hid (Lib.decFrom 0 s.data.toList = some v0)) : Calls Tryd.prog 33 #[.string s, .int .i64 15] w fun e w' => e = .returned (.tuple #[.int .i64 v0, .bool true]) ∧ w' = w := by
  have h1 : (1 : Int) < (s.size : Int) := by omega
  have h3 : 0 < s.size := by omega
  have g2 := ne_empty (s := s) (by omega)
  have h2 : (s.size : Int) ≤ 15 := by omega
  go_enter Tryd.func33, Tryd.ntmps33
  go_wp2
  go_loop [7, 8] (fun n i => ∃ k v : Nat, k ≤ s.size ∧ i = .int .i64 k ∧ n = .int .i64 v ∧ Lib.decFrom 0 (s.data.toList.take k) = some v ∧ v < 10 ^ k) (fun _ i => s.size - (intOf i).toNat)
  case atStart => exact ⟨0, 0, Nat.zero_le _, rfl, rfl, rfl, by decide⟩
  case round =>
    obtain ⟨k, v, hk, rfl, rfl, hd, hv⟩ := hrel
    by_cases hlt : k < s.size
    · have hv1 : (v : Int) < 100000000000000 := by have := pow_small hv (by omega); omega
      have hv0 : (0 : Int) ≤ (v : Int) := by omega
      have hb := byte_at s k hlt
      have HB : Hid (s.data.toList[k]? = some s[k]) := hb
      have HD : Hid (Lib.decFrom 0 (s.data.toList.take k) = some v) := hd
      have HV : Hid (v < 10 ^ k) := hv
      clear hb hd hv
      by_cases h1 : (s[k].toNat : Int) < 48
      · have hbad := decFrom_bad HB.out (Or.inl (by omega)) 0
        rw [HO.out] at hbad
        cases hbad
      · by_cases h2 : 57 < (s[k].toNat : Int)
        · have hbad := decFrom_bad HB.out (Or.inr (by omega)) 0
          rw [HO.out] at hbad
          cases hbad
        · go_wp2
          go_round
          case rel => exact ⟨k + 1, v * 10 + (s[k].toNat - 48), by omega, by go_num, by go_num, decFrom_step HD.out HB.out (by omega) (by omega), pow_step HV.out (by omega)⟩
          case measure => simp [intOf]; omega
    · have hall : Lib.decFrom 0 s.data.toList = some v := by rw [← hd, List.take_of_length_le (by rw [← Lib.size_eq]; omega)]
      rw [HO.out] at hall
      injection hall with hall
      subst hall
      have hv1 : (v0 : Int) < 10000000000000000 := by have := Nat.lt_of_lt_of_le hv (Nat.pow_le_pow_right (by omega) (show k ≤ 16 by omega)); omega
      clear hd hv
      go_wp2
      go_ret2
      exact ⟨rfl, rfl⟩

set_option maxHeartbeats 1000000 in
theorem int_less_some (s : ByteArray) (t : ByteArray) (v0 : Nat) (w : World) (hs : 1 < s.size) (hm : ((s[0].toNat : Int) == 45) = true) (he : s.extract 1 s.size = t) (ht1 : 0 < t.size) (ht : t.size ≤ 15) (hz : ((t[0].toNat : Int) == 48) = false) (HO : Hid (Lib.decFrom 0 t.data.toList = some v0)) : Calls Tryd.prog 33 #[.string s, .int .i64 15] w fun e w' => e = .returned (.tuple #[.int .i64 (-(v0 : Int)), .bool true]) ∧ w' = w := by
  have h1 : (1 : Int) < (s.size : Int) := by omega
  have g2 := ne_empty (s := t) (by omega)
  have h2 : (t.size : Int) ≤ 15 := by omega
  go_enter Tryd.func33, Tryd.ntmps33
  go_wp2
  go_loop [7, 8] (fun n i => ∃ k v : Nat, k ≤ t.size ∧ i = .int .i64 k ∧ n = .int .i64 v ∧ Lib.decFrom 0 (t.data.toList.take k) = some v ∧ v < 10 ^ k) (fun _ i => t.size - (intOf i).toNat)
  case atStart => exact ⟨0, 0, Nat.zero_le _, rfl, rfl, rfl, by decide⟩
  case round =>
    obtain ⟨k, v, hk, rfl, rfl, hd, hv⟩ := hrel
    by_cases hlt : k < t.size
    · have hv1 : (v : Int) < 100000000000000 := by have := pow_small hv (by omega); omega
      have hv0 : (0 : Int) ≤ (v : Int) := by omega
      have hb := byte_at t k hlt
      have HB : Hid (t.data.toList[k]? = some t[k]) := hb
      have HD : Hid (Lib.decFrom 0 (t.data.toList.take k) = some v) := hd
      have HV : Hid (v < 10 ^ k) := hv
      clear hb hd hv
      by_cases h1 : (t[k].toNat : Int) < 48
      · have hbad := decFrom_bad HB.out (Or.inl (by omega)) 0
        rw [HO.out] at hbad
        cases hbad
      · by_cases h2 : 57 < (t[k].toNat : Int)
        · have hbad := decFrom_bad HB.out (Or.inr (by omega)) 0
          rw [HO.out] at hbad
          cases hbad
        · go_wp2
          go_round
          case rel => exact ⟨k + 1, v * 10 + (t[k].toNat - 48), by omega, by go_num, by go_num, decFrom_step HD.out HB.out (by omega) (by omega), pow_step HV.out (by omega)⟩
          case measure => simp [intOf]; omega
    · have hall : Lib.decFrom 0 t.data.toList = some v := by rw [← hd, List.take_of_length_le (by rw [← Lib.size_eq]; omega)]
      rw [HO.out] at hall
      injection hall with hall
      subst hall
      have hv1 : (v0 : Int) < 10000000000000000 := by have := Nat.lt_of_lt_of_le hv (Nat.pow_le_pow_right (by omega) (show k ≤ 16 by omega)); omega
      clear hd hv
      go_wp2
      go_ret2
      exact ⟨rfl, rfl⟩
end Go.Proofs.YtabcpbdgmaeebaaDoor
