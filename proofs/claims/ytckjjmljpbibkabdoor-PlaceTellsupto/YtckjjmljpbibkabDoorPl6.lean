/-
  What strings.Count and strings.Split answer, of a text with a dot between, called in whatever memory, where it has four pieces at most: the pieces, in new memory; by contracts of strings.Index and strings.Count.
-/
import Derived.Test.YtckjjmljpbibkabDoorPl2
import Derived.Test.YtckjjmljpbibkabDoorShelfS
import Derived.Lib.SplitLaws
import Derived.Lib.IndexLaws
import Derived.Shelf.Strings.Search3
import Derived.Shelf.Strings.Count
namespace Go.Proofs.YtckjjmljpbibkabDoor
open Go.ChangeShapes Go.WideShapes Go.ChangeAt Go.RowKit
set_option maxRecDepth 20000

theorem cut_count (c : UInt8) (l : List UInt8) : (cutB c l).length = Lib.countByte l c + 1 := by
  unfold Lib.countByte
  induction l with
  | nil => rfl
  | cons x t ih =>
    rw [cutB]
    by_cases h : x = c
    · rw [if_pos h, List.length_cons, ih, h, List.count_cons_self]
    · rw [if_neg h, List.count_cons_of_ne (by simpa using h)]
      cases hs : cutB c t with
      | nil => exact absurd hs (cutB_ne c t)
      | cons a r => rw [hs] at ih; simpa using ih
theorem cut_miss {c : UInt8} {l : List UInt8} (h : Lib.indexByte l c = -1) : cutB c l = [l] := by
  refine cut_none fun hm => ?_
  obtain ⟨i, hi, he⟩ := List.getElem_of_mem hm
  exact Lib.indexByte_none h i (by rw [List.getElem?_eq_getElem hi, he])
theorem cut_hit {c : UInt8} {l : List UInt8} {o : Nat} (h : Lib.indexByte l c = o) : o < l.length ∧ cutB c l = l.take o :: cutB c (l.drop (o + 1)) := by
  obtain ⟨h1, h2⟩ := Lib.indexByte_some h
  obtain ⟨ho, he⟩ := List.getElem?_eq_some_iff.1 h1
  refine ⟨ho, ?_⟩
  have e : l = l.take o ++ c :: l.drop (o + 1) := by
    rw [← he, ← List.drop_eq_getElem_cons ho, List.take_append_drop]
  have hn : c ∉ l.take o := fun hm => by
    obtain ⟨i, hi, hv⟩ := List.getElem_of_mem hm
    have hio : i < o := by simp at hi; omega
    exact h2 i hio (by rw [List.getElem?_eq_getElem (by omega)]; simpa using hv)
  conv => lhs; rw [e]
  exact cut_ahead hn _

theorem byte_ext {x : ByteArray} {l : List UInt8} (h : x.data.toList = l) : (⟨l.toArray⟩ : ByteArray) = x := by
  subst h
  cases x
  simp
theorem pieces_one {x : ByteArray} (h : Lib.indexByte x.data.toList 46 = -1) : pieces x = [x] := by
  unfold pieces
  rw [cut_miss h, List.map_singleton, byte_ext rfl]
theorem pieces_more {x : ByteArray} {i : Nat} (h : Lib.indexByte x.data.toList 46 = i) : i + 1 ≤ x.size ∧ pieces x = x.extract 0 i :: pieces (x.extract (i + 1) x.size) := by
  obtain ⟨h1, h2⟩ := cut_hit h
  have hsz : x.data.toList.length = x.size := by simp
  refine ⟨by omega, ?_⟩
  unfold pieces
  rw [h2, List.map_cons, byte_ext (Lib.extract_from_zero x i), Lib.extract_to_end]
theorem pieces_pos (x : ByteArray) : 1 ≤ (pieces x).length := by
  unfold pieces
  rw [List.length_map, cut_count]
  omega
theorem pieces_count (x : ByteArray) : (pieces x).length = Lib.countByte x.data.toList 46 + 1 := by
  unfold pieces
  rw [List.length_map, cut_count]
theorem pieces_le (x : ByteArray) : (pieces x).length ≤ x.size + 1 := by
  rw [pieces_count]
  unfold Lib.countByte
  have := List.count_le_length (a := (46 : UInt8)) (l := x.data.toList)
  have hsz : x.data.toList.length = x.size := by simp
  omega
/-- one piece is the text -/
theorem pieces_last {x : ByteArray} (h : (pieces x).length = 1) : pieces x = [x] := by
  have h1 := Lib.indexByte_ge x.data.toList 46
  by_cases h2 : Lib.indexByte x.data.toList 46 = -1
  · exact pieces_one h2
  · obtain ⟨i, hi⟩ : ∃ i : Nat, Lib.indexByte x.data.toList 46 = i := ⟨(Lib.indexByte x.data.toList 46).toNat, by omega⟩
    have h3 := (pieces_more hi).2
    have h4 := pieces_pos (x.extract (i + 1) x.size)
    rw [h3, List.length_cons] at h
    omega
/-- of more than one there is a dot -/
theorem pieces_dot {x : ByteArray} (h : 2 ≤ (pieces x).length) : ∃ i : Nat, Lib.indexByte x.data.toList 46 = i ∧ i + 1 ≤ x.size ∧ pieces x = x.extract 0 i :: pieces (x.extract (i + 1) x.size) := by
  have h1 := Lib.indexByte_ge x.data.toList 46
  by_cases h2 : Lib.indexByte x.data.toList 46 = -1
  · rw [pieces_one h2] at h; simp at h
  · obtain ⟨i, hi⟩ : ∃ i : Nat, Lib.indexByte x.data.toList 46 = i := ⟨(Lib.indexByte x.data.toList 46).toNat, by omega⟩
    exact ⟨i, hi, pieces_more hi⟩

theorem count_dot (s : ByteArray) (w : World) : Calls Tryd.prog 55 #[.string s, .string ⟨#[46]⟩] w fun e w' => e = .returned (.int .i64 (((pieces s).length : Int) - 1)) ∧ w' = w := by
  refine (Any.strings_Count_one Tryd.lays138 s 46 w).mono fun e w' ⟨h1, h2⟩ => ⟨?_, h2⟩
  rw [h1, pieces_count]
  simp
theorem index_dot (s : ByteArray) (w : World) : Calls Tryd.prog 69 #[.string s, .string ⟨#[46]⟩] w fun e w' => e = .returned (.int .i64 (Lib.indexByte s.data.toList 46)) ∧ w' = w := Any.strings_Index_one Tryd.lays143 s 46 w

theorem Tryd.infoStr : (Tryd.prog.info? 9).map (fun i => (i.zero, i.size, i.bytes)) = some (some (.string ByteArray.empty), 1, 16) := by kernel_rfl

set_option maxHeartbeats 4000000 in
theorem gensplit_any (s : ByteArray) (w : World) (hN : (pieces s).length ≤ 4) (hs : s.size ≤ 4611686018427387904) : Calls Tryd.prog 70 #[.string s, .string ⟨#[46]⟩, .int .i64 0, .int .i64 (-1)] w fun e w' => e = .returned (.slice (some ⟨w.heap.size, 0, none⟩) (pieces s).length (pieces s).length) ∧ w' = w.alloc (.cells ((pieces s).map Value.string).toArray 9) := by
  have hct := count_dot s
  have hpo := pieces_pos s
  have hple := pieces_le s
  obtain ⟨N, hn⟩ : ∃ N, (pieces s).length = N := ⟨_, rfl⟩
  have HN : Hid ((pieces s).length = N) := hn
  rw [hn] at hN hct hpo hple
  rw [hn]
  have hmk := run_make_row' (P := Tryd.prog) 90 9 (.string ByteArray.empty) 16 Tryd.underlying90 Tryd.infoStr rfl .i64 .i64 N (by omega) (by omega)
  have hsz : (s.size : Int) ≤ 4611686018427387904 := by omega
  have hN4 : (N : Int) ≤ 4 := by omega
  have hN1 : (1 : Int) ≤ (N : Int) := by omega
  have hmn : min (N : Int) ((s.size : Int) + 1) = (N : Int) := Int.min_eq_left (by omega)
  clear hn
  go_enter Tryd.func70, Tryd.ntmps70
  go_wp2_with fail
  refine (hct _).mono ?_
  rintro e w1 ⟨rfl, rfl⟩
  go_wp2_with fail
  clear hmk hct hmn
  go_loopg [0, 10, 11] (N - 1) (fun g s0 s10 s11 wr => ∃ (done : List ByteArray) (rest : ByteArray), s0 = .string rest ∧ s10 = .int .i64 done.length ∧ done.length ≤ N - 1 ∧ g = N - 1 - done.length ∧ rest.size ≤ s.size ∧ wr = w1.alloc (.cells (Lib.cellsOf done N) 9) ∧ done ++ pieces rest = pieces s)
  case atStart => exact ⟨[], s, rfl, rfl, Nat.zero_le _, rfl, Nat.le_refl _, by rw [Lib.cellsOf_nil], rfl⟩
  case round =>
    obtain ⟨done, rest, rfl, rfl, hd, rfl, hrs, rfl, hsp⟩ := hrel
    have hnext : (Lib.cellsOf done N)[done.length]? = some (.string ByteArray.empty) := Lib.cellsOf_next (by omega)
    have HS : Hid (done ++ pieces rest = pieces s) := hsp
    have hpl : done.length + (pieces rest).length = N := by rw [← HN.out, ← hsp, List.length_append]
    have hix := index_dot rest
    clear hsp
    by_cases hlt : done.length < N - 1
    · have hltz : ((done.length : Nat) : Int) < (N : Int) - 1 := by omega
      obtain ⟨i, hi, hroom, hpc⟩ := pieces_dot (x := rest) (by omega)
      rw [hi] at hix
      have HP : Hid (pieces rest = rest.extract 0 i :: pieces (rest.extract (i + 1) rest.size)) := hpc
      have c0 : ¬ ((i : Int) < 0) := by omega
      have c2 : (i : Int) ≤ (rest.size : Int) := by omega
      have c4 : (i : Int) + 1 ≤ (rest.size : Int) := by omega
      have c5 : (rest.size : Int) ≤ 4611686018427387904 := by omega
      clear hpc hi hpl
      go_wp2_with fail
      refine (hix _).mono ?_
      rintro e w2 ⟨rfl, rfl⟩
      go_wp2_with fail
      go_roundg (N - 1 - (done.length + 1))
      case measure => omega
      case rel =>
        refine ⟨done ++ [rest.extract 0 i], rest.extract (i + 1) rest.size, rfl, by simp, by simp; omega, by simp, by rw [ByteArray.size_extract]; omega, by rw [← Lib.cellsOf_set (by omega)], ?_⟩
        rw [← HS.out, HP.out]
        simp
    · have hltz : ¬ (((done.length : Nat) : Int) < (N : Int) - 1) := by omega
      have hone := pieces_last (x := rest) (by omega)
      have HF : Hid ((Lib.cellsOf done N).setIfInBounds done.length (.string rest) = ((pieces s).map Value.string).toArray) := by
        show _ = _
        have hL : done ++ [rest] = pieces s := by rw [← HS.out, hone]
        rw [Lib.cellsOf_set (by omega), hL, ← HN.out, Lib.cellsOf_full]
      have hdn : done.length + 1 = N := by omega
      have hdn' : ((done.length : Nat) : Int) + 1 = (N : Int) := by omega
      clear hone hix
      go_wp2_with fail
      go_ret
      rw [← HF.out]
      exact ⟨by rfl, rfl⟩

theorem split_any (s : ByteArray) (w : World) (hN : (pieces s).length ≤ 4) (hs : s.size ≤ 4611686018427387904) : Calls Tryd.prog 56 #[.string s, .string ⟨#[46]⟩] w fun e w' => e = .returned (.slice (some ⟨w.heap.size, 0, none⟩) (pieces s).length (pieces s).length) ∧ w' = w.alloc (.cells ((pieces s).map Value.string).toArray 9) := by
  have h := gensplit_any s w hN hs
  generalize (pieces s).length = m at h
  generalize ((pieces s).map Value.string).toArray = cs at h
  clear hN hs
  go_enter Tryd.func56, Tryd.ntmps56
  go_wp2_with fail
  refine h.mono ?_
  rintro e w1 ⟨rfl, rfl⟩
  go_wp2_with fail
  go_ret
  exact ⟨rfl, rfl⟩
end Go.Proofs.YtckjjmljpbibkabDoor
