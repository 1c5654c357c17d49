/-
  The document's own reading of a place's text (tallyref1.Cut, tallyref1.ReadPlace): the pieces of a text between its dots; the place that it names, or what is wrong.
-/
import Derived.Test.YtckjjmljpbibkabDoorPlR1
import Derived.Test.YtckjjmljpbibkabDoorPl7
namespace Go.Proofs.YtckjjmljpbibkabDoor
open Go.ChangeShapes Go.WideShapes Go.ChangeAt Go.RowKit
set_option maxRecDepth 20000

/-- pieces that are cut off already, and where the next one begins -/
structure CutAt (s : ByteArray) (done : List ByteArray) (f k : Nat) : Prop where
  le : f ≤ k
  cut : done.map (·.data.toList) ++ cutB 46 (s.data.toList.drop f) = cutB 46 s.data.toList
  free : (46 : UInt8) ∉ (s.data.toList.drop f).take (k - f)
theorem cutAt_start (s : ByteArray) : CutAt s [] 0 0 := ⟨Nat.le_refl _, by simp, by simp⟩
theorem extract_list (s : ByteArray) (a b : Nat) : (s.extract a b).data.toList = (s.data.toList.drop a).take (b - a) := Lib.extract_data s a b
theorem byte_at {s : ByteArray} {k : Nat} (hk : k < s.size) : s.data.toList[k]? = some s[k] := by
  rw [List.getElem?_eq_getElem (by simpa using hk)]
  rfl
theorem drop_take {s : ByteArray} {f k : Nat} (hf : f ≤ k) (hk : k < s.size) : s.data.toList.drop f = (s.data.toList.drop f).take (k - f) ++ s[k] :: s.data.toList.drop (k + 1) := by
  have hk' : k < s.data.toList.length := by simpa using hk
  have e1 : (s.data.toList.drop f).drop (k - f) = s[k] :: s.data.toList.drop (k + 1) := by
    rw [List.drop_drop, show f + (k - f) = k by omega, List.drop_eq_getElem_cons hk']
    rfl
  rw [← e1, List.take_append_drop]
theorem CutAt.miss {s : ByteArray} {done : List ByteArray} {f k : Nat} (h : CutAt s done f k) (hk : k < s.size) (hb : s[k] ≠ 46) : CutAt s done f (k + 1) := by
  have hf := h.le
  refine ⟨by omega, h.cut, ?_⟩
  have e := drop_take hf hk
  have hk' : k < s.data.toList.length := by simpa using hk
  have hl : ((s.data.toList.drop f).take (k - f)).length = k - f := by rw [List.length_take, List.length_drop]; omega
  have e2 : (s.data.toList.drop f).take (k + 1 - f) = (s.data.toList.drop f).take (k - f) ++ [s[k]] := by
    rw [show k + 1 - f = (k - f) + 1 by omega, List.take_add_one]
    congr 1
    rw [List.getElem?_drop, show f + (k - f) = k by omega, byte_at hk]
    rfl
  rw [e2, List.mem_append, not_or]
  exact ⟨h.free, by simpa using fun e => hb e.symm⟩
theorem CutAt.hit {s : ByteArray} {done : List ByteArray} {f k : Nat} (h : CutAt s done f k) (hk : k < s.size) (hb : s[k] = 46) : CutAt s (done ++ [s.extract f k]) (k + 1) (k + 1) := by
  refine ⟨Nat.le_refl _, ?_, by simp⟩
  have e := drop_take h.le hk
  rw [hb] at e
  rw [← h.cut, List.map_append, List.map_singleton, extract_list, List.append_assoc]
  congr 1
  conv => rhs; rw [e]
  rw [cut_ahead h.free]
  rfl
theorem CutAt.last {s : ByteArray} {done : List ByteArray} {f : Nat} (h : CutAt s done f s.size) : done ++ [s.extract f s.size] = pieces s := by
  have hsz : s.data.toList.length = s.size := by simp
  have hf := h.le
  have h1 := h.free
  rw [List.take_of_length_le (by rw [List.length_drop]; omega)] at h1
  have h2 := h.cut
  rw [cut_none h1] at h2
  unfold pieces
  rw [← h2, List.map_append, List.map_singleton, List.map_map]
  have e1 : ∀ l : List ByteArray, l.map ((fun l : List UInt8 => (⟨l.toArray⟩ : ByteArray)) ∘ fun x => x.data.toList) = l := fun l => by
    conv => rhs; rw [← List.map_id l]
    exact List.map_congr_left fun x _ => byte_ext rfl
  rw [e1, byte_ext (x := s.extract f s.size)]
  rw [extract_list, List.take_of_length_le (by rw [List.length_drop]; omega)]
theorem CutAt.len {s : ByteArray} {done : List ByteArray} {f k : Nat} (h : CutAt s done f k) : done.length + 1 ≤ s.size + 1 := by
  have h1 := congrArg List.length h.cut
  rw [List.length_append, List.length_map] at h1
  have h2 := pieces_le s
  unfold pieces at h2
  rw [List.length_map] at h2
  have h3 : 1 ≤ (cutB 46 (s.data.toList.drop f)).length := by rw [cut_count]; omega
  omega

def mapS (l : List ByteArray) : List Value := l.map Value.string
theorem mapS_snoc (l : List ByteArray) (x : ByteArray) : mapS (l ++ [x]) = mapS l ++ [Value.string x] := by simp [mapS]
theorem one_str {x : ByteArray} : ∀ u ∈ [Value.string x], u.oneCell' = true := by intro u hu; simp at hu; subst hu; rfl
/-- a slice of strings that holds the pieces of a text -/
def StrsAt (w : World) (A : Option Addr) (l : List ByteArray) : Prop := ∃ g, A = some ⟨g, 0, none⟩ ∧ g < w.heap.size ∧ ∀ j, j < l.length → w.cell? ⟨g, j, none⟩ = some (.string (l.getD j ⟨#[]⟩))
theorem strs_of {w : World} {base e : Nat} {v : Value} {l : List ByteArray} (h : w.ownsRow base e 1 v l.length (mapS l)) (hl : 1 ≤ l.length) : ∃ A cap, v = .slice A l.length cap ∧ l.length ≤ cap ∧ StrsAt w A l := by
  rcases h.2 with ⟨rfl, h0⟩ | ⟨g, cap, cur, rfl, hb, hg, hc, _, _, _⟩
  · omega
  · refine ⟨_, cap, rfl, hc, g, rfl, (Array.getElem?_eq_some_iff.1 hg).1, fun j hj => ?_⟩
    have hx := h.cells (g := g) rfl j (.string (l.getD j ⟨#[]⟩)) (by simp [mapS, List.getD, List.getElem?_eq_getElem hj])
    have hadd : (⟨g, 0, none⟩ : Addr).add j = ⟨g, j, none⟩ := by unfold Addr.add; split <;> simp_all
    rw [hadd] at hx
    exact hx

set_option maxHeartbeats 4000000 in
theorem rcut_any (s : ByteArray) (w : World) (hs : s.size ≤ 1048576) : Calls Tryd.prog 54 #[.string s, .int .u8 46] w fun e w' => (∃ A c, e = .returned (.slice A (pieces s).length c) ∧ (pieces s).length ≤ c ∧ StrsAt w' A (pieces s)) ∧ Below w.heap.size w w' := by
  obtain ⟨i0, hi0, hz0, hz1, hz2⟩ := info_parts Tryd.infoStr
  have hs' : (s.size : Int) ≤ 1048576 := by omega
  go_enter Tryd.func54, Tryd.ntmps54
  go_wp2_with fail
  go_loopg [5, 6, 7] s.size (fun g s5 s6 s7 wr => ∃ (k f : Nat) (done : List ByteArray), k ≤ s.size ∧ g = s.size - k ∧ s7 = .int .i64 k ∧ s6 = .int .i64 f ∧ CutAt s done f k ∧ wr.ownsRow w.heap.size 9 1 s5 done.length (mapS done) ∧ Below w.heap.size w wr)
  case atStart => exact ⟨0, 0, [], Nat.zero_le _, rfl, rfl, rfl, cutAt_start s, World.ownsRow_nil _ _ _ _, Below.refl _ _⟩
  case round =>
    obtain ⟨k, f, done, hk, rfl, rfl, rfl, hC, hown, hBw⟩ := hrel
    have HC : Hid (CutAt s done f k) := hC
    have HW : Hid (Below w.heap.size w wr) := hBw
    have hlen := hC.len
    have hfk := hC.le
    have hsz := hBw.size
    have hfk' : (f : Int) ≤ (k : Int) := by omega
    by_cases hlt : k < s.size
    · have hki : (k : Int) < (s.size : Int) := by omega
      by_cases hb : s[k] = 46
      · have hbi : ((s[k].toNat : Int) == 46) = true := by rw [hb]; decide
        have HH : Hid (CutAt s (done ++ [s.extract f k]) (k + 1) (k + 1)) := hC.hit hlt hb
        clear hC hBw hb
        go_wp2_with (at_builtin; refine wpList_append_own _ rfl _ _ 90 rfl w.heap.size 9 i0 (.string ByteArray.empty) 1 16 Tryd.underlying90 hi0 hz0 hz1 hz2 rfl (by decide) _ _ _ rfl (hown.alloc _) ⟨wr.heap.size, 0, none⟩ 1 1 [.string (s.extract f k)] rfl rfl one_cell one_str (by unfold maxLen; omega) (by omega) (by simp; omega) ?_)
        intro v' w2 hown' hgrow _
        have HB2 : Hid (Below w.heap.size w w2) := grown_own HW.out hown hgrow
        have HO2 : Hid (w2.ownsRow w.heap.size 9 1 v' (done ++ [s.extract f k]).length (mapS (done ++ [s.extract f k]))) := by
          show World.ownsRow ..
          rw [mapS_snoc, List.length_append]; exact hown'
        clear hown' hgrow hown
        go_wp2_with fail
        go_roundg (s.size - (k + 1))
        case measure => omega
        case rel => exact ⟨k + 1, k + 1, done ++ [s.extract f k], by omega, rfl, by go_num, by go_num, HH.out, HO2.out, HB2.out⟩
      · have hbn : ¬ (s[k].toNat : Int) = 46 := fun e => hb (by
          have e1 : s[k].toNat = 46 := by omega
          exact UInt8.toNat_inj.1 (by rw [e1]; rfl))
        have hbi : ((s[k].toNat : Int) == 46) = false := by simpa using hbn
        have HH : Hid (CutAt s done f (k + 1)) := hC.miss hlt hb
        have HO : Hid (wr.ownsRow w.heap.size 9 1 _ done.length (mapS done)) := hown
        clear hC hBw hb hbn hown
        go_wp2_with fail
        go_roundg (s.size - (k + 1))
        case measure => omega
        case rel => exact ⟨k + 1, f, done, by omega, rfl, by go_num, rfl, HH.out, HO.out, HW.out⟩
    · have hke : k = s.size := by omega
      subst hke
      have HL : Hid (done ++ [s.extract f s.size] = pieces s) := hC.last
      clear hC hBw
      go_wp2_with (at_builtin; refine wpList_append_own _ rfl _ _ 90 rfl w.heap.size 9 i0 (.string ByteArray.empty) 1 16 Tryd.underlying90 hi0 hz0 hz1 hz2 rfl (by decide) _ _ _ rfl (hown.alloc _) ⟨wr.heap.size, 0, none⟩ 1 1 [.string (s.extract f s.size)] rfl rfl one_cell one_str (by unfold maxLen; omega) (by omega) (by simp; omega) ?_)
      intro v' w2 hown' hgrow _
      have HB2 : Hid (Below w.heap.size w w2) := grown_own HW.out hown hgrow
      have HO2 : Hid (w2.ownsRow w.heap.size 9 1 v' (pieces s).length (mapS (pieces s))) := by
        show World.ownsRow ..
        rw [← HL.out, mapS_snoc, List.length_append]; exact hown'
      clear hown' hgrow hown
      go_wp2_with fail
      go_ret
      obtain ⟨A, c, h1, h2, h3⟩ := strs_of HO2.out (pieces_pos s)
      exact ⟨⟨A, c, by rw [← h1]; rfl, h2, h3⟩, HB2.out⟩
end Go.Proofs.YtckjjmljpbibkabDoor
