/-
  What number, Parse and Print of package cell answer, of every text and every cell, by contracts of strings.TrimPrefix, strconv.Atoi and strconv.Itoa.
-/
import Derived.Test.YtabcpbdgmaeebaaDoorCells6
import Derived.Test.YtabcpbdgmaeebaaDoorNums
import Derived.Test.YtabcpbdgmaeebaaDoorShelf
import Derived.Lib.AppendIntMem
import Derived.WalkSmall
namespace Go.Proofs.YtabcpbdgmaeebaaDoor
open Go.ChangeShapes Go.WideShapes Go.ChangeAt Go.RowKit

def Env (w : World) : Prop := Lib.TabIs Tryd.prog w "internal/strconv.uint64pow10" .u64 Lib.pow10Tab ∧ ∃ tp p, w.var? Tryd.prog "strconv.ErrSyntax" = some #[.iface tp p]
theorem var_later {P : Program} {w w' : World} {name : String} {cs : Array Value} (h : w.var? P name = some cs) (hb : Below w.heap.size w w') : w'.var? P name = some cs := by
  unfold World.var? at *
  cases hg : P.globalNamed name with
  | none => simp [hg] at h
  | some g =>
    simp only [hg, Option.bind_some] at h ⊢
    have hlt : g < w.heap.size := by
      rcases Nat.lt_or_ge g w.heap.size with h' | h'
      · exact h'
      · rw [Array.getElem?_eq_none h'] at h; simp at h
    rw [hb.block g hlt]
    exact h
theorem Env.later {w w' : World} (h : Env w) (hb : Below w.heap.size w w') : Env w' := by
  obtain ⟨h1, tp, p, h2⟩ := h
  exact ⟨Lib.tabBelow_of_tabIs h1 w' hb, tp, p, var_later h2 hb⟩

def TrimC : Prop := ∀ (s : ByteArray) (w : World), Calls Tryd.prog 42 #[.string s, .string ⟨#[45]⟩] w fun e w' => e = .returned (.string ⟨(Lib.trimPrefix s.data.toList [45]).toArray⟩) ∧ w' = w
def ItoaC : Prop := ∀ (n : Int) (w : World), -9223372036854775808 ≤ n → n ≤ 9223372036854775807 → Env w → Calls Tryd.prog 24 #[.int .i64 n] w fun e w' => e = .returned (.string ⟨(Lib.itoa n).toArray⟩) ∧ Below w.heap.size w w'
def AtoiC : Prop := ∀ (s : ByteArray) (v : Int) (w : World), s.size ≤ 18 → Lib.atoi s.data.toList = some v → Calls Tryd.prog 43 #[.string s] w fun e w' => e = .returned (.tuple #[.int .i64 v, .nilIface]) ∧ Below w.heap.size w w'
def AtoiE : Prop := ∀ (s : ByteArray) (w : World), s.size ≤ 18 → Lib.atoi s.data.toList = none → Env w → Calls Tryd.prog 43 #[.string s] w fun e w' => (∃ N T, e = .returned (.tuple #[.int .i64 0, .iface T (.pointer (some ⟨N, 0, none⟩))])) ∧ Below w.heap.size w w'

theorem trimC : TrimC := fun s w => Any.strings_TrimPrefix Tryd.lays101 s ⟨#[45]⟩ w
theorem itoaC : ItoaC := fun n w h0 h1 hE => (Any.strconv_Itoa Tryd.laysM171 n h0 h1 w hE.1).mono fun e w' ⟨he, k, os, hw⟩ => ⟨he, by rw [hw]; exact Lib.below_grow _ _ (Nat.le_refl _) _ _⟩
theorem atoiC : AtoiC := fun s v w hl h => (Any.strconv_Atoi Tryd.lays172 s v hl h w).mono fun e w' ⟨he, t, hw⟩ => ⟨he, by rw [hw]; exact Lib.bytesWorld_below _ _ _⟩
theorem atoiE : AtoiE := fun s w hl h hE => by
  obtain ⟨_, tp, p, hv⟩ := hE
  exact (Any.strconv_Atoi_err_var Tryd.laysC172 s hl h tp p w hv).mono fun e w' ⟨N, he, _, _, hb⟩ => ⟨⟨N, _, he⟩, hb⟩

theorem number_long (hT : TrimC) (s : ByteArray) (w : World) (h : ¬ (Lib.trimPrefix s.data.toList [45]).length ≤ 15) : Calls Tryd.prog 34 #[.string s] w fun e w' => e = .returned (.tuple #[.int .i64 0, .bool false]) ∧ Below w.heap.size w w' := by
  have ht := hT s
  generalize Lib.trimPrefix s.data.toList [45] = l at ht h
  have h' : (15 : Int) < (l.length : Int) := by omega
  clear hT
  go_enter Tryd.func34, Tryd.ntmps34
  go_wp2_with fail
  refine (ht _).mono ?_
  rintro e w1 ⟨rfl, rfl⟩
  go_wp2_with fail
  go_ret2
  exact ⟨rfl, Below.refl _ _⟩

theorem number_err (hT : TrimC) (hE : AtoiE) (s : ByteArray) (w : World) (hw : Env w) (h : (Lib.trimPrefix s.data.toList [45]).length ≤ 15) (hs : s.size ≤ 18) (hn : Lib.atoi s.data.toList = none) : Calls Tryd.prog 34 #[.string s] w fun e w' => e = .returned (.tuple #[.int .i64 0, .bool false]) ∧ Below w.heap.size w w' := by
  have ht := hT s
  have he := fun w hw => hE s w hs hn hw
  generalize Lib.trimPrefix s.data.toList [45] = l at ht h
  have h' : (l.length : Int) ≤ 15 := by omega
  clear hT hE hn h
  go_enter Tryd.func34, Tryd.ntmps34
  go_wp2_with fail
  refine (ht _).mono ?_
  rintro e w1 ⟨rfl, rfl⟩
  go_wp2_with fail
  refine (he _ hw).mono ?_
  rintro e w1 ⟨⟨N, T, rfl⟩, hb⟩
  go_wp2_with fail
  go_ret2
  exact ⟨rfl, hb⟩

theorem number_num (hT : TrimC) (hA : AtoiC) (hI : ItoaC) (s : ByteArray) (v : Int) (w : World) (hw : Env w) (h : (Lib.trimPrefix s.data.toList [45]).length ≤ 15) (hs : s.size ≤ 18) (hn : Lib.atoi s.data.toList = some v) (hv1 : -9223372036854775808 ≤ v) (hv2 : v ≤ 9223372036854775807) (q : Bool) (hq : (Lib.itoa v == s.toList) = q) : Calls Tryd.prog 34 #[.string s] w fun e w' => e = .returned (.tuple #[.int .i64 (if q = true then v else 0), .bool q]) ∧ Below w.heap.size w w' := by
  have ht := hT s
  have he := fun w => hA s v w hs hn
  have hi := fun w hw => hI v w hv1 hv2 hw
  generalize Lib.trimPrefix s.data.toList [45] = l at ht h
  have h' : (l.length : Int) ≤ 15 := by omega
  clear hT hA hI hn h
  generalize Lib.itoa v = t at hi hq
  cases q
  all_goals
    go_enter Tryd.func34, Tryd.ntmps34
    go_wp2_with fail
    refine (ht _).mono ?_
    rintro e w1 ⟨rfl, rfl⟩
    go_wp2_with fail
    refine (he _).mono ?_
    rintro e w2 ⟨rfl, hb⟩
    have hw2 := hw.later hb
    go_wp2_with fail
    refine (hi _ hw2).mono ?_
    rintro e w3 ⟨rfl, hb3⟩
    have hB := Below.next hb hb3
    go_wp2_with fail
    go_ret2
    exact ⟨rfl, hB⟩

theorem trim_size (s : ByteArray) (h : (Lib.trimPrefix s.data.toList [45]).length ≤ 15) : s.size ≤ 18 := by
  have e : s.size = s.data.toList.length := Lib.size_eq s
  rw [e]
  unfold Lib.trimPrefix at h
  split at h
  · simp only [List.length_drop, List.length_singleton] at h
    omega
  · omega

theorem number_any (s : ByteArray) (w : World) (hw : Env w) : Calls Tryd.prog 34 #[.string s] w fun e w' => e = .returned (.tuple #[.int .i64 ((numP s.data.toList).getD 0), .bool (numP s.data.toList).isSome]) ∧ Below w.heap.size w w' := by
  unfold numP
  by_cases h : (Lib.trimPrefix s.data.toList [45]).length ≤ 15
  · rw [if_pos h]
    have hs := trim_size s h
    cases hn : Lib.atoi s.data.toList with
    | none => exact number_err trimC atoiE s w hw h hs hn
    | some v =>
      have hall := Lib.atoiAll_short s.data.toList (by rw [← Lib.size_eq]; exact hs)
      rw [hn] at hall
      obtain ⟨v1, v2⟩ := Lib.atoiAll_bounds (v := v) (by rw [hall]; rfl)
      by_cases hq : Lib.itoa v = s.data.toList
      · have hc := number_num trimC atoiC itoaC s v w hw h hs hn v1 v2 true (by rw [ByteArray.toList_eq]; simpa using hq)
        simp only [if_pos hq]
        exact hc
      · have hc := number_num trimC atoiC itoaC s v w hw h hs hn v1 v2 false (by rw [ByteArray.toList_eq]; simpa using hq)
        simp only [if_neg hq]
        exact hc
  · rw [if_neg h]
    exact number_long trimC s w h

abbrev Told := Except Int (Int × Int)
def parseP (l : List UInt8) : Told :=
  if l = [45] then .ok (0, 0) else if l = [35] then .ok (2, 0) else
    match numP l with
    | none => .error 2
    | some n => if -1000000000000 ≤ n ∧ n ≤ 1000000000000 then .ok (1, n) else .error 1
def toldV : Told → Value
  | .ok p => .tuple #[.agg #[.int .i64 p.1, .int .i64 p.2], .nilIface]
  | .error c => .tuple #[.agg #[.int .i64 0, .int .i64 0], .iface 42 (.int .i64 c)]

theorem parse_any (s : ByteArray) (w : World) (hw : Env w) : Calls Tryd.prog 18 #[.string s] w fun e w' => e = .returned (toldV (parseP s.data.toList)) ∧ Below w.heap.size w w' := by
  unfold parseP
  by_cases h1 : s.data.toList = [45]
  · rw [if_pos h1]
    have q1 : s.toList = [45] := by rw [ByteArray.toList_eq]; exact h1
    go_enter Tryd.func18, Tryd.ntmps18
    go_wp2_with fail
    refine bodyPost_ret (v := .tuple #[.agg #[.int .i64 0, .int .i64 0], .nilIface]) (by simp [results, Tryd.results18, go_sem]) rfl ⟨rfl, ?_⟩
    go_grown
  · have q1 : (s.toList == [45]) = false := by rw [ByteArray.toList_eq]; simpa using h1
    rw [if_neg h1]
    by_cases h2 : s.data.toList = [35]
    · rw [if_pos h2]
      have q2 : s.toList = [35] := by rw [ByteArray.toList_eq]; exact h2
      clear q1
      go_enter Tryd.func18, Tryd.ntmps18
      go_wp2_with fail
      refine bodyPost_ret (v := .tuple #[.agg #[.int .i64 2, .int .i64 0], .nilIface]) (by simp [results, Tryd.results18, go_sem]) rfl ⟨rfl, ?_⟩
      go_grown
    · have q2 : (s.toList == [35]) = false := by rw [ByteArray.toList_eq]; simpa using h2
      rw [if_neg h2]
      have hn := number_any s
      clear h1 h2
      cases hp : numP s.data.toList with
      | none =>
        rw [hp] at hn
        simp only [Option.getD_none, Option.isSome_none] at hn
        clear hp
        go_enter Tryd.func18, Tryd.ntmps18
        go_wp2_with fail
        refine (hn _ (hw.later (by go_grown))).mono ?_
        rintro e w1 ⟨rfl, hb⟩
        have hB : Below w.heap.size w w1 := Below.trans (by go_grown) (hb.mono (by simp))
        obtain ⟨hc, hf⟩ := bcell hb
        have hz := bsize hb
        simp at hz
        go_wp2
        refine bodyPost_ret (v := .tuple #[.agg #[.int .i64 0, .int .i64 0], .iface 42 (.int .i64 2)]) (by simp [results, Tryd.results18, go_sem, hc]) rfl ⟨rfl, ?_⟩
        go_grown
      | some n =>
        rw [hp] at hn
        simp only [Option.getD_some, Option.isSome_some] at hn
        clear hp
        by_cases hin : -1000000000000 ≤ n ∧ n ≤ 1000000000000
        · simp only [if_pos hin]
          obtain ⟨hi1, hi2⟩ := hin
          go_enter Tryd.func18, Tryd.ntmps18
          go_wp2_with fail
          refine (hn _ (hw.later (by go_grown))).mono ?_
          rintro e w1 ⟨rfl, hb⟩
          have hB : Below w.heap.size w w1 := Below.trans (by go_grown) (hb.mono (by simp))
          obtain ⟨hc, hf⟩ := bcell hb
          have hz := bsize hb
          simp at hz
          go_wp2
          refine bodyPost_ret (v := .tuple #[.agg #[.int .i64 1, .int .i64 n], .nilIface]) (by simp [results, Tryd.results18, go_sem, hc]) rfl ⟨rfl, ?_⟩
          go_grown
        · simp only [if_neg hin]
          by_cases hi1 : -1000000000000 ≤ n
          · have hi2 : decide (n ≤ 1000000000000) = false := by simp; omega
            clear hin
            go_enter Tryd.func18, Tryd.ntmps18
            go_wp2_with fail
            refine (hn _ (hw.later (by go_grown))).mono ?_
            rintro e w1 ⟨rfl, hb⟩
            have hB : Below w.heap.size w w1 := Below.trans (by go_grown) (hb.mono (by simp))
            obtain ⟨hc, hf⟩ := bcell hb
            have hz := bsize hb
            simp at hz
            go_wp2
            refine bodyPost_ret (v := .tuple #[.agg #[.int .i64 0, .int .i64 0], .iface 42 (.int .i64 1)]) (by simp [results, Tryd.results18, go_sem, hc]) rfl ⟨rfl, ?_⟩
            go_grown
          · clear hin
            go_enter Tryd.func18, Tryd.ntmps18
            go_wp2_with fail
            refine (hn _ (hw.later (by go_grown))).mono ?_
            rintro e w1 ⟨rfl, hb⟩
            have hB : Below w.heap.size w w1 := Below.trans (by go_grown) (hb.mono (by simp))
            obtain ⟨hc, hf⟩ := bcell hb
            have hz := bsize hb
            simp at hz
            go_wp2
            refine bodyPost_ret (v := .tuple #[.agg #[.int .i64 0, .int .i64 0], .iface 42 (.int .i64 1)]) (by simp [results, Tryd.results18, go_sem, hc]) rfl ⟨rfl, ?_⟩
            go_grown

def printP (k n : Int) : List UInt8 := if k = 0 then [45] else if k = 2 then [35] else Lib.itoa n

theorem print_no (k n : Int) (w : World) (h : good k n = false) : Calls Tryd.prog 9 #[.agg #[.int .i64 k, .int .i64 n]] w fun e w' => e = .returned (.tuple #[.string ⟨#[]⟩, .iface 42 (.int .i64 1)]) ∧ Below w.heap.size w w' := by
  have hc := check_no h
  clear h
  go_enter Tryd.func9, Tryd.ntmps9
  go_wp2_with fail
  refine (hc _).mono ?_
  rintro e w1 ⟨rfl, hb⟩
  have hB : Below w.heap.size w w1 := Below.trans (by go_grown) (hb.mono (by simp))
  go_wp2_with fail
  go_ret2
  exact ⟨rfl, hB⟩
theorem print_yes (k n : Int) (w : World) (hw : Env w) (h : good k n = true) : Calls Tryd.prog 9 #[.agg #[.int .i64 k, .int .i64 n]] w fun e w' => e = .returned (.tuple #[.string ⟨(printP k n).toArray⟩, .nilIface]) ∧ Below w.heap.size w w' := by
  have hck := check_yes h
  unfold printP
  by_cases h0 : k = 0
  · subst h0
    rw [if_pos rfl]
    go_enter Tryd.func9, Tryd.ntmps9
    go_wp2_with fail
    refine (hck _).mono ?_
    rintro e w1 ⟨rfl, hb⟩
    have hB : Below w.heap.size w w1 := Below.trans (by go_grown) (hb.mono (by simp))
    obtain ⟨hc, hf⟩ := bcell hb
    go_wp2_with fail
    go_ret2
    exact ⟨rfl, hB⟩
  · rw [if_neg h0]
    by_cases h2 : k = 2
    · subst h2
      rw [if_pos rfl]
      go_enter Tryd.func9, Tryd.ntmps9
      go_wp2_with fail
      refine (hck _).mono ?_
      rintro e w1 ⟨rfl, hb⟩
      have hB : Below w.heap.size w w1 := Below.trans (by go_grown) (hb.mono (by simp))
      obtain ⟨hc, hf⟩ := bcell hb
      go_wp2_with fail
      go_ret2
      exact ⟨rfl, hB⟩
    · rw [if_neg h2]
      obtain ⟨b1, b2⟩ := good_bd h
      have hi := fun w hw => itoaC n w (by omega) (by omega) hw
      generalize Lib.itoa n = t at hi ⊢
      have q0 : (k == 0) = false := by simpa using h0
      have q2 : (k == 2) = false := by simpa using h2
      clear h h0 h2
      go_enter Tryd.func9, Tryd.ntmps9
      go_wp2_with fail
      refine (hck _).mono ?_
      rintro e w1 ⟨rfl, hb⟩
      have hB : Below w.heap.size w w1 := Below.trans (by go_grown) (hb.mono (by simp))
      have hw1 := hw.later hB
      obtain ⟨hc, hf⟩ := bcell hb
      go_wp2_with fail
      refine (hi _ hw1).mono ?_
      rintro e w2 ⟨rfl, hb2⟩
      have hB2 := Below.next hB hb2
      go_wp2_with fail
      go_ret2
      exact ⟨rfl, hB2⟩
end Go.Proofs.YtabcpbdgmaeebaaDoor
