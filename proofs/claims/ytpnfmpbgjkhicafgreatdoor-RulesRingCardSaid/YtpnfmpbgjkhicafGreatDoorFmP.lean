/-
  What Print of package formula answers, in whatever memory: of any nodes their text, node by node.
-/
import Derived.Test.YtpnfmpbgjkhicafGreatDoorFmO
import Derived.Lib.ItoaLen
import Derived.Lib.AppendIntMem
import Derived.Deep.QuietTactic
namespace Go.Proofs.YtpnfmpbgjkhicafGreatDoor
open Go.ChangeShapes Go.WideShapes Go.ChangeAt Go.RowKit
set_option maxRecDepth 20000

def noT : ByteArray := ⟨#[]⟩
def sgnT (op : Int) : ByteArray := if op = 3 then ⟨#[43]⟩ else if op = 4 then ⟨#[45]⟩ else if op = 5 then ⟨#[42]⟩ else ⟨#[47]⟩
/-- the text of a node, by those ahead of it -/
def txt (l : List Nd) (T : List ByteArray) (x : Nd) : ByteArray :=
  if x.op = 1 then ⟨(Lib.itoa x.n).toArray⟩ else if x.op = 2 then x.name
  else brk (T.getD x.left.toNat noT) (decide (bindN (l.getD x.left.toNat noN).op < bindN x.op)) ++ sgnT x.op ++ brk (T.getD x.right.toNat noT) (decide (bindN (l.getD x.right.toNat noN).op ≤ bindN x.op))
def textsTo (l : List Nd) : Nat → List ByteArray
  | 0 => List.replicate l.length noT
  | k + 1 => (textsTo l k).set k (txt l (textsTo l k) (l.getD k noN))
def printT (l : List Nd) : ByteArray := if formErr l = 0 then (textsTo l l.length).getD (l.length - 1) noT else noT
theorem texts_len (l : List Nd) : ∀ k, (textsTo l k).length = l.length
  | 0 => by simp [textsTo]
  | k + 1 => by rw [textsTo, List.length_set, texts_len l k]
theorem brk_size (t : ByteArray) (b : Bool) : (brk t b).size ≤ t.size + 2 := by
  unfold brk
  split
  · rw [ByteArray.size_append, ByteArray.size_append]
    show 1 + t.size + 1 ≤ _
    omega
  · omega
theorem sgn_size (op : Int) : (sgnT op).size = 1 := by
  unfold sgnT
  split
  · rfl
  · split
    · rfl
    · split <;> rfl
/-- texts are not too long -/
theorem texts_size {l : List Nd} (hg : ∀ j, j < l.length → ndErr (l.getD j noN) j = 0) : ∀ k, k ≤ l.length → ∀ j, ((textsTo l k).getD j noT).size + 5 ≤ 100 * 2 ^ k
  | 0, _, j => by
    rw [textsTo, List.getD_eq_getElem?_getD, List.getElem?_replicate]
    split
    · show 0 + 5 ≤ 100 * 1; omega
    · show 0 + 5 ≤ 100 * 1; omega
  | k + 1, hk, j => by
    have ih := texts_size hg k (by omega)
    have h0 := ih 0
    have hp : 100 * 2 ^ (k + 1) = 2 * (100 * 2 ^ k) := by rw [Nat.pow_succ]; omega
    have hone : 1 ≤ 2 ^ k := Nat.one_le_two_pow
    rw [textsTo, List.getD_eq_getElem?_getD, List.getElem?_set]
    by_cases e : k = j
    · subst e
      rw [if_pos rfl, if_pos (by rw [texts_len]; omega)]
      simp only [Option.getD_some]
      have hgk := hg k (by omega)
      unfold txt
      split
      · rename_i h1
        have hn : 0 ≤ (l.getD k noN).n ∧ (l.getD k noN).n ≤ 1000000 := by
          unfold ndErr at hgk
          rw [if_neg (by omega), if_pos h1] at hgk
          split at hgk
          · cases hgk
          · omega
        have := Lib.itoa_length_le (l.getD k noN).n (by omega) (by omega)
        have hs : (ByteArray.mk (Lib.itoa (l.getD k noN).n).toArray).size = (Lib.itoa (l.getD k noN).n).length := by simp [ByteArray.size]
        omega
      · split
        · rename_i h1 h2
          have hn : nameErr (l.getD k noN).name = 0 := by
            unfold ndErr at hgk
            rw [if_neg (by omega), if_neg h1, if_pos h2] at hgk
            split at hgk
            · cases hgk
            · rename_i h; simpa using h
          have : (l.getD k noN).name.size ≤ 8 := by
            unfold nameErr at hn
            split at hn
            · cases hn
            · omega
          omega
        · have a1 := brk_size ((textsTo l k).getD (l.getD k noN).left.toNat noT) (decide (bindN (l.getD (l.getD k noN).left.toNat noN).op < bindN (l.getD k noN).op))
          have a2 := brk_size ((textsTo l k).getD (l.getD k noN).right.toNat noT) (decide (bindN (l.getD (l.getD k noN).right.toNat noN).op ≤ bindN (l.getD k noN).op))
          have a3 := ih (l.getD k noN).left.toNat
          have a4 := ih (l.getD k noN).right.toNat
          have a5 := sgn_size (l.getD k noN).op
          rw [ByteArray.size_append, ByteArray.size_append]
          omega
    · rw [if_neg e, ← List.getD_eq_getElem?_getD]
      have := ih j
      omega

theorem bindsS (op : Int) (w : World) : Calls Tryz.prog 67 #[.int .i64 op] w fun e w' => e = .returned (.int .i64 (bindN op)) ∧ w' = w := by
  unfold bindN
  by_cases h3 : op = 3
  · subst h3
    go_enter Tryz.func67, Tryz.ntmps67
    go_wp2
    go_ret
    exact ⟨by simp, rfl⟩
  by_cases h4 : op = 4
  · subst h4
    go_enter Tryz.func67, Tryz.ntmps67
    go_wp2
    go_ret
    exact ⟨by simp, rfl⟩
  by_cases h5 : op = 5
  · subst h5
    go_enter Tryz.func67, Tryz.ntmps67
    go_wp2
    go_ret
    exact ⟨by simp, rfl⟩
  by_cases h6 : op = 6
  · subst h6
    go_enter Tryz.func67, Tryz.ntmps67
    go_wp2
    go_ret
    exact ⟨by simp, rfl⟩
  rw [if_neg (by omega), if_neg (by omega)]
  go_enter Tryz.func67, Tryz.ntmps67
  go_wp2
  go_ret
  exact ⟨rfl, rfl⟩
/-- a row of texts of a call's own -/
def StrB (w : World) (g : Nat) (L : List ByteArray) : Prop := w.heap[g]? = some (.cells (L.map Value.string).toArray 9 (0, 0))
section
variable {w w' : World} {g : Nat} {L : List ByteArray}
theorem StrB.lt (h : StrB w g L) : g < w.heap.size := (Array.getElem?_eq_some_iff.1 h).1
theorem StrB.cell (h : StrB w g L) {j : Nat} (hj : j < L.length) : w.cell? ⟨g, j, none⟩ = some (.string (L.getD j noT)) := by
  unfold StrB at h
  simp [World.cell?, h, List.getD, List.getElem?_eq_getElem hj]
theorem StrB.frozen (h : StrB w g L) (j : Nat) : w.frozen? ⟨g, j, none⟩ = false := by unfold StrB at h; simp [World.frozen?, h]
theorem StrB.later (h : StrB w g L) (hB : Below w.heap.size w w') : StrB w' g L := (hB.block g h.lt).trans h
theorem StrB.set (h : StrB w g L) (j : Nat) (x : ByteArray) : StrB (w.setCell ⟨g, j, none⟩ (.string x)) g (L.set j x) := by
  unfold StrB at *
  rw [setCell_eq_setRow w g j _ _ (0, 0) _ h, setRow_heap w g _ _ _ _ h, List.setIfInBounds_toArray, List.map_set]
theorem StrB.made (w : World) (n : Nat) : StrB (w.alloc (.cells (madeCells #[.string ⟨#[]⟩] n) 9)) w.heap.size (List.replicate n noT) := by
  unfold StrB
  rw [heap_alloc_new]
  have : madeCells #[.string ⟨#[]⟩] n = ((List.replicate n noT).map Value.string).toArray := by
    apply Array.ext
    · simp [madeCells]
    · intro i h1 h2
      simp [madeCells, Nat.mod_one, noT]
  rw [this]
end
theorem Tryz.infoStrF : (Tryz.prog.info? 9).map (fun i => (i.zero, i.size, i.bytes)) = some (some (.string ⟨#[]⟩), 1, 16) := by kernel_rfl

/-- the library's table of powers of ten -/
def TabE (w : World) : Prop := Lib.TabIs Tryz.prog w "internal/strconv.uint64pow10" .u64 Lib.pow10Tab
theorem TabE.later {w w' : World} (h : TabE w) (hb : Below w.heap.size w w') : TabE w' := Lib.tabBelow_of_tabIs h w' hb
theorem itoaF (n : Int) (w : World) (h0 : -9223372036854775808 ≤ n) (h1 : n ≤ 9223372036854775807) (hE : TabE w) : Calls Tryz.prog 134 #[.int .i64 n] w fun e w' => e = .returned (.string ⟨(Lib.itoa n).toArray⟩) ∧ Below w.heap.size w w' :=
  (Any.strconv_Itoa Tryz.laysM171 n h0 h1 w hE).mono fun e w' ⟨he, k, os, hw⟩ => ⟨he, by rw [hw]; exact Lib.below_grow _ _ (Nat.le_refl _) _ _⟩
theorem texts_step {l : List Nd} {k : Nat} {x : Nd} {t : ByteArray} (hx : l.getD k noN = x) (ht : txt l (textsTo l k) x = t) : textsTo l (k + 1) = (textsTo l k).set k t := by rw [textsTo, hx, ht]
theorem txt_num {l : List Nd} {T : List ByteArray} {x : Nd} (h : x.op = 1) : txt l T x = ⟨(Lib.itoa x.n).toArray⟩ := by rw [txt, if_pos h]
theorem txt_ref {l : List Nd} {T : List ByteArray} {x : Nd} (h : x.op = 2) : txt l T x = x.name := by rw [txt, if_neg (by omega), if_pos h]
theorem txt_op {l : List Nd} {T : List ByteArray} {x : Nd} {a c : Nat} (h : 2 < x.op) (ha : x.left = a) (hc : x.right = c) : txt l T x = brk (T.getD a noT) (decide (bindN (l.getD a noN).op < bindN x.op)) ++ sgnT x.op ++ brk (T.getD c noT) (decide (bindN (l.getD c noN).op ≤ bindN x.op)) := by
  rw [txt, if_neg (by omega), if_neg (by omega), ha, hc]
  rfl
theorem enc0 : sgnT 3 = Utf8.encode (((ByteArray.mk #[43, 45, 42, 47])[0]'(by decide)).toNat : Int) := by kernel_rfl
theorem encs0 : (Utf8.encode (((ByteArray.mk #[43, 45, 42, 47])[0]'(by decide)).toNat : Int)).size = 1 := by rw [← enc0]; rfl
theorem enc1 : sgnT 4 = Utf8.encode (((ByteArray.mk #[43, 45, 42, 47])[1]'(by decide)).toNat : Int) := by kernel_rfl
theorem encs1 : (Utf8.encode (((ByteArray.mk #[43, 45, 42, 47])[1]'(by decide)).toNat : Int)).size = 1 := by rw [← enc1]; rfl
theorem enc2 : sgnT 5 = Utf8.encode (((ByteArray.mk #[43, 45, 42, 47])[2]'(by decide)).toNat : Int) := by kernel_rfl
theorem encs2 : (Utf8.encode (((ByteArray.mk #[43, 45, 42, 47])[2]'(by decide)).toNat : Int)).size = 1 := by rw [← enc2]; rfl
theorem enc3 : sgnT 6 = Utf8.encode (((ByteArray.mk #[43, 45, 42, 47])[3]'(by decide)).toNat : Int) := by kernel_rfl
theorem encs3 : (Utf8.encode (((ByteArray.mk #[43, 45, 42, 47])[3]'(by decide)).toNat : Int)).size = 1 := by rw [← enc3]; rfl

theorem take_snoc (l : List Nd) {k : Nat} (hk : k < l.length) : l.take (k + 1) = l.take k ++ [l.getD k noN] := by
  rw [List.take_add_one, List.getElem?_eq_getElem hk]
  simp [List.getD, List.getElem?_eq_getElem hk]
end Go.Proofs.YtpnfmpbgjkhicafGreatDoor
