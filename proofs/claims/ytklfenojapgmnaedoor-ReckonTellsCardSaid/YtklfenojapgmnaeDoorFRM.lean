/-
  What Parse of package formula answers, in whatever memory: of any text its nodes, or what is wrong with it, and where.
  What Print of package formula answers, in whatever memory: of any nodes their text, node by node.
  Formulas as trees, on plain data: their nodes one behind the other, their words; a builder that takes the words of a tree comes to its nodes.
  Reading a text word by word, on plain data: one step at a time it comes to what all of it comes to.
  The text of a tree, on plain data: it is read as its words, and so as its nodes.
  A formula that is right as a tree, on plain data: what Print writes is the text of its tree.
  Written and read again, on plain data: of a formula that is right the text is read as nodes of the same tree, which are right, and written the same.
  What a formula comes to, as a plain function on trees: of each name the cell at its place; swapped, which comes to the same; which names there are.
  What comes of package reckon answers: what a formula that is right comes to, or that one of its names is none.
  What Value of package reckon answers, called in whatever memory.
-/
import Derived.Test.YtklfenojapgmnaeDoorFmN
import Derived.Lib.ItoaLen
import Derived.Lib.AppendIntMem
import Derived.Deep.QuietTactic
import Derived.Test.YtklfenojapgmnaeDoorRk0
import Derived.Test.YtklfenojapgmnaeDoorRk3
import Derived.OwnWalk
namespace Go.Proofs.YtklfenojapgmnaeDoor
open Go.ChangeShapes Go.WideShapes Go.ChangeAt Go.RowKit
set_option maxRecDepth 20000

def tkU : Unit → ByteArray → Unit := fun _ _ => ()
/-- all of a text, read with nobody who takes the words; with a builder -/
def goneU (s : ByteArray) : Rd Unit × Bool := allR s tkU ⟨0, 0, ()⟩
def goneB (s : ByteArray) : Rd Bld × Bool := allR s takeB ⟨0, 0, noB⟩
def nodesP (s : ByteArray) : List Nd := (settleB 0 (goneB s).1.st).nodes
/-- what Parse tells: the error's number, the byte, the nodes -/
def prsE (s : ByteArray) : Int := if 100 < s.size then (if (goneU s).2 = true then 4 else 2) else if (goneB s).2 = true then formErr (nodesP s) else 2
def prsA (s : ByteArray) : Nat := if 100 < s.size then (if (goneU s).2 = true then 0 else (goneU s).1.at') else if (goneB s).2 = true then 0 else (goneB s).1.at'
def prsL (s : ByteArray) : List Nd := if prsE s = 0 then nodesP s else []

theorem nds_of {w : World} {N : Nat} {A : Option Addr} {c : Nat} {l : List Nd} (h : w.ownsRow N 45 5 (.slice A l.length c) l.length (cellsN l)) : NdsV w A c l := by
  rcases h.2 with ⟨h0, h1⟩ | ⟨g, cap, cur, h0, hb, hg, hc, hm, hs, ht⟩
  · simp only [Value.slice.injEq] at h0
    obtain ⟨rfl, -, rfl⟩ := h0
    exact ⟨by omega, by omega, Or.inl (List.eq_nil_of_length_eq_zero h1)⟩
  · cases h0
    refine ⟨hc, by unfold maxLen at hm; omega, Or.inr ⟨g, 0, rfl, (Array.getElem?_eq_some_iff.1 hg).1, fun k hk => ?_⟩⟩
    have hcell : ∀ j u, (cellsN l)[j]? = some u → w.cell? ⟨g, j, none⟩ = some u := fun j u hu => by
      have hx := h.cells (g := g) rfl j u hu
      have hadd : (⟨g, 0, none⟩ : Addr).add j = ⟨g, j, none⟩ := by unfold Addr.add; split <;> simp_all
      rw [hadd] at hx
      exact hx
    obtain ⟨a0, a1, a2, a3, a4⟩ := cellsN_at l k hk
    simp only [Nat.zero_add]
    exact ⟨hcell _ _ a0, hcell _ _ a1, hcell _ _ a2, hcell _ _ a3, hcell _ _ a4⟩

theorem below_of_kept {w w1 w2 : World} {p : Nat} (h : Below w.heap.size w w1) (hk : Kept w1.heap.size (fun k => k = p) w1 w2) (hp : w.heap.size ≤ p) : Below w.heap.size w w2 :=
  ⟨hk.os.trans h.os, hk.tape.trans h.tape, hk.output.trans h.output, Nat.le_trans h.size hk.size, fun k hk' => by
    rw [hk.block k (Nat.lt_of_lt_of_le hk' h.size) (by omega)]
    exact h.block k hk'⟩
theorem fit_new : FitB 0 0 false noB := ⟨rfl, by decide, Nat.le_refl _, Nat.le_refl _, Nat.le_refl _⟩
theorem opens_in {S : Type} {s : ByteArray} {tk : S → ByteArray → S} : ∀ (f : Nat) (r : Rd S), r.at' ≤ s.size → (opensR s tk f r).at' ≤ s.size
  | 0, r, h => h
  | f + 1, r, h => by
    rw [opensR]
    split
    · rename_i h40
      exact opens_in f _ (opn_word (o := 0) h h40).1
    · exact h

theorem closes_in {S : Type} {s : ByteArray} {tk : S → ByteArray → S} : ∀ (f : Nat) (r : Rd S), r.at' ≤ s.size → (closesR s tk f r).at' ≤ s.size
  | 0, r, h => h
  | f + 1, r, h => by
    rw [closesR]
    split
    · rename_i h41
      exact closes_in f _ (cls_word (o := 0) h h41.2).1
    · exact h
theorem operand_in {S : Type} {s : ByteArray} {tk : S → ByteArray → S} (r : Rd S) (h : r.at' ≤ s.size) : (operandR s tk r).1.at' ≤ s.size := by
  have h1 : (openedR s tk r).at' ≤ s.size := opens_in _ r h
  unfold operandR
  split
  · rename_i hd
    exact closes_in _ _ (dig_word (o := 0) h1 hd).1
  · split
    · rename_i hl
      exact closes_in _ _ (let_word (o := 0) h1 hl).1
    · exact h1
theorem loop_in {S : Type} {s : ByteArray} {tk : S → ByteArray → S} : ∀ (f : Nat) (r : Rd S), r.at' ≤ s.size → (loopR s tk f r).1.at' ≤ s.size
  | 0, r, h => h
  | f + 1, r, h => by
    have hsg : (signR s tk r).1.at' ≤ s.size := by
      unfold signR
      split
      · exact h
      · rename_i hs
        exact (sgn_stp (o := 0) h hs).1
    rw [loopR]
    split
    · split
      · split
        · exact loop_in f _ (operand_in _ hsg)
        · exact operand_in _ hsg
      · exact hsg
    · exact h
theorem all_in {S : Type} {s : ByteArray} {tk : S → ByteArray → S} (r : Rd S) (h : r.at' ≤ s.size) : (allR s tk r).1.at' ≤ s.size := by
  unfold allR
  split
  · split
    · exact loop_in _ _ (operand_in _ h)
    · exact loop_in _ _ (operand_in _ h)
  · exact operand_in _ h

end Go.Proofs.YtklfenojapgmnaeDoor

namespace Go.Proofs.YtklfenojapgmnaeDoor
open Go.ChangeShapes Go.WideShapes Go.ChangeAt Go.RowKit
set_option maxRecDepth 20000

def noT : ByteArray := ⟨#[]⟩
def sgnT (op : Int) : ByteArray := if op = 3 then ⟨#[43]⟩ else if op = 4 then ⟨#[45]⟩ else if op = 5 then ⟨#[42]⟩ else ⟨#[47]⟩
/-- the text of a node, by those ahead of it -/
def txt (l : List Nd) (T : List ByteArray) (x : Nd) : ByteArray :=
  if x.op = 1 then ⟨(Lib.itoa x.n).toArray⟩ else if x.op = 2 then x.name
  else brk (T.getD x.left.toNat noT) (decide (bindN (l.getD x.left.toNat noN).op < bindN x.op)) ++ sgnT x.op ++ brk (T.getD x.right.toNat noT) (decide (bindN (l.getD x.right.toNat noN).op ≤ bindN x.op))
def textsTo (l : List Nd) : Nat → List ByteArray
  | 0 => List.replicate l.length noT
  | k + 1 => (textsTo l k).set k (txt l (textsTo l k) (l.getD k noN))
def printT (l : List Nd) : ByteArray := if formErr l = 0 then (textsTo l l.length).getD (l.length - 1) noT else noT
theorem texts_len (l : List Nd) : ∀ k, (textsTo l k).length = l.length
  | 0 => by simp [textsTo]
  | k + 1 => by rw [textsTo, List.length_set, texts_len l k]
theorem brk_size (t : ByteArray) (b : Bool) : (brk t b).size ≤ t.size + 2 := by
  unfold brk
  split
  · rw [ByteArray.size_append, ByteArray.size_append]
    show 1 + t.size + 1 ≤ _
    omega
  · omega
theorem sgn_size (op : Int) : (sgnT op).size = 1 := by
  unfold sgnT
  split
  · rfl
  · split
    · rfl
    · split <;> rfl
/-- texts are not too long -/
theorem texts_size {l : List Nd} (hg : ∀ j, j < l.length → ndErr (l.getD j noN) j = 0) : ∀ k, k ≤ l.length → ∀ j, ((textsTo l k).getD j noT).size + 5 ≤ 100 * 2 ^ k
  | 0, _, j => by
    rw [textsTo, List.getD_eq_getElem?_getD, List.getElem?_replicate]
    split
    · show 0 + 5 ≤ 100 * 1; omega
    · show 0 + 5 ≤ 100 * 1; omega
  | k + 1, hk, j => by
    have ih := texts_size hg k (by omega)
    have h0 := ih 0
    have hp : 100 * 2 ^ (k + 1) = 2 * (100 * 2 ^ k) := by rw [Nat.pow_succ]; omega
    have hone : 1 ≤ 2 ^ k := Nat.one_le_two_pow
    rw [textsTo, List.getD_eq_getElem?_getD, List.getElem?_set]
    by_cases e : k = j
    · subst e
      rw [if_pos rfl, if_pos (by rw [texts_len]; omega)]
      simp only [Option.getD_some]
      have hgk := hg k (by omega)
      unfold txt
      split
      · rename_i h1
        have hn : 0 ≤ (l.getD k noN).n ∧ (l.getD k noN).n ≤ 1000000 := by
          unfold ndErr at hgk
          rw [if_neg (by omega), if_pos h1] at hgk
          split at hgk
          · cases hgk
          · omega
        have := Lib.itoa_length_le (l.getD k noN).n (by omega) (by omega)
        have hs : (ByteArray.mk (Lib.itoa (l.getD k noN).n).toArray).size = (Lib.itoa (l.getD k noN).n).length := by simp [ByteArray.size]
        omega
      · split
        · rename_i h1 h2
          have hn : nameErr (l.getD k noN).name = 0 := by
            unfold ndErr at hgk
            rw [if_neg (by omega), if_neg h1, if_pos h2] at hgk
            split at hgk
            · cases hgk
            · rename_i h; simpa using h
          have : (l.getD k noN).name.size ≤ 8 := by
            unfold nameErr at hn
            split at hn
            · cases hn
            · omega
          omega
        · have a1 := brk_size ((textsTo l k).getD (l.getD k noN).left.toNat noT) (decide (bindN (l.getD (l.getD k noN).left.toNat noN).op < bindN (l.getD k noN).op))
          have a2 := brk_size ((textsTo l k).getD (l.getD k noN).right.toNat noT) (decide (bindN (l.getD (l.getD k noN).right.toNat noN).op ≤ bindN (l.getD k noN).op))
          have a3 := ih (l.getD k noN).left.toNat
          have a4 := ih (l.getD k noN).right.toNat
          have a5 := sgn_size (l.getD k noN).op
          rw [ByteArray.size_append, ByteArray.size_append]
          omega
    · rw [if_neg e, ← List.getD_eq_getElem?_getD]
      have := ih j
      omega

theorem bindsS (op : Int) (w : World) : Calls Tryd.prog 34 #[.int .i64 op] w fun e w' => e = .returned (.int .i64 (bindN op)) ∧ w' = w := by
  unfold bindN
  by_cases h3 : op = 3
  · subst h3
    go_enter Tryd.func34, Tryd.ntmps34
    go_wp2
    go_ret
    exact ⟨by simp, rfl⟩
  by_cases h4 : op = 4
  · subst h4
    go_enter Tryd.func34, Tryd.ntmps34
    go_wp2
    go_ret
    exact ⟨by simp, rfl⟩
  by_cases h5 : op = 5
  · subst h5
    go_enter Tryd.func34, Tryd.ntmps34
    go_wp2
    go_ret
    exact ⟨by simp, rfl⟩
  by_cases h6 : op = 6
  · subst h6
    go_enter Tryd.func34, Tryd.ntmps34
    go_wp2
    go_ret
    exact ⟨by simp, rfl⟩
  rw [if_neg (by omega), if_neg (by omega)]
  go_enter Tryd.func34, Tryd.ntmps34
  go_wp2
  go_ret
  exact ⟨rfl, rfl⟩
theorem brkS (t : ByteArray) (b : Bool) (ht : t.size ≤ 4611686018427387904) (w : World) : Calls Tryd.prog 33 #[.string t, .bool b] w fun e w' => e = .returned (.string (brk t b)) ∧ w' = w := by
  have h1 : ¬ 9223372036854775807 < 1 + t.size := by omega
  have h2 : ¬ 9223372036854775807 < 1 + t.size + 1 := by omega
  cases b
  · go_enter Tryd.func33, Tryd.ntmps33
    go_wp2
    go_ret
    exact ⟨rfl, rfl⟩
  · go_enter Tryd.func33, Tryd.ntmps33
    go_wp2
    go_ret
    exact ⟨rfl, rfl⟩

/-- a row of texts of a call's own -/
def StrB (w : World) (g : Nat) (L : List ByteArray) : Prop := w.heap[g]? = some (.cells (L.map Value.string).toArray 9 (0, 0))
section
variable {w w' : World} {g : Nat} {L : List ByteArray}
theorem StrB.lt (h : StrB w g L) : g < w.heap.size := (Array.getElem?_eq_some_iff.1 h).1
theorem StrB.cell (h : StrB w g L) {j : Nat} (hj : j < L.length) : w.cell? ⟨g, j, none⟩ = some (.string (L.getD j noT)) := by
  unfold StrB at h
  simp [World.cell?, h, List.getD, List.getElem?_eq_getElem hj]
theorem StrB.frozen (h : StrB w g L) (j : Nat) : w.frozen? ⟨g, j, none⟩ = false := by unfold StrB at h; simp [World.frozen?, h]
theorem StrB.later (h : StrB w g L) (hB : Below w.heap.size w w') : StrB w' g L := (hB.block g h.lt).trans h
theorem StrB.set (h : StrB w g L) (j : Nat) (x : ByteArray) : StrB (w.setCell ⟨g, j, none⟩ (.string x)) g (L.set j x) := by
  unfold StrB at *
  rw [setCell_eq_setRow w g j _ _ (0, 0) _ h, setRow_heap w g _ _ _ _ h, List.setIfInBounds_toArray, List.map_set]
theorem StrB.made (w : World) (n : Nat) : StrB (w.alloc (.cells (madeCells #[.string ⟨#[]⟩] n) 9)) w.heap.size (List.replicate n noT) := by
  unfold StrB
  rw [heap_alloc_new]
  have : madeCells #[.string ⟨#[]⟩] n = ((List.replicate n noT).map Value.string).toArray := by
    apply Array.ext
    · simp [madeCells]
    · intro i h1 h2
      simp [madeCells, Nat.mod_one, noT]
  rw [this]
end
theorem Tryd.infoStrF : (Tryd.prog.info? 9).map (fun i => (i.zero, i.size, i.bytes)) = some (some (.string ⟨#[]⟩), 1, 16) := by kernel_rfl

/-- the library's table of powers of ten -/
def TabE (w : World) : Prop := Lib.TabIs Tryd.prog w "internal/strconv.uint64pow10" .u64 Lib.pow10Tab
theorem TabE.later {w w' : World} (h : TabE w) (hb : Below w.heap.size w w') : TabE w' := Lib.tabBelow_of_tabIs h w' hb
theorem itoaF (n : Int) (w : World) (h0 : -9223372036854775808 ≤ n) (h1 : n ≤ 9223372036854775807) (hE : TabE w) : Calls Tryd.prog 31 #[.int .i64 n] w fun e w' => e = .returned (.string ⟨(Lib.itoa n).toArray⟩) ∧ Below w.heap.size w w' :=
  (Any.strconv_Itoa Tryd.laysM171 n h0 h1 w hE).mono fun e w' ⟨he, k, os, hw⟩ => ⟨he, by rw [hw]; exact Lib.below_grow _ _ (Nat.le_refl _) _ _⟩
theorem texts_step {l : List Nd} {k : Nat} {x : Nd} {t : ByteArray} (hx : l.getD k noN = x) (ht : txt l (textsTo l k) x = t) : textsTo l (k + 1) = (textsTo l k).set k t := by rw [textsTo, hx, ht]
theorem txt_num {l : List Nd} {T : List ByteArray} {x : Nd} (h : x.op = 1) : txt l T x = ⟨(Lib.itoa x.n).toArray⟩ := by rw [txt, if_pos h]
theorem txt_ref {l : List Nd} {T : List ByteArray} {x : Nd} (h : x.op = 2) : txt l T x = x.name := by rw [txt, if_neg (by omega), if_pos h]
theorem txt_op {l : List Nd} {T : List ByteArray} {x : Nd} {a c : Nat} (h : 2 < x.op) (ha : x.left = a) (hc : x.right = c) : txt l T x = brk (T.getD a noT) (decide (bindN (l.getD a noN).op < bindN x.op)) ++ sgnT x.op ++ brk (T.getD c noT) (decide (bindN (l.getD c noN).op ≤ bindN x.op)) := by
  rw [txt, if_neg (by omega), if_neg (by omega), ha, hc]
  rfl
theorem enc0 : sgnT 3 = Utf8.encode (((ByteArray.mk #[43, 45, 42, 47])[0]'(by decide)).toNat : Int) := by kernel_rfl
theorem encs0 : (Utf8.encode (((ByteArray.mk #[43, 45, 42, 47])[0]'(by decide)).toNat : Int)).size = 1 := by rw [← enc0]; rfl
theorem enc1 : sgnT 4 = Utf8.encode (((ByteArray.mk #[43, 45, 42, 47])[1]'(by decide)).toNat : Int) := by kernel_rfl
theorem encs1 : (Utf8.encode (((ByteArray.mk #[43, 45, 42, 47])[1]'(by decide)).toNat : Int)).size = 1 := by rw [← enc1]; rfl
theorem enc2 : sgnT 5 = Utf8.encode (((ByteArray.mk #[43, 45, 42, 47])[2]'(by decide)).toNat : Int) := by kernel_rfl
theorem encs2 : (Utf8.encode (((ByteArray.mk #[43, 45, 42, 47])[2]'(by decide)).toNat : Int)).size = 1 := by rw [← enc2]; rfl
theorem enc3 : sgnT 6 = Utf8.encode (((ByteArray.mk #[43, 45, 42, 47])[3]'(by decide)).toNat : Int) := by kernel_rfl
theorem encs3 : (Utf8.encode (((ByteArray.mk #[43, 45, 42, 47])[3]'(by decide)).toNat : Int)).size = 1 := by rw [← enc3]; rfl

set_option maxRecDepth 100000 in
set_option maxHeartbeats 4000000 in
theorem fprint_any (A : Option Addr) (cap : Nat) (l : List Nd) (w : World) (hE : TabE w) (hN : NdsV w A cap l) : Calls Tryd.prog 16 #[.slice A l.length cap] w fun e w' => e = .returned (.tuple #[.string (printT l), errV (formErr l)]) ∧ Below w.heap.size w w' := by
  have hck := fchk_any A cap l w hN
  by_cases h0 : formErr l = 0
  case neg =>
    have hP : printT l = ⟨#[]⟩ := by unfold printT; rw [if_neg h0]; rfl
    rw [hP]
    rw [errV_some h0] at hck ⊢
    clear h0 hP
    go_enter Tryd.func16, Tryd.ntmps16
    go_wp2_with fail
    refine hck.mono ?_
    rintro e w1 ⟨rfl, hb1⟩
    go_wp2_with fail
    go_returns
    exact ⟨rfl, hb1⟩
  obtain ⟨hl0, hl30, hg, -⟩ := form_right h0
  have hP : printT l = (textsTo l l.length).getD (l.length - 1) noT := by unfold printT; rw [if_pos h0]
  rw [h0, errV_zero] at hck ⊢
  rw [hP]
  obtain ⟨-, -, h1 | ⟨b, o, rfl, hN⟩⟩ := hN
  · rw [h1] at hl0; simp at hl0
  have HG : Hid (∀ j, j < l.length → ndErr (l.getD j noN) j = 0) := hg
  have HN : Hid (NdsAt w b o l) := hN
  have HE : Hid (TabE w) := hE
  have hmk := run_make_row' (P := Tryd.prog) 23 9 (.string ⟨#[]⟩) 16 Tryd.underlying23 Tryd.infoStrF rfl .i64 .i64 l.length (by omega) (by omega)
  obtain ⟨n, hn⟩ : ∃ n, l.length = n := ⟨_, rfl⟩
  have HL : Hid (l.length = n) := hn
  rw [hn] at hmk hck ⊢
  have hni : (n : Int) ≤ 30 := by omega
  have hn0 : 0 < (n : Int) := by omega
  clear h0 hP hg hN hE
  go_enter Tryd.func16, Tryd.ntmps16
  go_wp2_with fail
  refine hck.mono ?_
  rintro e w1 ⟨rfl, hb1⟩
  have HB1 : Hid (Below w.heap.size w w1) := hb1
  clear hb1 hck
  go_wp2_with fail
  go_loopg [20] n (fun g s20 wr => ∃ (k : Nat), k ≤ n ∧ g = n - k ∧ s20 = .int .i64 k ∧ StrB wr w1.heap.size (textsTo l k) ∧ Below w1.heap.size w1 wr)
  case atStart => exact ⟨0, Nat.zero_le _, rfl, rfl, by rw [textsTo, HL.out]; exact StrB.made w1 n, by go_grown⟩
  case round =>
    obtain ⟨k, hk, rfl, rfl, hS, hBw⟩ := hrel
    have HS : Hid (StrB wr w1.heap.size (textsTo l k)) := hS
    have HW : Hid (Below w1.heap.size w1 wr) := hBw
    clear hS hBw
    by_cases hlt : k < n
    · have hki : (k : Int) < (n : Int) := by omega
      have HBw : Hid (Below w.heap.size w wr) := onB HB1.out HW.out
      obtain ⟨x0, x1, x2, x3, x4⟩ := (HN.out.later HBw.out).nd (k := k) (by omega)
      have hbl : b < w.heap.size := HN.out.1
      have hsz := HBw.out.size
      have hsz1 := HB1.out.size
      have hgl := HS.out.lt
      have hgk := HG.out k (by omega)
      obtain ⟨x, hx⟩ : ∃ x, l.getD k noN = x := ⟨_, rfl⟩
      have HX : Hid (l.getD k noN = x) := hx
      rw [hx] at x0 x1 x2 x3 x4 hgk
      clear hx
      have hlen : (textsTo l k).length = n := by rw [texts_len]; exact hn
      by_cases h1 : x.op = 1
      · have HT := hid_of (texts_step HX.out (txt_num (l := l) (T := textsTo l k) h1))
        have hnr : 0 ≤ x.n ∧ x.n ≤ 1000000 := by
          unfold ndErr at hgk
          rw [if_neg (by omega), if_pos h1] at hgk
          split at hgk
          · cases hgk
          · omega
        have hIt := fun w' hE => itoaF x.n w' (by omega) (by omega) hE
        rw [h1] at x0
        clear hgk
        go_wp2_with fail
        refine (hIt _ (HE.out.later (onB HBw.out (by go_grown)))).mono ?_
        rintro e w2 ⟨rfl, hb2⟩
        have HB2 : Hid (Below wr.heap.size wr w2) := onB (by go_grown) hb2
        have y1 := (HS.out.later HB2.out).cell (j := k) (by omega)
        have y2 := (HS.out.later HB2.out).frozen k
        clear hb2 hIt
        go_wp2_with fail
        go_roundg (n - (k + 1))
        case measure => omega
        case rel => exact ⟨k + 1, by omega, rfl, by go_num, by rw [HT.out]; exact (HS.out.later HB2.out).set k _, (onB HW.out HB2.out).setCell (Nat.le_refl _) _⟩
      by_cases h2 : x.op = 2
      · have HT := hid_of (texts_step HX.out (txt_ref (l := l) (T := textsTo l k) h2))
        have hnm : nameErr x.name = 0 := by
          unfold ndErr at hgk
          rw [if_neg (by omega), if_neg h1, if_pos h2] at hgk
          split at hgk
          · cases hgk
          · rename_i h; simpa using h
        have hns : x.name.size ≤ 8 := by
          unfold nameErr at hnm
          split at hnm
          · cases hnm
          · omega
        have hcl := fun w => sclone_any x.name w (by omega)
        rw [h2] at x0
        clear hgk hnm
        go_wp2_with fail
        refine (hcl _).mono ?_
        rintro e w2 ⟨rfl, hb2⟩
        have HB2 : Hid (Below wr.heap.size wr w2) := onB (by go_grown) hb2
        have y1 := (HS.out.later HB2.out).cell (j := k) (by omega)
        have y2 := (HS.out.later HB2.out).frozen k
        clear hb2 hcl
        go_wp2_with fail
        go_roundg (n - (k + 1))
        case measure => omega
        case rel => exact ⟨k + 1, by omega, rfl, by go_num, by rw [HT.out]; exact (HS.out.later HB2.out).set k _, (onB HW.out HB2.out).setCell (Nat.le_refl _) _⟩
      · have hop : 3 ≤ x.op ∧ x.op ≤ 6 := by
          unfold ndErr at hgk
          split at hgk
          · cases hgk
          · omega
        obtain ⟨l0, l1, r0, r1⟩ := nd_sides hgk (by omega)
        obtain ⟨a, ha⟩ : ∃ a : Nat, x.left = a := ⟨x.left.toNat, by omega⟩
        obtain ⟨c, hc⟩ : ∃ c : Nat, x.right = c := ⟨x.right.toNat, by omega⟩
        have hal : a < n := by omega
        have hcl : c < n := by omega
        have HT := hid_of (texts_step HX.out (txt_op (l := l) (T := textsTo l k) (a := a) (c := c) (by omega) ha hc))
        obtain ⟨W, hW⟩ : ∃ W, wr.alloc (.cells #[.int .i64 x.op, .int .i64 x.n, .string x.name, .int .i64 x.left, .int .i64 x.right] 45) = W := ⟨_, rfl⟩
        have hBW : Below wr.heap.size wr W := by rw [← hW]; exact (Below.refl _ _).alloc (Nat.le_refl _) _
        have HBW : Hid (Below wr.heap.size wr W) := hBW
        have hbox : W.heap[wr.heap.size]? = some (.cells #[.int .i64 x.op, .int .i64 x.n, .string x.name, .int .i64 x.left, .int .i64 x.right] 45 (0, 0)) := by rw [← hW]; exact heap_alloc_new _ _
        have z0 : W.cell? ⟨wr.heap.size, 0, none⟩ = some (.int .i64 x.op) := by simp [World.cell?, hbox]
        have z3 : W.cell? ⟨wr.heap.size, 3, none⟩ = some (.int .i64 a) := by simp [World.cell?, hbox, ha]
        have z4 : W.cell? ⟨wr.heap.size, 4, none⟩ = some (.int .i64 c) := by simp [World.cell?, hbox, hc]
        have HSW : Hid (StrB W w1.heap.size (textsTo l k)) := HS.out.later hBW
        have ta := HSW.out.cell (j := a) (by omega)
        have tc := HSW.out.cell (j := c) (by omega)
        have hHN := HN.out.later (onB HBw.out hBW)
        obtain ⟨q1, -⟩ := hHN.nd (k := a) (by omega)
        obtain ⟨q2, -⟩ := hHN.nd (k := c) (by omega)
        have sa := texts_size HG.out k (by omega) a
        have sc := texts_size HG.out k (by omega) c
        have h2k : 100 * 2 ^ k ≤ 100 * 2 ^ 30 := Nat.mul_le_mul_left _ (Nat.pow_le_pow_right (by omega) (by omega))
        have h230 : (100 * 2 ^ 30 : Nat) = 107374182400 := by decide
        obtain ⟨tA, htA⟩ : ∃ t, (textsTo l k).getD a noT = t := ⟨_, rfl⟩
        obtain ⟨tC, htC⟩ : ∃ t, (textsTo l k).getD c noT = t := ⟨_, rfl⟩
        obtain ⟨oA, hoA⟩ : ∃ t, (l.getD a noN).op = t := ⟨_, rfl⟩
        obtain ⟨oC, hoC⟩ : ∃ t, (l.getD c noN).op = t := ⟨_, rfl⟩
        rw [htA] at ta sa HT
        rw [htC] at tc sc HT
        rw [hoA] at q1 HT
        rw [hoC] at q2 HT
        have hbA := fun b w => brkS tA b (by omega) w
        have hbC := fun b w => brkS tC b (by omega) w
        have uA := brk_size tA (decide (bindN oA < bindN x.op))
        have uC := brk_size tC (decide (bindN oC ≤ bindN x.op))
        have hai : (a : Int) < (n : Int) := by omega
        have hci : (c : Int) < (n : Int) := by omega
        have y1 := HSW.out.cell (j := k) (by omega)
        have y2 := HSW.out.frozen k
        have hgW : w1.heap.size < W.heap.size := HSW.out.lt
        have hbW : b < W.heap.size := hHN.1
        have hzW : wr.heap.size < W.heap.size := (Array.getElem?_eq_some_iff.1 hbox).1
        have sA' : tA.size ≤ 200000000000 := by omega
        have sC' : tC.size ≤ 200000000000 := by omega
        obtain ⟨ov, hov⟩ : ∃ ov, x.op = ov := ⟨_, rfl⟩
        rw [hov] at hW x0 z0 HT uA uC hop h1 h2
        rw [ha, hc] at hW
        have hs1 : ¬ 9223372036854775807 < (brk tA (decide (bindN oA < bindN ov))).size + 1 := by omega
        have hs2 : ¬ 9223372036854775807 < (brk tA (decide (bindN oA < bindN ov))).size + 1 + (brk tC (decide (bindN oC ≤ bindN ov))).size := by omega
        have e1 : (ov == 1) = false := by simpa using h1
        have e2 : (ov == 2) = false := by simpa using h2
        clear hbox hHN htA htC hoA hoC l0 l1 r0 r1 hgk hBW h2k h230 sa sc hov h1 h2
        go_wp2_with fail
        go_quiet (first
          | (go_at_call 34; exact Calls.quiet_of_same (bindsS _ _))
          | (go_at_call 33; exact Calls.quiet_of_same (hbA _ _)))
        obtain ⟨W1, hW1⟩ : ∃ W1, W.drewN nq = W1 := ⟨_, rfl⟩
        have hb1 : Below W.heap.size W W1 := by rw [← hW1]; exact below_drewN (Below.refl _ _) _
        have z0' := (hb1.cell (p := ⟨wr.heap.size, 0, none⟩) hzW).trans z0
        have z4' := (hb1.cell (p := ⟨wr.heap.size, 4, none⟩) hzW).trans z4
        have tc' := (hb1.cell (p := ⟨w1.heap.size, c, none⟩) hgW).trans tc
        have q2' := (hb1.cell (p := ⟨b, o + c * 5, none⟩) hbW).trans q2
        have HS1 : Hid (StrB W1 w1.heap.size (textsTo l k)) := HSW.out.later hb1
        have HB1w : Hid (Below w1.heap.size w1 W1) := onB HW.out (onB HBW.out hb1)
        have hzW1 : wr.heap.size < W1.heap.size := Nat.lt_of_lt_of_le hzW hb1.size
        rw [hW1]
        clear hb1 hW1 z0 z3 z4 ta tc q1 q2 y1 y2 hW
        go_wp2_with fail
        go_quiet (first
          | (go_at_call 34; exact Calls.quiet_of_same (bindsS _ _))
          | (go_at_call 33; exact Calls.quiet_of_same (hbC _ _)))
        obtain ⟨W2, hW2⟩ : ∃ W2, W1.drewN nq = W2 := ⟨_, rfl⟩
        have hb2 : Below W1.heap.size W1 W2 := by rw [← hW2]; exact below_drewN (Below.refl _ _) _
        have v0 := (hb2.cell (p := ⟨wr.heap.size, 0, none⟩) hzW1).trans z0'
        have HSq : Hid (StrB W2 w1.heap.size (textsTo l k)) := HS1.out.later hb2
        have HBq : Hid (Below w1.heap.size w1 W2) := onB HB1w.out hb2
        have y1 := HSq.out.cell (j := k) (by omega)
        have y2 := HSq.out.frozen k
        rw [hW2]
        clear hb2 hW2 z0' z4' tc' q2' hbA hbC
        have hovc : ov = 3 ∨ ov = 4 ∨ ov = 5 ∨ ov = 6 := by omega
        clear hs1 hs2
        rcases hovc with rfl | rfl | rfl | rfl
        all_goals
          have es0 := encs0
          have es1 := encs1
          have es2 := encs2
          have es3 := encs3
          go_wp2_with fail
          go_roundg (n - (k + 1))
          case measure => omega
          case rel => exact ⟨k + 1, by omega, rfl, by go_num, by rw [HT.out]; first | (rw [enc0]; exact HSq.out.set k _) | (rw [enc1]; exact HSq.out.set k _) | (rw [enc2]; exact HSq.out.set k _) | (rw [enc3]; exact HSq.out.set k _), HBq.out.setCell (Nat.le_refl _) _⟩
    · have hke : k = n := by omega
      subst hke
      have y1 := HS.out.cell (j := k - 1) (by rw [texts_len, HL.out]; omega)
      have hsub : (k : Int) - 1 = ((k - 1 : Nat) : Int) := by omega
      obtain ⟨t, ht⟩ : ∃ t, (textsTo l k).getD (k - 1) noT = t := ⟨_, rfl⟩
      have HT : Hid ((textsTo l k).getD (k - 1) noT = t) := ht
      rw [ht] at y1
      obtain ⟨m, hm⟩ : ∃ m, k - 1 = m := ⟨_, rfl⟩
      rw [hm] at y1 hsub
      have hmk : (m : Int) < (k : Int) := by omega
      clear ht
      go_wp2_with fail
      go_returns
      exact ⟨by rw [HT.out]; rfl, onB HB1.out HW.out⟩
theorem take_snoc (l : List Nd) {k : Nat} (hk : k < l.length) : l.take (k + 1) = l.take k ++ [l.getD k noN] := by
  rw [List.take_add_one, List.getElem?_eq_getElem hk]
  simp [List.getD, List.getElem?_eq_getElem hk]
end Go.Proofs.YtklfenojapgmnaeDoor

namespace Go.Proofs.YtklfenojapgmnaeDoor

inductive Tre where
  | num (n : Int)
  | ref (s : ByteArray)
  | bin (o : Int) (a b : Tre)
def bindT : Tre → Int
  | .num _ => 3
  | .ref _ => 3
  | .bin o _ _ => bindN o
def sizT : Tre → Nat
  | .num _ => 1
  | .ref _ => 1
  | .bin _ a b => sizT a + sizT b + 1
theorem siz_pos : ∀ t : Tre, 1 ≤ sizT t
  | .num _ => Nat.le_refl _
  | .ref _ => Nat.le_refl _
  | .bin _ a b => by show 1 ≤ sizT a + sizT b + 1; omega
/-- the nodes of a tree, the first of them at a place -/
def post : Tre → Nat → List Nd
  | .num n, _ => [⟨1, n, noT, 0, 0⟩]
  | .ref s, _ => [⟨2, 0, s, 0, 0⟩]
  | .bin o a b, k => post a k ++ post b (k + sizT a) ++ [⟨o, 0, noT, ((k + sizT a - 1 : Nat) : Int), ((k + sizT a + sizT b - 1 : Nat) : Int)⟩]
theorem post_len : ∀ (t : Tre) (k : Nat), (post t k).length = sizT t
  | .num _, _ => rfl
  | .ref _, _ => rfl
  | .bin o a b, k => by simp [post, sizT, post_len a, post_len b]; omega
def numB (n : Int) : ByteArray := ⟨(Lib.itoa n).toArray⟩
def okT : Tre → Prop
  | .num n => 0 ≤ n ∧ n ≤ 1000000
  | .ref s => nameErr s = 0
  | .bin o a b => (3 ≤ o ∧ o ≤ 6) ∧ okT a ∧ okT b
def brkL (l : List ByteArray) (c : Bool) : List ByteArray := if c then [⟨#[40]⟩] ++ l ++ [⟨#[41]⟩] else l
/-- the words of a tree -/
def tokT : Tre → List ByteArray
  | .num n => [numB n]
  | .ref s => [s]
  | .bin o a b => brkL (tokT a) (decide (bindT a < bindN o)) ++ [sgnT o] ++ brkL (tokT b) (decide (bindT b ≤ bindN o))
/-- a tree behind what there is -/
def pushT (t : Tre) (b : Bld) : Bld := ⟨b.nodes ++ post t b.nodes.length, b.ready ++ [((b.nodes.length + sizT t - 1 : Nat) : Int)], b.waiting⟩
/-- nothing that waits binds as much -/
def Low (b : Bld) (k : Int) : Prop := b.waiting = [] ∨ ∃ w x, b.waiting = w ++ [x] ∧ (x = 0 ∨ bindN x < k)
theorem Low.up {b : Bld} {k m : Int} (h : Low b k) (hm : k ≤ m) : Low b m := by
  rcases h with h | ⟨w, x, h, h0 | h0⟩
  · exact Or.inl h
  · exact Or.inr ⟨w, x, h, Or.inl h0⟩
  · exact Or.inr ⟨w, x, h, Or.inr (by omega)⟩
theorem settle_low {b : Bld} {k : Int} (h : Low b k) : settleB k b = b := by
  unfold settleB
  rcases h with h | ⟨w, x, h, h0⟩
  · rw [h]; rfl
  · rw [h, List.length_append, List.length_singleton]
    have e : b.waiting.getD w.length 0 = x := by rw [h]; simp [List.getD]
    exact settle_stop (by rw [e]; exact h0)
/-- what waits last is settled -/
theorem settle_pop {n : List Nd} {r w : List Int} {o least : Int} (h0 : o ≠ 0) (h : least ≤ bindN o) : settleB least ⟨n, r, w ++ [o]⟩ = settleB least (joinBd o ⟨n, r, w⟩) := by
  unfold settleB
  have e1 : (w ++ [o]).length = w.length + 1 := by simp
  have e2 : (w ++ [o]).getD w.length 0 = o := by simp [List.getD]
  have e3 : (w ++ [o]).take w.length = w := by simp
  show settleTo least (w ++ [o]).length _ = _
  rw [e1, settle_on (by show ¬ ((w ++ [o]).getD w.length 0 = 0 ∨ bindN ((w ++ [o]).getD w.length 0) < least); rw [e2]; omega)]
  show settleTo least w.length (joinBd ((w ++ [o]).getD w.length 0) ⟨n, r, (w ++ [o]).take w.length⟩) = settleTo least (joinBd o ⟨n, r, w⟩).waiting.length _
  rw [e2, e3]
  rfl
theorem join_push (o : Int) (a c : Tre) (b : Bld) (w : List Int) : joinBd o ⟨(pushT c ⟨(pushT a b).nodes, (pushT a b).ready, w⟩).nodes, (pushT c ⟨(pushT a b).nodes, (pushT a b).ready, w⟩).ready, b.waiting⟩ = pushT (.bin o a c) b := by
  have l1 : (b.nodes ++ post a b.nodes.length).length = b.nodes.length + sizT a := by simp [post_len]
  have pa := siz_pos a
  have pc := siz_pos c
  unfold joinBd pushT addB
  simp only [post, sizT, l1, List.length_append, List.length_singleton, post_len]
  have e1 : b.ready.length + 1 + 1 - 2 = b.ready.length := by omega
  rw [e1]
  have g1 : (b.ready ++ [((b.nodes.length + sizT a - 1 : Nat) : Int)] ++ [((b.nodes.length + sizT a + sizT c - 1 : Nat) : Int)]).getD b.ready.length 0 = ((b.nodes.length + sizT a - 1 : Nat) : Int) := by simp [List.getD]
  have g2 : (b.ready ++ [((b.nodes.length + sizT a - 1 : Nat) : Int)] ++ [((b.nodes.length + sizT a + sizT c - 1 : Nat) : Int)]).getD (b.ready.length + 1) 0 = ((b.nodes.length + sizT a + sizT c - 1 : Nat) : Int) := by simp [List.getD]
  have g3 : (b.ready ++ [((b.nodes.length + sizT a - 1 : Nat) : Int)] ++ [((b.nodes.length + sizT a + sizT c - 1 : Nat) : Int)]).take b.ready.length = b.ready := by simp
  rw [g1, g2, g3]
  congr 1
  · simp [noT]
  · congr 2
    omega

theorem take_open (b : Bld) : takeB b ⟨#[40]⟩ = ⟨b.nodes, b.ready, b.waiting ++ [0]⟩ := by
  rw [takeB, if_pos (by decide)]
theorem take_close (b : Bld) : takeB b ⟨#[41]⟩ = ⟨(settleB 0 b).nodes, (settleB 0 b).ready, (settleB 0 b).waiting.take ((settleB 0 b).waiting.length - 1)⟩ := by
  rw [takeB, if_neg (by decide), if_pos (by decide)]
theorem take_sign (b : Bld) {o : Int} (h : 3 ≤ o ∧ o ≤ 6) : takeB b (sgnT o) = ⟨(settleB (bindN o) b).nodes, (settleB (bindN o) b).ready, (settleB (bindN o) b).waiting ++ [o]⟩ := by
  have hc : o = 3 ∨ o = 4 ∨ o = 5 ∨ o = 6 := by omega
  rcases hc with rfl | rfl | rfl | rfl
  · rw [takeB, if_neg (by decide), if_neg (by decide), if_pos (by decide)]; rfl
  · rw [takeB, if_neg (by decide), if_neg (by decide), if_pos (by decide)]; rfl
  · rw [takeB, if_neg (by decide), if_neg (by decide), if_pos (by decide)]; rfl
  · rw [takeB, if_neg (by decide), if_neg (by decide), if_pos (by decide)]; rfl
theorem low_open (n : List Nd) (r w : List Int) (k : Int) : Low ⟨n, r, w ++ [0]⟩ k := Or.inr ⟨w, 0, rfl, Or.inl rfl⟩
theorem low_push {b : Bld} {k : Int} (t : Tre) (h : Low b k) : Low (pushT t b) k := h
/-- the words of a tree in brackets -/
theorem take_brk {l : List ByteArray} {t : Tre} {b : Bld} (ih : settleB 0 (l.foldl takeB ⟨b.nodes, b.ready, b.waiting ++ [0]⟩) = settleB 0 (pushT t ⟨b.nodes, b.ready, b.waiting ++ [0]⟩)) : (brkL l true).foldl takeB b = pushT t b := by
  show ([ByteArray.mk #[40]] ++ l ++ [ByteArray.mk #[41]]).foldl takeB b = _
  rw [List.foldl_append, List.foldl_append]
  show takeB (l.foldl takeB (takeB b ⟨#[40]⟩)) ⟨#[41]⟩ = _
  rw [take_open, take_close, ih, settle_low (low_push t (low_open _ _ _ _))]
  simp [pushT]

theorem first_byte (l : List UInt8) (x : UInt8) : byteN ⟨(x :: l).toArray⟩ 0 = (x.toNat : Int) := by simp [byteN, List.getD]
theorem num_digits (n : Int) (h0 : 0 ≤ n) : ∃ d r, Lib.itoa n = UInt8.ofNat (48 + d) :: r ∧ d < 10 := by
  obtain ⟨u, rfl⟩ : ∃ u : Nat, n = u := ⟨n.toNat, by omega⟩
  obtain ⟨d, r, h, hd, -, -⟩ := head_decDigits u
  exact ⟨d, r, by rw [Lib.itoa_nonneg]; exact h, hd⟩
theorem num_all (u : Nat) : ∀ b ∈ Lib.decDigits u, 48 ≤ b.toNat ∧ b.toNat ≤ 57 := by
  induction u using Nat.strongRecOn with
  | _ u ih =>
    intro b hb
    by_cases h : u < 10
    · rw [Lib.decDigits_one h, List.mem_singleton] at hb
      subst hb
      have e : (UInt8.ofNat (48 + u)).toNat = 48 + u := by simp; omega
      omega
    · rw [Lib.decDigits, dif_neg h, List.mem_append, List.mem_singleton] at hb
      rcases hb with hb | hb
      · exact ih (u / 10) (by omega) b hb
      · subst hb
        have e : (UInt8.ofNat (48 + u % 10)).toNat = 48 + u % 10 := by simp; omega
        omega
theorem numW_B (n : Int) (h0 : 0 ≤ n) : numW (numB n) = n := by
  obtain ⟨u, rfl⟩ : ∃ u : Nat, n = u := ⟨n.toNat, by omega⟩
  unfold numW numB
  rw [Lib.itoa_nonneg]
  obtain ⟨m, h1, h2⟩ := dec_fold (Lib.decDigits u) 0 (num_all u)
  have h3 := decFrom_decDigits u 0
  rw [h1] at h3
  have h4 : m = u := by simpa using h3
  have hz : ((0 : Nat) : Int) = 0 := rfl
  rw [hz] at h2
  simp only [h2, h4]
theorem opnd_num (n : Int) (h0 : 0 ≤ n) : opndN (numB n) = ⟨1, n, noT, 0, 0⟩ ∧ 48 ≤ byteN (numB n) 0 := by
  obtain ⟨d, r, hd, h10⟩ := num_digits n h0
  have hb : byteN (numB n) 0 = ((48 + d : Nat) : Int) := by
    unfold numB
    rw [hd, first_byte]
    have : (UInt8.ofNat (48 + d)).toNat = 48 + d := by simp; omega
    rw [this]
  refine ⟨?_, by omega⟩
  unfold opndN
  rw [if_neg (by omega), numW_B n h0]
  rfl
theorem name_first {s : ByteArray} (h : nameErr s = 0) : 1 ≤ s.size ∧ s.size ≤ 8 ∧ ∀ i, i < s.size → letB (byteN s i) = true := by
  unfold nameErr at h
  split at h
  · cases h
  · rename_i h1
    split at h
    · cases h
    · rename_i h2
      refine ⟨by omega, by omega, fun i hi => ?_⟩
      rcases findFrom_cases (badByte s) s.size 0 with ⟨_, h3⟩ | ⟨m, e, _⟩
      · have := h3 i (Nat.zero_le _) (by omega)
        unfold badByte badB at this
        unfold letB
        simp at this ⊢
        omega
      · omega
theorem opnd_ref {s : ByteArray} (h : nameErr s = 0) : opndN s = ⟨2, 0, s, 0, 0⟩ ∧ 48 ≤ byteN s 0 := by
  obtain ⟨h1, _, h3⟩ := name_first h
  have h0 := h3 0 (by omega)
  unfold letB at h0
  simp at h0
  refine ⟨?_, by omega⟩
  unfold opndN
  rw [if_pos (by omega)]

/-- a builder that takes the words of a tree comes to its nodes, once what waits is settled -/
theorem take_tree : ∀ (t : Tre) (b : Bld), okT t → Low b (bindT t) → ∀ least, least ≤ bindT t → settleB least ((tokT t).foldl takeB b) = settleB least (pushT t b)
  | .num n, b, hk, _, least, _ => by
    have h := opnd_num n hk.1
    show settleB least (takeB b (numB n)) = _
    rw [take_is_opd h.2, h.1]
    rfl
  | .ref s, b, hk, _, least, _ => by
    have h := opnd_ref hk
    show settleB least (takeB b s) = _
    rw [take_is_opd h.2, h.1]
    rfl
  | .bin o a c, b, ⟨ho, ha, hc⟩, hl, least, hle => by
    have hb1 : bindN o ≤ 2 := by unfold bindN; split <;> (try split) <;> omega
    have hl' : Low b (bindN o) := hl
    have hle' : least ≤ bindN o := hle
    -- the left side
    have e1 : settleB (bindN o) ((brkL (tokT a) (decide (bindT a < bindN o))).foldl takeB b) = pushT a b := by
      by_cases h : bindT a < bindN o
      · rw [decide_eq_true h, take_brk (t := a) (take_tree a _ ha (low_open _ _ _ _) 0 (by cases a <;> simp [bindT, bindN] <;> (try split) <;> (try split) <;> omega))]
        exact settle_low (low_push a hl')
      · rw [decide_eq_false h]
        show settleB (bindN o) ((tokT a).foldl takeB b) = _
        rw [take_tree a b ha (hl'.up (by omega)) (bindN o) (by omega)]
        exact settle_low (low_push a hl')
    show settleB least ((brkL (tokT a) (decide (bindT a < bindN o)) ++ [sgnT o] ++ brkL (tokT c) (decide (bindT c ≤ bindN o))).foldl takeB b) = _
    rw [List.foldl_append, List.foldl_append]
    show settleB least ((brkL (tokT c) (decide (bindT c ≤ bindN o))).foldl takeB (takeB ((brkL (tokT a) (decide (bindT a < bindN o))).foldl takeB b) (sgnT o))) = _
    rw [take_sign _ ho, e1]
    -- the right side
    have e2 : settleB least ((brkL (tokT c) (decide (bindT c ≤ bindN o))).foldl takeB ⟨(pushT a b).nodes, (pushT a b).ready, (pushT a b).waiting ++ [o]⟩) = settleB least (pushT c ⟨(pushT a b).nodes, (pushT a b).ready, (pushT a b).waiting ++ [o]⟩) := by
      by_cases h : bindT c ≤ bindN o
      · rw [decide_eq_true h, take_brk (t := c) (take_tree c _ hc (low_open _ _ _ _) 0 (by cases c <;> simp [bindT, bindN] <;> (try split) <;> (try split) <;> omega))]
      · rw [decide_eq_false h]
        exact take_tree c _ hc (Or.inr ⟨_, o, rfl, Or.inr (by omega)⟩) least (by omega)
    rw [e2]
    show settleB least ⟨(pushT c ⟨(pushT a b).nodes, (pushT a b).ready, b.waiting ++ [o]⟩).nodes, (pushT c ⟨(pushT a b).nodes, (pushT a b).ready, b.waiting ++ [o]⟩).ready, b.waiting ++ [o]⟩ = _
    rw [settle_pop (by omega) hle', join_push]
end Go.Proofs.YtklfenojapgmnaeDoor

namespace Go.Proofs.YtklfenojapgmnaeDoor

section
variable {S : Type} (s : ByteArray) (tk : S → ByteArray → S)
/-- reading step by step: ahead of an operand (false), or behind one (true) -/
def runR : Nat → Bool → Rd S → Rd S × Bool
  | 0, _, r => (r, false)
  | f + 1, false, r =>
    if nextB s r.at' = 40 then runR f false (wordR s tk 1 ⟨r.at', r.opn + 1, r.st⟩)
    else if digB (nextB s r.at') then runR f true (wordR s tk (digitsN s r.at') r)
    else if letB (nextB s r.at') then runR f true (wordR s tk (leadN letB (s.extract r.at' s.size)) r)
    else (r, false)
  | f + 1, true, r =>
    if 0 < r.opn ∧ nextB s r.at' = 41 then runR f true (wordR s tk 1 ⟨r.at', r.opn - 1, r.st⟩)
    else if r.at' < s.size then (if signI (nextB s r.at') < 0 then (r, false) else runR f false (wordR s tk 1 r))
    else (r, decide (r.opn = 0))
end
section
variable {S : Type} {s : ByteArray} {tk : S → ByteArray → S}
theorem dig_pos {a : Nat} (ha : a ≤ s.size) (h : digB (nextB s a) = true) : 1 ≤ digitsN s a ∧ a + digitsN s a ≤ s.size := by
  have hlt : a < s.size := next_zero (fun e => by rw [e] at h; revert h; decide) ha
  have h1 := (lead_word (n := 0) hlt h (Nat.zero_le _)).1
  refine ⟨?_, (dig_word (o := 0) ha h).1⟩
  unfold digitsN
  split <;> omega
theorem let_pos {a : Nat} (ha : a ≤ s.size) (h : letB (nextB s a) = true) : 1 ≤ leadN letB (s.extract a s.size) ∧ a + leadN letB (s.extract a s.size) ≤ s.size := by
  have hlt : a < s.size := next_zero (fun e => by rw [e] at h; revert h; decide) ha
  exact ⟨(lead_word (n := 0) hlt h (Nat.zero_le _)).1, (let_word (o := 0) ha h).1⟩
theorem run_fuel : ∀ (f g : Nat) (ph : Bool) (r : Rd S), r.at' ≤ s.size → s.size - r.at' < f → s.size - r.at' < g → runR s tk f ph r = runR s tk g ph r
  | 0, _, _, _, _, h, _ => by omega
  | _ + 1, 0, _, _, _, _, h => by omega
  | f + 1, g + 1, false, r, hr, hf, hg => by
    rw [runR, runR]
    by_cases h1 : nextB s r.at' = 40
    · rw [if_pos h1, if_pos h1]
      have h := (opn_word (o := 0) hr h1).1
      exact run_fuel f g false _ h (by show s.size - (r.at' + 1) < f; omega) (by show s.size - (r.at' + 1) < g; omega)
    rw [if_neg h1, if_neg h1]
    by_cases h2 : digB (nextB s r.at') = true
    · rw [if_pos h2, if_pos h2]
      have h := dig_pos hr h2
      exact run_fuel f g true _ h.2 (by show s.size - (r.at' + digitsN s r.at') < f; omega) (by show s.size - (r.at' + digitsN s r.at') < g; omega)
    rw [if_neg h2, if_neg h2]
    by_cases h3 : letB (nextB s r.at') = true
    · rw [if_pos h3, if_pos h3]
      have h := let_pos hr h3
      exact run_fuel f g true _ h.2 (by show s.size - (r.at' + leadN letB (s.extract r.at' s.size)) < f; omega) (by show s.size - (r.at' + leadN letB (s.extract r.at' s.size)) < g; omega)
    rw [if_neg h3, if_neg h3]
  | f + 1, g + 1, true, r, hr, hf, hg => by
    rw [runR, runR]
    by_cases h1 : 0 < r.opn ∧ nextB s r.at' = 41
    · rw [if_pos h1, if_pos h1]
      have h := (cls_word (o := 0) hr h1.2).1
      exact run_fuel f g true _ h (by show s.size - (r.at' + 1) < f; omega) (by show s.size - (r.at' + 1) < g; omega)
    rw [if_neg h1, if_neg h1]
    by_cases h2 : r.at' < s.size
    · rw [if_pos h2, if_pos h2]
      by_cases h3 : signI (nextB s r.at') < 0
      · rw [if_pos h3, if_pos h3]
      · rw [if_neg h3, if_neg h3]
        exact run_fuel f g false _ h2 (by show s.size - (r.at' + 1) < f; omega) (by show s.size - (r.at' + 1) < g; omega)
    · rw [if_neg h2, if_neg h2]
end
/-- reading from here to the end -/
def toEnd {S : Type} (s : ByteArray) (tk : S → ByteArray → S) (ph : Bool) (r : Rd S) : Rd S × Bool := runR s tk (s.size + 1) ph r
section
variable {S : Type} {s : ByteArray} {tk : S → ByteArray → S} {r : Rd S}
theorem end_open (hr : r.at' ≤ s.size) (h : nextB s r.at' = 40) : toEnd s tk false r = toEnd s tk false (wordR s tk 1 ⟨r.at', r.opn + 1, r.st⟩) := by
  have h1 := (opn_word (o := 0) hr h).1
  unfold toEnd
  rw [runR, if_pos h]
  exact run_fuel _ _ _ _ h1 (by show s.size - (r.at' + 1) < _; omega) (by show s.size - (r.at' + 1) < _; omega)
theorem end_dig (hr : r.at' ≤ s.size) (h : digB (nextB s r.at') = true) : toEnd s tk false r = toEnd s tk true (wordR s tk (digitsN s r.at') r) := by
  have h1 := dig_pos hr h
  have h40 : nextB s r.at' ≠ 40 := fun e => by rw [e] at h; revert h; decide
  unfold toEnd
  rw [runR, if_neg h40, if_pos h]
  exact run_fuel _ _ _ _ h1.2 (by show s.size - (r.at' + digitsN s r.at') < _; omega) (by show s.size - (r.at' + digitsN s r.at') < _; omega)
theorem end_let (hr : r.at' ≤ s.size) (h : letB (nextB s r.at') = true) : toEnd s tk false r = toEnd s tk true (wordR s tk (leadN letB (s.extract r.at' s.size)) r) := by
  have h1 := let_pos hr h
  have h40 : nextB s r.at' ≠ 40 := fun e => by rw [e] at h; revert h; decide
  have hd : ¬ digB (nextB s r.at') = true := fun e => by unfold digB at e; unfold letB at h; simp at e h; omega
  unfold toEnd
  rw [runR, if_neg h40, if_neg hd, if_pos h]
  exact run_fuel _ _ _ _ h1.2 (by show s.size - (r.at' + leadN letB (s.extract r.at' s.size)) < _; omega) (by show s.size - (r.at' + leadN letB (s.extract r.at' s.size)) < _; omega)
theorem end_none (h : nextB s r.at' ≠ 40) (h1 : digB (nextB s r.at') = false) (h2 : letB (nextB s r.at') = false) : toEnd s tk false r = (r, false) := by
  unfold toEnd
  rw [runR, if_neg h, if_neg (by rw [h1]; decide), if_neg (by rw [h2]; decide)]
theorem end_close (hr : r.at' ≤ s.size) (h : 0 < r.opn ∧ nextB s r.at' = 41) : toEnd s tk true r = toEnd s tk true (wordR s tk 1 ⟨r.at', r.opn - 1, r.st⟩) := by
  have h1 := (cls_word (o := 0) hr h.2).1
  unfold toEnd
  rw [runR, if_pos h]
  exact run_fuel _ _ _ _ h1 (by show s.size - (r.at' + 1) < _; omega) (by show s.size - (r.at' + 1) < _; omega)
theorem end_sign (h : ¬ (0 < r.opn ∧ nextB s r.at' = 41)) (hlt : r.at' < s.size) (hs : ¬ signI (nextB s r.at') < 0) : toEnd s tk true r = toEnd s tk false (wordR s tk 1 r) := by
  have e : runR s tk (s.size + 1) true r = runR s tk s.size false (wordR s tk 1 r) := by rw [runR, if_neg h, if_pos hlt, if_neg hs]
  unfold toEnd
  rw [e]
  exact run_fuel _ _ _ _ hlt (by show s.size - (r.at' + 1) < _; omega) (by show s.size - (r.at' + 1) < _; omega)
theorem end_bad (h : ¬ (0 < r.opn ∧ nextB s r.at' = 41)) (hlt : r.at' < s.size) (hs : signI (nextB s r.at') < 0) : toEnd s tk true r = (r, false) := by
  unfold toEnd
  rw [runR, if_neg h, if_pos hlt, if_pos hs]
theorem end_end (h : ¬ (0 < r.opn ∧ nextB s r.at' = 41)) (hlt : ¬ r.at' < s.size) : toEnd s tk true r = (r, decide (r.opn = 0)) := by
  unfold toEnd
  rw [runR, if_neg h, if_neg hlt]
theorem end_opens : ∀ (f : Nat) (r : Rd S), r.at' ≤ s.size → toEnd s tk false r = toEnd s tk false (opensR s tk f r)
  | 0, _, _ => rfl
  | f + 1, r, hr => by
    rw [opensR]
    split
    · rename_i h
      rw [end_open hr h]
      exact end_opens f _ (opn_word (o := 0) hr h).1
    · rfl
theorem opened_ne : ∀ (f : Nat) (r : Rd S), r.at' ≤ s.size → s.size - r.at' ≤ f → nextB s (opensR s tk f r).at' ≠ 40
  | 0, r, hr, hf => by
    have e : r.at' = s.size := by omega
    rw [opensR, e, nextB, if_pos rfl]
    decide
  | f + 1, r, hr, hf => by
    rw [opensR]
    split
    · rename_i h
      have h1 := (opn_word (o := 0) hr h).1
      exact opened_ne f _ h1 (by show s.size - (r.at' + 1) ≤ f; omega)
    · rename_i h; exact h
theorem end_closes : ∀ (f : Nat) (r : Rd S), r.at' ≤ s.size → toEnd s tk true r = toEnd s tk true (closesR s tk f r)
  | 0, _, _ => rfl
  | f + 1, r, hr => by
    rw [closesR]
    split
    · rename_i h
      rw [end_close hr h]
      exact end_closes f _ (cls_word (o := 0) hr h.2).1
    · rfl
theorem closed_ne : ∀ (f : Nat) (r : Rd S), r.at' ≤ s.size → s.size - r.at' ≤ f → ¬ (0 < (closesR s tk f r).opn ∧ nextB s (closesR s tk f r).at' = 41)
  | 0, r, hr, hf => by
    have e : r.at' = s.size := by omega
    rw [closesR, e, nextB, if_pos rfl]
    intro h
    exact absurd h.2 (by decide)
  | f + 1, r, hr, hf => by
    rw [closesR]
    split
    · rename_i h
      have h1 := (cls_word (o := 0) hr h.2).1
      exact closed_ne f _ h1 (by show s.size - (r.at' + 1) ≤ f; omega)
    · rename_i h; exact h
/-- an operand with the brackets about it -/
theorem end_operand (hr : r.at' ≤ s.size) : ((operandR s tk r).2 = true ∧ toEnd s tk false r = toEnd s tk true (operandR s tk r).1 ∧ ¬ (0 < (operandR s tk r).1.opn ∧ nextB s (operandR s tk r).1.at' = 41)) ∨ ((operandR s tk r).2 = false ∧ toEnd s tk false r = ((operandR s tk r).1, false)) := by
  have ho : (openedR s tk r).at' ≤ s.size := opens_in _ r hr
  have e0 : toEnd s tk false r = toEnd s tk false (openedR s tk r) := end_opens _ r hr
  have hne : nextB s (openedR s tk r).at' ≠ 40 := opened_ne _ r hr (Nat.le_refl _)
  cases hd : digB (nextB s (openedR s tk r).at')
  · cases hl : letB (nextB s (openedR s tk r).at')
    · right
      have e := opnd_no (s := s) (tk := tk) (r := r) hd hl
      rw [e]
      exact ⟨rfl, by rw [e0]; exact end_none hne hd hl⟩
    · left
      have e := opnd_let (s := s) (tk := tk) (r := r) hd hl
      rw [e]
      have h1 := let_pos ho hl
      refine ⟨rfl, ?_, closed_ne _ _ h1.2 (by omega)⟩
      rw [e0, end_let ho hl]
      exact end_closes _ _ h1.2
  · left
    have e := opnd_dig (s := s) (tk := tk) (r := r) hd
    rw [e]
    have h1 := dig_pos ho hd
    refine ⟨rfl, ?_, closed_ne _ _ h1.2 (by omega)⟩
    rw [e0, end_dig ho hd]
    exact end_closes _ _ h1.2
theorem end_loop : ∀ (f : Nat) (r : Rd S), r.at' ≤ s.size → s.size - r.at' ≤ f → ¬ (0 < r.opn ∧ nextB s r.at' = 41) → toEnd s tk true r = if (loopR s tk f r).2 then ((loopR s tk f r).1, decide ((loopR s tk f r).1.opn = 0)) else ((loopR s tk f r).1, false)
  | 0, r, hr, hf, hc => by
    rw [loopR, if_pos rfl]
    exact end_end hc (by omega)
  | f + 1, r, hr, hf, hc => by
    by_cases hlt : r.at' < s.size
    · by_cases hs : signI (nextB s r.at') < 0
      · have e : signR s tk r = (r, false) := by rw [signR, if_pos hs]
        rw [loop_sgn hlt (by rw [e]), e, if_neg (fun e => Bool.noConfusion e)]
        exact end_bad hc hlt hs
      · have e : signR s tk r = (wordR s tk 1 r, true) := by rw [signR, if_neg hs]
        have h1 : (wordR s tk 1 r).at' ≤ s.size := hlt
        rw [end_sign hc hlt hs]
        rcases end_operand (tk := tk) h1 with ⟨g1, g2, g3⟩ | ⟨g1, g2⟩
        · rw [loop_on hlt (by rw [e]) (by rw [e]; exact g1), e, g2]
          have hat := operand_at (s := s) (tk := tk) (wordR s tk 1 r)
          have hw : (wordR s tk 1 r).at' = r.at' + 1 := rfl
          exact end_loop f _ (operand_in _ h1) (by omega) g3
        · rw [loop_opd hlt (by rw [e]) (by rw [e]; exact g1), e, if_neg (fun e => Bool.noConfusion e)]
          exact g2
    · rw [loop_end hlt, if_pos rfl]
      exact end_end hc hlt
/-- all of a text, step by step -/
theorem all_end_eq (hr : r.at' ≤ s.size) : allR s tk r = toEnd s tk false r := by
  rcases end_operand (tk := tk) hr with ⟨g1, g2, g3⟩ | ⟨g1, g2⟩
  · rw [g2, end_loop s.size _ (operand_in _ hr) (by omega) g3]
    unfold allR
    rw [if_pos g1]
  · rw [g2, all_no g1]
end
end Go.Proofs.YtklfenojapgmnaeDoor

namespace Go.Proofs.YtklfenojapgmnaeDoor

/-- bytes that stand in a text at a place -/
def Has (s : ByteArray) (p : Nat) (l : List UInt8) : Prop := ∃ pre post, s.data.toList = pre ++ l ++ post ∧ pre.length = p
section
variable {s : ByteArray} {p : Nat} {l l1 l2 : List UInt8}
theorem Has.size (h : Has s p l) : p + l.length ≤ s.size := by
  obtain ⟨pre, post, h1, h2⟩ := h
  have e : s.size = s.data.toList.length := Array.length_toList.symm
  rw [e, h1]
  simp
  omega
theorem Has.left (h : Has s p (l1 ++ l2)) : Has s p l1 := by
  obtain ⟨pre, post, h1, h2⟩ := h
  exact ⟨pre, l2 ++ post, by rw [h1]; simp, h2⟩
theorem Has.right (h : Has s p (l1 ++ l2)) : Has s (p + l1.length) l2 := by
  obtain ⟨pre, post, h1, h2⟩ := h
  exact ⟨pre ++ l1, post, by rw [h1]; simp, by simp [h2]⟩
theorem Has.byte (h : Has s p l) {i : Nat} (hi : i < l.length) : byteN s (p + i) = ((l.getD i 0).toNat : Int) := by
  obtain ⟨pre, post, h1, h2⟩ := h
  unfold byteN
  rw [h1]
  congr 2
  simp only [List.getD]
  rw [List.append_assoc, List.getElem?_append_right (by omega), List.getElem?_append_left (by omega)]
  congr 2
  omega
theorem Has.word (h : Has s p l) : s.extract p (p + l.length) = ⟨l.toArray⟩ := by
  obtain ⟨pre, post, h1, h2⟩ := h
  apply ByteArray.ext
  apply Array.toList_inj.1
  rw [Lib.extract_data, h1]
  simp [← h2]
theorem Has.next (h : Has s p l) {x : UInt8} {r : List UInt8} (hl : l = x :: r) : nextB s p = (x.toNat : Int) := by
  have hs := h.size
  rw [hl, List.length_cons] at hs
  have hb := h.byte (i := 0) (by rw [hl]; simp)
  rw [next_at (by omega), ← Nat.add_zero p, hb, hl]
  rfl
end
/-- neither a digit nor a letter stands there -/
def Fol (s : ByteArray) (p : Nat) : Prop := digB (nextB s p) = false ∧ letB (nextB s p) = false
theorem leadTo_exact {q : Int → Bool} {t : ByteArray} {m : Nat} (h1 : ∀ i, i < m → q (byteN t i) = true) (h2 : m = t.size ∨ q (byteN t m) = false) : ∀ (f i : Nat), i ≤ m → i + f = t.size → leadTo q t f i = m
  | 0, i, hi, hf => by
    rcases h2 with h2 | h2
    · show i = m; omega
    · by_cases e : i = m
      · exact e
      · have := h1 i (by omega)
        show i = m
        exfalso
        have hz : byteN t i = 0 := by
          unfold byteN
          have e2 : t.size = t.data.toList.length := Array.length_toList.symm
          rw [List.getD, List.getElem?_eq_none (by omega)]
          rfl
        have hz2 : byteN t m = 0 := by
          unfold byteN
          have e2 : t.size = t.data.toList.length := Array.length_toList.symm
          rw [List.getD, List.getElem?_eq_none (by omega)]
          rfl
        rw [hz] at this
        rw [hz2, this] at h2
        cases h2
  | f + 1, i, hi, hf => by
    by_cases e : i = m
    · rcases h2 with h2 | h2
      · omega
      · rw [leadTo, e, if_neg (by rw [h2]; decide)]
    · rw [leadTo, if_pos (h1 i (by omega))]
      exact leadTo_exact h1 h2 f (i + 1) (by omega) (by omega)
theorem lead_has {q : Int → Bool} {s : ByteArray} {p : Nat} {l : List UInt8} (h : Has s p l) (h1 : ∀ b ∈ l, q (b.toNat : Int) = true) (hf : q (nextB s (p + l.length)) = false) : leadN q (s.extract p s.size) = l.length := by
  have hs := h.size
  have ht := tail_size s p
  unfold leadN
  refine leadTo_exact (m := l.length) (fun i hi => ?_) ?_ _ 0 (Nat.zero_le _) (by omega)
  · rw [byteN_ext (by omega), h.byte hi, List.getD, List.getElem?_eq_getElem hi]
    exact h1 _ (List.getElem_mem hi)
  · by_cases e : p + l.length = s.size
    · left; omega
    · right
      rw [byteN_ext (by omega), ← next_at (by omega)]
      exact hf

def bytesOf (ts : List ByteArray) : List UInt8 := ts.flatMap fun t => t.data.toList
def txtL (t : Tre) : List UInt8 := bytesOf (tokT t)
theorem bytes_app (a b : List ByteArray) : bytesOf (a ++ b) = bytesOf a ++ bytesOf b := by simp [bytesOf]
theorem bytes_one (a : ByteArray) : bytesOf [a] = a.data.toList := by simp [bytesOf]

theorem dig7_le (u : Nat) (h : u < 10000000) : (Lib.decDigits u).length ≤ 7 := by
  rw [Lib.decDigits_length]
  have step : ∀ v k, (v < 10 ^ k → Lib.nDigits v ≤ k) ∨ k = 0 := by
    intro v k
    induction k generalizing v with
    | zero => exact Or.inr rfl
    | succ k ih =>
      left
      intro hv
      rw [Lib.nDigits]
      split
      · omega
      · rename_i h10
        rcases ih (v / 10) with h | h
        · have := h (by rw [Nat.pow_succ] at hv; omega)
          omega
        · subst h
          simp at hv
          omega
  rcases step u 7 with h7 | h7
  · exact h7 (by simpa using h)
  · omega
section
variable {S : Type} {s : ByteArray} {tk : S → ByteArray → S}
theorem read_num {r : Rd S} {n : Int} (h0 : 0 ≤ n) (h1 : n ≤ 1000000) (hH : Has s r.at' (numB n).data.toList) (hF : Fol s (r.at' + (numB n).data.toList.length)) : toEnd s tk false r = toEnd s tk true ⟨r.at' + (numB n).data.toList.length, r.opn, tk r.st (numB n)⟩ := by
  obtain ⟨u, rfl⟩ : ∃ u : Nat, n = u := ⟨n.toNat, by omega⟩
  have hl : (numB (u : Int)).data.toList = Lib.decDigits u := by simp [numB, Lib.itoa_nonneg]
  have hw := hH.word
  have hs := hH.size
  have hB : (⟨(numB (u : Int)).data.toList.toArray⟩ : ByteArray) = numB u := by simp
  rw [hB] at hw
  rw [hl] at hH hF hw hs ⊢
  obtain ⟨d, t, hd, h10, hpos, hone⟩ := head_decDigits u
  have hnx : nextB s r.at' = ((48 + d : Nat) : Int) := by
    rw [hH.next hd]
    have : (UInt8.ofNat (48 + d)).toNat = 48 + d := by simp; omega
    rw [this]
  have hdg : digB (nextB s r.at') = true := by rw [hnx]; unfold digB; simp; omega
  have hlead := lead_has (q := digB) hH (fun b hb => by have := num_all u b hb; unfold digB; simp; omega) hF.1
  have hlen := dig7_le u (by omega)
  have hdn : digitsN s r.at' = (Lib.decDigits u).length := by
    unfold digitsN
    by_cases hd0 : d = 0
    · subst hd0
      rw [if_pos (by rw [hnx]; rfl)]
      have hu : u < 10 := by
        by_cases h : 1 ≤ u
        · have := hpos h; omega
        · omega
      rw [hd, hone hu]
      rfl
    · rw [if_neg (by rw [hnx]; omega), hlead]
      omega
  rw [end_dig (by omega) hdg, hdn]
  unfold wordR
  rw [hw]
theorem read_ref {r : Rd S} {nm : ByteArray} (h : nameErr nm = 0) (hH : Has s r.at' nm.data.toList) (hF : Fol s (r.at' + nm.data.toList.length)) : toEnd s tk false r = toEnd s tk true ⟨r.at' + nm.data.toList.length, r.opn, tk r.st nm⟩ := by
  obtain ⟨h1, _, h3⟩ := name_first h
  have hs := hH.size
  have hsz : nm.size = nm.data.toList.length := Array.length_toList.symm
  have hw := hH.word
  have hB : (⟨nm.data.toList.toArray⟩ : ByteArray) = nm := by simp
  rw [hB] at hw
  have hall : ∀ b ∈ nm.data.toList, letB (b.toNat : Int) = true := by
    intro b hb
    obtain ⟨i, hi, rfl⟩ := List.getElem_of_mem hb
    have := h3 i (by omega)
    unfold byteN at this
    rw [List.getD, List.getElem?_eq_getElem hi] at this
    exact this
  have hlt : letB (nextB s r.at') = true := by
    have hb := hH.byte (i := 0) (by omega)
    rw [next_at (by omega), ← Nat.add_zero r.at', hb, List.getD, List.getElem?_eq_getElem (by omega)]
    exact hall _ (List.getElem_mem _)
  rw [end_let (by omega) hlt, lead_has (q := letB) hH hall hF.2]
  unfold wordR
  rw [hw]
theorem fol_sign {p : Nat} {c : UInt8} {l : List UInt8} (h : Has s p (c :: l)) (hc : c = 43 ∨ c = 45 ∨ c = 42 ∨ c = 47 ∨ c = 41) : Fol s p := by
  have hn := h.next rfl
  unfold Fol
  rw [hn]
  rcases hc with rfl | rfl | rfl | rfl | rfl <;> decide
/-- a tree in brackets, or without -/
theorem read_brk {t : Tre} (ih : ∀ r : Rd S, Has s r.at' (txtL t) → Fol s (r.at' + (txtL t).length) → toEnd s tk false r = toEnd s tk true ⟨r.at' + (txtL t).length, r.opn, (tokT t).foldl tk r.st⟩) (c : Bool) (r : Rd S) (hH : Has s r.at' (bytesOf (brkL (tokT t) c))) (hF : Fol s (r.at' + (bytesOf (brkL (tokT t) c)).length)) :
    toEnd s tk false r = toEnd s tk true ⟨r.at' + (bytesOf (brkL (tokT t) c)).length, r.opn, (brkL (tokT t) c).foldl tk r.st⟩ := by
  cases c
  · exact ih r hH hF
  · have hb : bytesOf (brkL (tokT t) true) = [40] ++ txtL t ++ [41] := by
      show bytesOf ([ByteArray.mk #[40]] ++ tokT t ++ [ByteArray.mk #[41]]) = _
      rw [bytes_app, bytes_app, bytes_one, bytes_one]
      rfl
    have hf : (brkL (tokT t) true).foldl tk r.st = tk ((tokT t).foldl tk (tk r.st ⟨#[40]⟩)) ⟨#[41]⟩ := by
      show ([ByteArray.mk #[40]] ++ tokT t ++ [ByteArray.mk #[41]]).foldl tk r.st = _
      rw [List.foldl_append, List.foldl_append]
      rfl
    rw [hb] at hH hF ⊢
    rw [hf]
    have hs := hH.size
    have h1 : Has s r.at' [40] := hH.left.left
    have h2 : Has s (r.at' + 1) (txtL t) := hH.left.right
    have h3 := hH.right
    simp only [List.length_append, List.length_singleton] at h3 hs ⊢
    have n1 := h1.next rfl
    have w1 := h1.word
    have n3 := h3.next rfl
    have w3 := h3.word
    simp only [List.length_singleton] at w1 w3
    rw [end_open (by omega) n1]
    have e1 : wordR s tk 1 ⟨r.at', r.opn + 1, r.st⟩ = ⟨r.at' + 1, r.opn + 1, tk r.st ⟨#[40]⟩⟩ := by
      unfold wordR
      simp only [w1]
    rw [e1]
    have hF2 : Fol s (r.at' + 1 + (txtL t).length) := by
      rw [show r.at' + 1 + (txtL t).length = r.at' + (1 + (txtL t).length) by omega]
      exact fol_sign h3 (by simp)
    rw [ih _ h2 hF2, end_close (by show r.at' + 1 + (txtL t).length ≤ _; omega) ⟨Nat.succ_pos _, by
      show nextB s (r.at' + 1 + (txtL t).length) = 41
      rw [show r.at' + 1 + (txtL t).length = r.at' + (1 + (txtL t).length) by omega]
      exact n3⟩]
    have e2 : wordR s tk 1 ⟨r.at' + 1 + (txtL t).length, r.opn + 1 - 1, (tokT t).foldl tk (tk r.st ⟨#[40]⟩)⟩ = ⟨r.at' + (1 + (txtL t).length + 1), r.opn, tk ((tokT t).foldl tk (tk r.st ⟨#[40]⟩)) ⟨#[41]⟩⟩ := by
      show (⟨r.at' + 1 + (txtL t).length + 1, r.opn + 1 - 1, tk ((tokT t).foldl tk (tk r.st ⟨#[40]⟩)) (s.extract (r.at' + 1 + (txtL t).length) (r.at' + 1 + (txtL t).length + 1))⟩ : Rd S) = _
      rw [show r.at' + 1 + (txtL t).length = r.at' + (1 + (txtL t).length) by omega, w3]
      rfl
    show toEnd s tk true (wordR s tk 1 ⟨r.at' + 1 + (txtL t).length, r.opn + 1 - 1, (tokT t).foldl tk (tk r.st ⟨#[40]⟩)⟩) = _
    rw [e2]
/-- the text of a tree is read as its words -/
theorem read_tree : ∀ (t : Tre) (r : Rd S), okT t → Has s r.at' (txtL t) → Fol s (r.at' + (txtL t).length) → toEnd s tk false r = toEnd s tk true ⟨r.at' + (txtL t).length, r.opn, (tokT t).foldl tk r.st⟩
  | .num n, r, hk, hH, hF => by
    have e : txtL (.num n) = (numB n).data.toList := bytes_one _
    rw [e] at hH hF ⊢
    exact read_num hk.1 hk.2 hH hF
  | .ref nm, r, hk, hH, hF => by
    have e : txtL (.ref nm) = nm.data.toList := bytes_one _
    rw [e] at hH hF ⊢
    exact read_ref hk hH hF
  | .bin o a b, r, ⟨ho, ha, hb⟩, hH, hF => by
    obtain ⟨ca, hca⟩ : ∃ c, decide (bindT a < bindN o) = c := ⟨_, rfl⟩
    obtain ⟨cb, hcb⟩ : ∃ c, decide (bindT b ≤ bindN o) = c := ⟨_, rfl⟩
    have ht : tokT (.bin o a b) = brkL (tokT a) ca ++ [sgnT o] ++ brkL (tokT b) cb := by rw [tokT, hca, hcb]
    have e : txtL (.bin o a b) = bytesOf (brkL (tokT a) ca) ++ (sgnT o).data.toList ++ bytesOf (brkL (tokT b) cb) := by
      unfold txtL
      rw [ht, bytes_app, bytes_app, bytes_one]
    obtain ⟨c, hc, hcs, hsg⟩ : ∃ c : UInt8, (sgnT o).data.toList = [c] ∧ (c = 43 ∨ c = 45 ∨ c = 42 ∨ c = 47 ∨ c = 41) ∧ (¬ signI (c.toNat : Int) < 0 ∧ (c.toNat : Int) ≠ 41) := by
      have hoc : o = 3 ∨ o = 4 ∨ o = 5 ∨ o = 6 := by omega
      rcases hoc with rfl | rfl | rfl | rfl
      · exact ⟨43, rfl, by simp, by decide⟩
      · exact ⟨45, rfl, by simp, by decide⟩
      · exact ⟨42, rfl, by simp, by decide⟩
      · exact ⟨47, rfl, by simp, by decide⟩
    rw [e, hc] at hH hF ⊢
    rw [ht]
    obtain ⟨la, hla⟩ : ∃ l, bytesOf (brkL (tokT a) ca) = l := ⟨_, rfl⟩
    obtain ⟨lb, hlb⟩ : ∃ l, bytesOf (brkL (tokT b) cb) = l := ⟨_, rfl⟩
    rw [hla, hlb] at hH hF ⊢
    have hs := hH.size
    have h1 : Has s r.at' la := hH.left.left
    have h2 : Has s (r.at' + la.length) [c] := hH.left.right
    have h3 := hH.right
    simp only [List.length_append, List.length_singleton] at h3 hs hF ⊢
    have n2 := h2.next rfl
    have w2 := h2.word
    simp only [List.length_singleton] at w2
    have hws : (⟨[c].toArray⟩ : ByteArray) = sgnT o := by
      apply ByteArray.ext
      apply Array.toList_inj.1
      rw [hc]
    rw [hws] at w2
    have r1 := read_brk (t := a) (fun r h hf => read_tree a r ha h hf) ca r (by rw [hla]; exact h1) (by rw [hla]; exact fol_sign h2 hcs)
    rw [hla] at r1
    rw [r1, end_sign (by show ¬ (0 < r.opn ∧ nextB s (r.at' + la.length) = 41); rw [n2]; intro h; exact hsg.2 h.2) (by show r.at' + la.length < s.size; omega) (by show ¬ signI (nextB s (r.at' + la.length)) < 0; rw [n2]; exact hsg.1)]
    have e2 : wordR s tk 1 ⟨r.at' + la.length, r.opn, (brkL (tokT a) ca).foldl tk r.st⟩ = ⟨r.at' + (la.length + 1), r.opn, tk ((brkL (tokT a) ca).foldl tk r.st) (sgnT o)⟩ := by
      show (⟨r.at' + la.length + 1, r.opn, tk ((brkL (tokT a) ca).foldl tk r.st) (s.extract (r.at' + la.length) (r.at' + la.length + 1))⟩ : Rd S) = _
      rw [w2]
      rfl
    rw [e2]
    have r2 := read_brk (tk := tk) (t := b) (fun r h hf => read_tree b r hb h hf) cb ⟨r.at' + (la.length + 1), r.opn, tk ((brkL (tokT a) ca).foldl tk r.st) (sgnT o)⟩ (by rw [hlb]; exact h3) (by rw [hlb]; show Fol s (r.at' + (la.length + 1) + lb.length); rw [show r.at' + (la.length + 1) + lb.length = r.at' + (la.length + 1 + lb.length) by omega]; exact hF)
    rw [hlb] at r2
    rw [r2]
    simp only [List.foldl_append, List.foldl_cons, List.foldl_nil, Nat.add_assoc]
end

/-- the text of a tree -/
def treT (t : Tre) : ByteArray := ⟨(txtL t).toArray⟩
/-- what is read of the text of a tree: its nodes -/
theorem gone_tree (t : Tre) (h : okT t) : (goneB (treT t)).2 = true ∧ nodesP (treT t) = post t 0 := by
  have hH : Has (treT t) 0 (txtL t) := ⟨[], [], by simp [treT], rfl⟩
  have hz : (treT t).size = (txtL t).length := by simp [treT, ByteArray.size]
  have hn : nextB (treT t) (txtL t).length = 0 := by rw [nextB, if_pos hz.symm]
  have hF : Fol (treT t) (0 + (txtL t).length) := by
    rw [Nat.zero_add]
    unfold Fol
    rw [hn]
    decide
  have e : goneB (treT t) = (⟨0 + (txtL t).length, 0, (tokT t).foldl takeB noB⟩, true) := by
    unfold goneB
    rw [all_end_eq (Nat.zero_le _), read_tree t ⟨0, 0, noB⟩ h hH hF, end_end (by intro h; exact absurd h.1 (Nat.lt_irrefl 0)) (by show ¬ 0 + (txtL t).length < _; omega)]
    rfl
  refine ⟨by rw [e], ?_⟩
  unfold nodesP
  rw [e]
  show (settleB 0 ((tokT t).foldl takeB noB)).nodes = _
  rw [take_tree t noB h (Or.inl rfl) 0 (by cases t <;> simp [bindT, bindN] <;> (try split) <;> (try split) <;> omega), settle_low (low_push t (Or.inl rfl))]
  simp [pushT, noB]
end Go.Proofs.YtklfenojapgmnaeDoor

namespace Go.Proofs.YtklfenojapgmnaeDoor

/-- the tree of a node -/
def trF (l : List Nd) : Nat → Nat → Tre
  | 0, _ => .num 0
  | f + 1, i => if (l.getD i noN).op = 1 then .num (l.getD i noN).n else if (l.getD i noN).op = 2 then .ref (l.getD i noN).name else .bin (l.getD i noN).op (trF l f (l.getD i noN).left.toNat) (trF l f (l.getD i noN).right.toNat)
def treeOf (l : List Nd) (i : Nat) : Tre := trF l (i + 1) i
/-- all nodes of a list are right by themselves -/
def RightL (l : List Nd) : Prop := ∀ j, j < l.length → ndErr (l.getD j noN) j = 0
theorem op_range {x : Nd} {i : Nat} (h : ndErr x i = 0) : 1 ≤ x.op ∧ x.op ≤ 6 := by
  unfold ndErr at h
  split at h
  · cases h
  · omega
theorem trF_fuel {l : List Nd} (hl : RightL l) : ∀ (f g i : Nat), i < l.length → i < f → i < g → trF l f i = trF l g i
  | 0, _, _, _, h, _ => by omega
  | _ + 1, 0, _, _, _, h => by omega
  | f + 1, g + 1, i, hi, hf, hg => by
    rw [trF, trF]
    by_cases h1 : (l.getD i noN).op = 1
    · rw [if_pos h1, if_pos h1]
    rw [if_neg h1, if_neg h1]
    by_cases h2 : (l.getD i noN).op = 2
    · rw [if_pos h2, if_pos h2]
    rw [if_neg h2, if_neg h2]
    have ho := op_range (hl i hi)
    obtain ⟨a1, a2, a3, a4⟩ := nd_sides (hl i hi) (by omega)
    rw [trF_fuel hl f g _ (by omega) (by omega) (by omega), trF_fuel hl f g (l.getD i noN).right.toNat (by omega) (by omega) (by omega)]
section
variable {l : List Nd} {i : Nat}
theorem tree_num (h : (l.getD i noN).op = 1) : treeOf l i = .num (l.getD i noN).n := by unfold treeOf; rw [trF, if_pos h]
theorem tree_ref (h : (l.getD i noN).op = 2) : treeOf l i = .ref (l.getD i noN).name := by unfold treeOf; rw [trF, if_neg (by omega), if_pos h]
theorem tree_bin (hl : RightL l) (hi : i < l.length) (h : 2 < (l.getD i noN).op) : treeOf l i = .bin (l.getD i noN).op (treeOf l (l.getD i noN).left.toNat) (treeOf l (l.getD i noN).right.toNat) := by
  obtain ⟨a1, a2, a3, a4⟩ := nd_sides (hl i hi) h
  unfold treeOf
  rw [trF, if_neg (by omega), if_neg (by omega), trF_fuel hl i _ _ (by omega) (by omega) (Nat.lt_succ_self _), trF_fuel hl i _ (l.getD i noN).right.toNat (by omega) (by omega) (Nat.lt_succ_self _)]
theorem bind_tree (hl : RightL l) (hi : i < l.length) : bindT (treeOf l i) = bindN (l.getD i noN).op := by
  have ho := op_range (hl i hi)
  by_cases h1 : (l.getD i noN).op = 1
  · rw [tree_num h1, h1]; rfl
  by_cases h2 : (l.getD i noN).op = 2
  · rw [tree_ref h2, h2]; rfl
  · rw [tree_bin hl hi (by omega)]; rfl
end
theorem ok_tree {l : List Nd} (hl : RightL l) : ∀ i, i < l.length → okT (treeOf l i) := by
  intro i
  induction i using Nat.strongRecOn with
  | _ i ih =>
    intro hi
    have hg := hl i hi
    have ho := op_range hg
    by_cases h1 : (l.getD i noN).op = 1
    · rw [tree_num h1]
      unfold ndErr at hg
      rw [if_neg (by omega), if_pos h1] at hg
      split at hg
      · cases hg
      · show 0 ≤ _ ∧ _ ≤ (1000000 : Int); omega
    by_cases h2 : (l.getD i noN).op = 2
    · rw [tree_ref h2]
      unfold ndErr at hg
      rw [if_neg (by omega), if_neg h1, if_pos h2] at hg
      split at hg
      · cases hg
      · rename_i h; show nameErr _ = 0; simpa using h
    · obtain ⟨a1, a2, a3, a4⟩ := nd_sides hg (by omega)
      rw [tree_bin hl hi (by omega)]
      exact ⟨by omega, ih _ (by omega) (by omega), ih _ (by omega) (by omega)⟩
theorem byte_ext3 {l : List UInt8} {b : ByteArray} (h : l = b.data.toList) : (⟨l.toArray⟩ : ByteArray) = b := by
  apply ByteArray.ext
  apply Array.toList_inj.1
  rw [h]
theorem tre_num (n : Int) : treT (.num n) = numB n := by
  apply byte_ext3
  show bytesOf [numB n] = _
  rw [bytes_one]
theorem tre_ref (s : ByteArray) : treT (.ref s) = s := by
  apply byte_ext3
  show bytesOf [s] = _
  rw [bytes_one]
theorem tre_bin (o : Int) (a b : Tre) : treT (.bin o a b) = brk (treT a) (decide (bindT a < bindN o)) ++ sgnT o ++ brk (treT b) (decide (bindT b ≤ bindN o)) := by
  have hbr : ∀ (t : Tre) (c : Bool), (brk (treT t) c).data.toList = bytesOf (brkL (tokT t) c) := by
    intro t c
    cases c
    · simp [brk, brkL, treT, txtL]
    · show ((⟨#[40]⟩ ++ treT t ++ ⟨#[41]⟩ : ByteArray)).data.toList = bytesOf ([ByteArray.mk #[40]] ++ tokT t ++ [ByteArray.mk #[41]])
      rw [bytes_app, bytes_app, bytes_one, bytes_one]
      simp [treT, txtL]
  apply byte_ext3
  rw [ByteArray.data_append, ByteArray.data_append, Array.toList_append, Array.toList_append, hbr, hbr]
  show bytesOf (brkL (tokT a) (decide (bindT a < bindN o)) ++ [sgnT o] ++ brkL (tokT b) (decide (bindT b ≤ bindN o))) = _
  rw [bytes_app, bytes_app, bytes_one]
/-- what is written of the nodes ahead -/
theorem texts_tree {l : List Nd} (hl : RightL l) : ∀ k, k ≤ l.length → ∀ j, j < k → (textsTo l k).getD j noT = treT (treeOf l j)
  | 0, _, j, h => by omega
  | k + 1, hk, j, hj => by
    have ih := texts_tree hl k (by omega)
    rw [textsTo, List.getD_eq_getElem?_getD, List.getElem?_set]
    by_cases e : k = j
    · subst e
      rw [if_pos rfl, if_pos (by rw [texts_len]; omega)]
      simp only [Option.getD_some]
      have ho := op_range (hl k (by omega))
      by_cases h1 : (l.getD k noN).op = 1
      · rw [txt_num h1, tree_num h1, tre_num]; rfl
      by_cases h2 : (l.getD k noN).op = 2
      · rw [txt_ref h2, tree_ref h2, tre_ref]
      · obtain ⟨a1, a2, a3, a4⟩ := nd_sides (hl k (by omega)) (by omega)
        rw [txt_op (a := (l.getD k noN).left.toNat) (c := (l.getD k noN).right.toNat) (by omega) (by omega) (by omega), tree_bin hl (by omega) (by omega), tre_bin, ih _ (by omega), ih _ (by omega), bind_tree hl (by omega), bind_tree hl (by omega)]
    · rw [if_neg e, ← List.getD_eq_getElem?_getD]
      exact ih j (by omega)
theorem print_tree {l : List Nd} (h : formErr l = 0) : printT l = treT (treeOf l (l.length - 1)) := by
  obtain ⟨h1, h2, h3, -⟩ := form_right h
  unfold printT
  rw [if_pos h]
  exact texts_tree h3 l.length (Nat.le_refl _) _ (by omega)
end Go.Proofs.YtklfenojapgmnaeDoor

namespace Go.Proofs.YtklfenojapgmnaeDoor

/-- a tree whose nodes stand in a list -/
theorem tree_in {L : List Nd} : ∀ (t : Tre) (k f : Nat), okT t → (∀ j, j < sizT t → L.getD (k + j) noN = (post t k).getD j noN) → sizT t ≤ f → trF L f (k + sizT t - 1) = t
  | .num n, k, f, _, h, hf => by
    obtain ⟨g, rfl⟩ : ∃ g, f = g + 1 := ⟨f - 1, by have : sizT (.num n) = 1 := rfl; omega⟩
    have h0 := h 0 (by show 0 < 1; omega)
    show trF L (g + 1) k = _
    rw [Nat.add_zero] at h0
    have e : L.getD k noN = ⟨1, n, noT, 0, 0⟩ := h0
    rw [trF, if_pos (by rw [e]), e]
  | .ref s, k, f, _, h, hf => by
    obtain ⟨g, rfl⟩ : ∃ g, f = g + 1 := ⟨f - 1, by have : sizT (.ref s) = 1 := rfl; omega⟩
    have h0 := h 0 (by show 0 < 1; omega)
    show trF L (g + 1) k = _
    rw [Nat.add_zero] at h0
    have e : L.getD k noN = ⟨2, 0, s, 0, 0⟩ := h0
    rw [trF, if_neg (by rw [e]; show ¬ (2 : Int) = 1; omega), if_pos (by rw [e]), e]
  | .bin o a b, k, f, ⟨ho, ha, hb⟩, h, hf => by
    have hs : sizT (.bin o a b) = sizT a + sizT b + 1 := rfl
    have la := post_len a k
    have lb := post_len b (k + sizT a)
    have pa := siz_pos a
    have pb := siz_pos b
    obtain ⟨g, rfl⟩ : ∃ g, f = g + 1 := ⟨f - 1, by omega⟩
    have hp : post (.bin o a b) k = post a k ++ post b (k + sizT a) ++ [⟨o, 0, noT, ((k + sizT a - 1 : Nat) : Int), ((k + sizT a + sizT b - 1 : Nat) : Int)⟩] := rfl
    have e : L.getD (k + (sizT a + sizT b)) noN = ⟨o, 0, noT, ((k + sizT a - 1 : Nat) : Int), ((k + sizT a + sizT b - 1 : Nat) : Int)⟩ := by
      rw [h _ (by omega), hp, List.getD_eq_getElem?_getD, List.getElem?_append_right (by simp [la, lb])]
      simp [la, lb]
    have ia := tree_in (L := L) a k g ha (fun j hj => by
      rw [h j (by omega), hp, List.append_assoc, List.getD_eq_getElem?_getD, List.getElem?_append_left (by omega), ← List.getD_eq_getElem?_getD]) (by omega)
    have ib := tree_in (L := L) b (k + sizT a) g hb (fun j hj => by
      rw [Nat.add_assoc, h (sizT a + j) (by omega), hp, List.getD_eq_getElem?_getD, List.getElem?_append_left (by simp [la, lb]; omega), List.getElem?_append_right (by omega), ← List.getD_eq_getElem?_getD, la, Nat.add_sub_cancel_left]) (by omega)
    rw [hs, show k + (sizT a + sizT b + 1) - 1 = k + (sizT a + sizT b) by omega, trF, e]
    simp only
    rw [if_neg (by omega), if_neg (by omega), Int.toNat_natCast, Int.toNat_natCast, ia, ib]
theorem tree_post (t : Tre) (h : okT t) : treeOf (post t 0) ((post t 0).length - 1) = t := by
  have hl := post_len t 0
  have hp := siz_pos t
  unfold treeOf
  have e := tree_in (L := post t 0) t 0 (sizT t) h (fun j _ => by rw [Nat.zero_add]) (Nat.le_refl _)
  rw [Nat.zero_add] at e
  rw [hl, show sizT t - 1 + 1 = sizT t by omega]
  exact e
theorem noT_nil : noT.toList = [] := by rw [toL_nil]; rfl
theorem post_right : ∀ (t : Tre) (k j : Nat), okT t → j < sizT t → ndErr ((post t k).getD j noN) (k + j) = 0
  | .num n, k, j, h, hj => by
    have hj0 : j = 0 := by have : sizT (.num n) = 1 := rfl; omega
    subst hj0
    show ndErr ⟨1, n, noT, 0, 0⟩ _ = 0
    rw [nd1 h.1 h.2, if_pos ⟨noT_nil, rfl, rfl⟩]
  | .ref s, k, j, h, hj => by
    have hj0 : j = 0 := by have : sizT (.ref s) = 1 := rfl; omega
    subst hj0
    show ndErr ⟨2, 0, s, 0, 0⟩ _ = 0
    rw [nd2 h, if_pos ⟨rfl, rfl, rfl⟩]
  | .bin o a b, k, j, ⟨ho, ha, hb⟩, hj => by
    have hs : sizT (.bin o a b) = sizT a + sizT b + 1 := rfl
    have la := post_len a k
    have lb := post_len b (k + sizT a)
    have pa := siz_pos a
    have pb := siz_pos b
    have hp : post (.bin o a b) k = post a k ++ post b (k + sizT a) ++ [⟨o, 0, noT, ((k + sizT a - 1 : Nat) : Int), ((k + sizT a + sizT b - 1 : Nat) : Int)⟩] := rfl
    rw [hp]
    by_cases h1 : j < sizT a
    · rw [List.append_assoc, List.getD_eq_getElem?_getD, List.getElem?_append_left (by omega), ← List.getD_eq_getElem?_getD]
      exact post_right a k j ha h1
    by_cases h2 : j < sizT a + sizT b
    · rw [List.getD_eq_getElem?_getD, List.getElem?_append_left (by simp [la, lb]; omega), List.getElem?_append_right (by omega), ← List.getD_eq_getElem?_getD, la]
      have := post_right b (k + sizT a) (j - sizT a) hb (by omega)
      rw [show k + sizT a + (j - sizT a) = k + j by omega] at this
      exact this
    · have hj2 : j = sizT a + sizT b := by omega
      subst hj2
      rw [List.getD_eq_getElem?_getD, List.getElem?_append_right (by simp [la, lb])]
      simp only [List.length_append, la, lb, Nat.sub_self, List.getElem?_cons_zero, Option.getD_some]
      have ha2 : anyL (outI (k + (sizT a + sizT b))) [((k + sizT a - 1 : Nat) : Int), ((k + sizT a + sizT b - 1 : Nat) : Int)] = false := by
        simp [anyL, outI]
        omega
      rw [nd3 ho.1 ho.2 ha2, if_pos ⟨rfl, noT_nil⟩]
/-- how often nodes use a place -/
def usesSum (L : List Nd) (m : Nat) : Nat := (L.map fun x => uses x m).sum
theorem usedTo_sum (l : List Nd) (m : Nat) : ∀ k, k ≤ l.length → usedTo l k m = usesSum (l.take k) m
  | 0, _ => rfl
  | k + 1, hk => by
    rw [take_snoc l (by omega)]
    show usedTo l k m + uses (l.getD k noN) m = _
    rw [usedTo_sum l m k (by omega)]
    simp [usesSum]
theorem uses_post : ∀ (t : Tre) (k m : Nat), okT t → usesSum (post t k) m = if k ≤ m ∧ m + 1 < k + sizT t then 1 else 0
  | .num n, k, m, _ => by
    have hs : sizT (.num n) = 1 := rfl
    rw [if_neg (by omega)]
    rfl
  | .ref s, k, m, _ => by
    have hs : sizT (.ref s) = 1 := rfl
    rw [if_neg (by omega)]
    rfl
  | .bin o a b, k, m, ⟨ho, ha, hb⟩ => by
    have hs : sizT (.bin o a b) = sizT a + sizT b + 1 := rfl
    have pa := siz_pos a
    have pb := siz_pos b
    have e : usesSum (post (.bin o a b) k) m = usesSum (post a k) m + usesSum (post b (k + sizT a)) m + uses ⟨o, 0, noT, ((k + sizT a - 1 : Nat) : Int), ((k + sizT a + sizT b - 1 : Nat) : Int)⟩ m := by
      simp [usesSum, post]
      omega
    have eu : uses ⟨o, 0, noT, ((k + sizT a - 1 : Nat) : Int), ((k + sizT a + sizT b - 1 : Nat) : Int)⟩ m = (if ((k + sizT a - 1 : Nat) : Int) = (m : Int) then 1 else 0) + (if ((k + sizT a + sizT b - 1 : Nat) : Int) = (m : Int) then 1 else 0) := by
      unfold uses
      exact if_pos (show 2 < o by omega)
    rw [e, eu, uses_post a k m ha, uses_post b (k + sizT a) m hb, hs]
    have c1 : (((k + sizT a - 1 : Nat) : Int) = (m : Int)) ↔ k + sizT a - 1 = m := by omega
    have c2 : (((k + sizT a + sizT b - 1 : Nat) : Int) = (m : Int)) ↔ k + sizT a + sizT b - 1 = m := by omega
    simp only [c1, c2]
    (repeat' split) <;> omega
theorem form_post (t : Tre) (h : okT t) (h30 : sizT t ≤ 30) : formErr (post t 0) = 0 := by
  have hl := post_len t 0
  have hp := siz_pos t
  refine form_good (by omega) (by omega) (fun j hj => ?_) (fun j hj => ?_)
  · unfold badN
    have := post_right t 0 j h (by omega)
    rw [Nat.zero_add] at this
    rw [this]
    rfl
  · unfold oddN
    rw [usedTo_sum _ _ _ (Nat.le_refl _), List.take_length, uses_post t 0 j h, if_pos (by omega)]
    rfl

/-! how many nodes a tree has -/
def sumN (f : Nat → Nat) : Nat → Nat
  | 0 => 0
  | n + 1 => sumN f n + f n
theorem sum_same {f g : Nat → Nat} : ∀ n, (∀ i, i < n → f i = g i) → sumN f n = sumN g n
  | 0, _ => rfl
  | n + 1, h => by rw [sumN, sumN, sum_same n (fun i hi => h i (by omega)), h n (by omega)]
theorem sum_drop {f : Nat → Nat} {a : Nat} : ∀ n, a < n → sumN (fun i => if i = a then 0 else f i) n + f a = sumN f n
  | 0, h => by omega
  | n + 1, h => by
    by_cases e : a = n
    · subst e
      rw [sumN, sumN, if_pos rfl, sum_same a (g := f) (fun i hi => if_neg (by omega))]
      omega
    · rw [sumN, sumN, if_neg (by omega)]
      have := sum_drop (f := f) n (by omega : a < n)
      omega
theorem used_none {l : List Nd} (hl : RightL l) : ∀ k j, k ≤ l.length → k ≤ j + 1 → usedTo l k j = 0
  | 0, _, _, _ => rfl
  | k + 1, j, hk, hj => by
    show usedTo l k j + uses (l.getD k noN) j = 0
    rw [used_none hl k j (by omega) (by omega)]
    unfold uses
    split
    · rename_i h
      have := nd_sides (hl k (by omega)) h
      rw [if_neg (by omega), if_neg (by omega)]
    · rfl
theorem used_mono (l : List Nd) (j : Nat) : ∀ k m, k ≤ m → usedTo l k j ≤ usedTo l m j := by
  intro k m h
  induction m with
  | zero => have : k = 0 := by omega
            subst this; exact Nat.le_refl _
  | succ m ih =>
    by_cases e : k = m + 1
    · subst e; exact Nat.le_refl _
    · have := ih (by omega)
      show _ ≤ usedTo l m j + uses (l.getD m noN) j
      omega
theorem open_sum {l : List Nd} (hl : RightL l) (hu : ∀ j, j < l.length - 1 → usedTo l l.length j = 1) : ∀ k, k ≤ l.length → sumN (fun i => if usedTo l k i = 0 then sizT (treeOf l i) else 0) k = k
  | 0, _ => rfl
  | k + 1, hk => by
    have ih := open_sum hl hu k (by omega)
    have hnew : usedTo l (k + 1) k = 0 := used_none hl (k + 1) k hk (Nat.le_refl _)
    have ho := op_range (hl k (by omega))
    rw [sumN, if_pos hnew]
    by_cases h2 : (l.getD k noN).op ≤ 2
    · have hz : ∀ i, uses (l.getD k noN) i = 0 := fun i => by unfold uses; rw [if_neg (by omega)]
      have e : sumN (fun i => if usedTo l (k + 1) i = 0 then sizT (treeOf l i) else 0) k = sumN (fun i => if usedTo l k i = 0 then sizT (treeOf l i) else 0) k := by
        refine sum_same k fun i _ => ?_
        have : usedTo l (k + 1) i = usedTo l k i := by
          show usedTo l k i + uses (l.getD k noN) i = _
          rw [hz]; rfl
        simp only [this]
      have hs : sizT (treeOf l k) = 1 := by
        by_cases h1 : (l.getD k noN).op = 1
        · rw [tree_num h1]; rfl
        · rw [tree_ref (by omega)]; rfl
      omega
    · obtain ⟨a1, a2, a3, a4⟩ := nd_sides (hl k (by omega)) (by omega)
      obtain ⟨a, ha⟩ : ∃ a : Nat, (l.getD k noN).left = a := ⟨(l.getD k noN).left.toNat, by omega⟩
      obtain ⟨c, hc⟩ : ∃ c : Nat, (l.getD k noN).right = c := ⟨(l.getD k noN).right.toNat, by omega⟩
      have hus : ∀ i, usedTo l (k + 1) i = usedTo l k i + ((if a = i then 1 else 0) + (if c = i then 1 else 0)) := fun i => by
        show usedTo l k i + uses (l.getD k noN) i = _
        unfold uses
        rw [if_pos (by omega), ha, hc]
        have c1 : ((a : Int) = (i : Int)) ↔ a = i := by omega
        have c2 : ((c : Int) = (i : Int)) ↔ c = i := by omega
        simp only [c1, c2]
      have hmax : ∀ i, i < k → usedTo l (k + 1) i ≤ 1 := fun i hi => by
        have := used_mono l i (k + 1) l.length hk
        have := hu i (by omega)
        omega
      have hac : a ≠ c := fun e => by
        have h1 := hmax a (by omega)
        rw [hus a, if_pos rfl, if_pos e.symm] at h1
        omega
      have ua : usedTo l k a = 0 := by
        have h1 := hmax a (by omega)
        rw [hus a, if_pos rfl] at h1
        omega
      have uc : usedTo l k c = 0 := by
        have h1 := hmax c (by omega)
        rw [hus c, if_neg hac, if_pos rfl] at h1
        omega
      have hs : sizT (treeOf l k) = sizT (treeOf l a) + sizT (treeOf l c) + 1 := by
        rw [tree_bin hl (by omega) (by omega), ha, hc]
        rfl
      have d1 := sum_drop (f := fun i => if usedTo l k i = 0 then sizT (treeOf l i) else 0) (a := a) k (by omega)
      have d2 := sum_drop (f := fun i => if i = a then 0 else if usedTo l k i = 0 then sizT (treeOf l i) else 0) (a := c) k (by omega)
      simp only [if_pos ua] at d1
      simp only [if_neg (fun e : c = a => hac e.symm), if_pos uc] at d2
      have e : sumN (fun i => if usedTo l (k + 1) i = 0 then sizT (treeOf l i) else 0) k = sumN (fun i => if i = c then 0 else if i = a then 0 else if usedTo l k i = 0 then sizT (treeOf l i) else 0) k := by
        refine sum_same k fun i hi => ?_
        rw [hus i]
        by_cases e1 : i = c
        · subst e1
          rw [if_pos rfl, if_pos rfl, if_neg (by omega)]
        · by_cases e2 : i = a
          · subst e2
            rw [if_neg e1, if_pos rfl, if_pos rfl, if_neg (by omega)]
          · have e3 : usedTo l k i + ((if a = i then 1 else 0) + (if c = i then 1 else 0)) = usedTo l k i := by
              have x1 : (if a = i then 1 else 0) = 0 := if_neg (fun e => e2 e.symm)
              have x2 : (if c = i then 1 else 0) = 0 := if_neg (fun e => e1 e.symm)
              rw [x1, x2]; omega
            rw [e3, if_neg e1, if_neg e2]
      omega
theorem sum_last {f : Nat → Nat} : ∀ n, (∀ i, i < n → f i = 0) → sumN f (n + 1) = f n := by
  intro n h
  rw [sumN, sum_same n (g := fun _ => 0) h]
  have : ∀ m, sumN (fun _ => 0) m = 0 := by
    intro m
    induction m with
    | zero => rfl
    | succ m ih => rw [sumN, ih]
  rw [this]
  omega
/-- the tree of a formula that is right has all its nodes -/
theorem siz_tree {l : List Nd} (h : formErr l = 0) : sizT (treeOf l (l.length - 1)) = l.length := by
  obtain ⟨h1, h2, h3, h4⟩ := form_right h
  have hs := open_sum h3 h4 l.length (Nat.le_refl _)
  have hz := used_last h3 l.length (Nat.le_refl _)
  obtain ⟨n, hn⟩ : ∃ n, l.length = n + 1 := ⟨l.length - 1, by omega⟩
  rw [hn] at hs hz h4 ⊢
  rw [sum_last n (fun i hi => by rw [if_neg (by rw [h4 i (by omega)]; decide)])] at hs
  simp only [Nat.add_sub_cancel] at hz h4 ⊢
  rw [if_pos hz] at hs
  exact hs
/-- written and read again: nodes that are right, of the same tree, written the same -/
theorem back_print {l : List Nd} (h : formErr l = 0) (hs : (printT l).size ≤ 100) : prsE (printT l) = 0 ∧ prsL (printT l) = post (treeOf l (l.length - 1)) 0 ∧ formErr (prsL (printT l)) = 0 ∧ printT (prsL (printT l)) = printT l := by
  obtain ⟨h1, h2, h3, h4⟩ := form_right h
  have hk := ok_tree h3 (l.length - 1) (by omega)
  have hz := siz_tree h
  have hp := print_tree h
  obtain ⟨g1, g2⟩ := gone_tree _ hk
  have hf := form_post _ hk (by omega)
  have hE : prsE (printT l) = 0 := by
    unfold prsE
    rw [if_neg (by omega), hp, if_pos g1, g2]
    exact hf
  have hL : prsL (printT l) = post (treeOf l (l.length - 1)) 0 := by
    unfold prsL
    rw [if_pos hE, hp, g2]
  refine ⟨hE, hL, by rw [hL]; exact hf, ?_⟩
  rw [hL, print_tree hf, tree_post _ hk, hp]
end Go.Proofs.YtklfenojapgmnaeDoor

namespace Go.Proofs.YtklfenojapgmnaeDoor

section
variable (N : List ByteArray) (C : List (Int × Int))
def refC (s : ByteArray) : Int × Int := C.getD (whereS N s).toNat noC
def valT : Tre → Int × Int
  | .num n => ofP n
  | .ref s => refC N C s
  | .bin o a b => opP o (valT a) (valT b)
end
def refsT : Tre → List ByteArray
  | .num _ => []
  | .ref s => [s]
  | .bin _ a b => refsT a ++ refsT b
def missT (N : List ByteArray) (t : Tre) : Bool := (refsT t).any fun s => decide (whereS N s < 0)
def constT (t : Tre) : Bool := (refsT t).isEmpty
def swapT : Tre → Tre
  | .num n => .num n
  | .ref s => .ref s
  | .bin o a b => if o = 3 ∨ o = 5 then .bin o (swapT b) (swapT a) else .bin o (swapT a) (swapT b)
theorem swap_on {o : Int} (h : o = 3 ∨ o = 5) (a b : Tre) : swapT (.bin o a b) = .bin o (swapT b) (swapT a) := by rw [swapT, if_pos h]
theorem swap_off {o : Int} (h : ¬ (o = 3 ∨ o = 5)) (a b : Tre) : swapT (.bin o a b) = .bin o (swapT a) (swapT b) := by rw [swapT, if_neg h]
theorem swap_twice : ∀ t : Tre, swapT (swapT t) = t
  | .num _ => rfl
  | .ref _ => rfl
  | .bin o a b => by
    by_cases h : o = 3 ∨ o = 5
    · rw [swap_on h, swap_on h, swap_twice a, swap_twice b]
    · rw [swap_off h, swap_off h, swap_twice a, swap_twice b]
theorem swap_val (N : List ByteArray) (C : List (Int × Int)) : ∀ t : Tre, valT N C (swapT t) = valT N C t
  | .num _ => rfl
  | .ref _ => rfl
  | .bin o a b => by
    by_cases h : o = 3 ∨ o = 5
    · rw [swap_on h, valT, valT, swap_val N C a, swap_val N C b, opP_comm o h]
    · rw [swap_off h, valT, valT, swap_val N C a, swap_val N C b]
theorem swap_refs : ∀ (t : Tre) (s : ByteArray), s ∈ refsT (swapT t) ↔ s ∈ refsT t
  | .num _, _ => Iff.rfl
  | .ref _, _ => Iff.rfl
  | .bin o a b, s => by
    by_cases h : o = 3 ∨ o = 5
    · rw [swap_on h, refsT, refsT, List.mem_append, List.mem_append, swap_refs a, swap_refs b, or_comm]
    · rw [swap_off h, refsT, refsT, List.mem_append, List.mem_append, swap_refs a, swap_refs b]
theorem swap_ok : ∀ t : Tre, okT t → okT (swapT t)
  | .num _, h => h
  | .ref _, h => h
  | .bin o a b, ⟨ho, ha, hb⟩ => by
    by_cases h : o = 3 ∨ o = 5
    · rw [swap_on h]; exact ⟨ho, swap_ok b hb, swap_ok a ha⟩
    · rw [swap_off h]; exact ⟨ho, swap_ok a ha, swap_ok b hb⟩
theorem swap_siz : ∀ t : Tre, sizT (swapT t) = sizT t
  | .num _ => rfl
  | .ref _ => rfl
  | .bin o a b => by
    by_cases h : o = 3 ∨ o = 5
    · rw [swap_on h, sizT, sizT, swap_siz a, swap_siz b]; omega
    · rw [swap_off h, sizT, sizT, swap_siz a, swap_siz b]
theorem any_same {α : Type} {p : α → Bool} {a b : List α} (h : ∀ x, x ∈ a ↔ x ∈ b) : a.any p = b.any p := by
  rw [Bool.eq_iff_iff, List.any_eq_true, List.any_eq_true]
  exact ⟨fun ⟨x, h1, h2⟩ => ⟨x, (h x).1 h1, h2⟩, fun ⟨x, h1, h2⟩ => ⟨x, (h x).2 h1, h2⟩⟩
theorem nil_same {α : Type} {a b : List α} (h : ∀ x, x ∈ a ↔ x ∈ b) : a.isEmpty = b.isEmpty := by
  rw [Bool.eq_iff_iff, List.isEmpty_iff, List.isEmpty_iff, List.eq_nil_iff_forall_not_mem, List.eq_nil_iff_forall_not_mem]
  exact ⟨fun e x hx => e x ((h x).2 hx), fun e x hx => e x ((h x).1 hx)⟩
theorem swap_miss (N : List ByteArray) (t : Tre) : missT N (swapT t) = missT N t := any_same (swap_refs t)
theorem swap_const (t : Tre) : constT (swapT t) = constT t := nil_same (swap_refs t)
/-- without names it comes to the same whatever there is -/
theorem val_const (N N' : List ByteArray) (C C' : List (Int × Int)) : ∀ t : Tre, constT t = true → valT N C t = valT N' C' t
  | .num _, _ => rfl
  | .ref _, h => by cases h
  | .bin o a b, h => by
    unfold constT at h
    rw [refsT, List.isEmpty_iff, List.append_eq_nil_iff] at h
    rw [valT, valT, val_const N N' C C' a (by unfold constT; rw [h.1]; rfl), val_const N N' C C' b (by unfold constT; rw [h.2]; rfl)]
theorem miss_const (N : List ByteArray) (t : Tre) (h : constT t = true) : missT N t = false := by
  unfold constT at h
  unfold missT
  rw [List.isEmpty_iff.1 h]
  rfl
theorem val_ok (N : List ByteArray) {C : List (Int × Int)} (hC : ∀ c ∈ C, okC c) : ∀ t : Tre, okC (valT N C t)
  | .num n => okC_ofP n
  | .ref s => by
    rw [valT, refC, List.getD_eq_getElem?_getD]
    cases h : C[(whereS N s).toNat]? with
    | none => exact okC_no
    | some c => exact hC c (List.mem_of_getElem? h)
  | .bin o a b => opP_ok o _ _

/-! the names of a tree are those of the nodes -/
theorem refs_down {l : List Nd} (hl : RightL l) (s : ByteArray) : ∀ i, i < l.length → s ∈ refsT (treeOf l i) → ∃ j, j < l.length ∧ (l.getD j noN).op = 2 ∧ (l.getD j noN).name = s := by
  intro i
  induction i using Nat.strongRecOn with
  | _ i ih =>
    intro hi hs
    have ho := op_range (hl i hi)
    by_cases h1 : (l.getD i noN).op = 1
    · rw [tree_num h1] at hs; cases hs
    by_cases h2 : (l.getD i noN).op = 2
    · rw [tree_ref h2, refsT, List.mem_singleton] at hs
      exact ⟨i, hi, h2, hs.symm⟩
    · obtain ⟨a1, a2, a3, a4⟩ := nd_sides (hl i hi) (by omega)
      rw [tree_bin hl hi (by omega), refsT, List.mem_append] at hs
      rcases hs with hs | hs
      · exact ih _ (by omega) (by omega) hs
      · exact ih _ (by omega) (by omega) hs
theorem used_who {l : List Nd} (j : Nat) : ∀ k, 1 ≤ usedTo l k j → ∃ i, i < k ∧ 1 ≤ uses (l.getD i noN) j
  | 0, h => by cases h
  | k + 1, h => by
    by_cases h1 : 1 ≤ uses (l.getD k noN) j
    · exact ⟨k, Nat.lt_succ_self _, h1⟩
    · have h2 : 1 ≤ usedTo l k j + uses (l.getD k noN) j := h
      obtain ⟨i, hi, h3⟩ := used_who (l := l) j k (by omega)
      exact ⟨i, by omega, h3⟩
theorem refs_up {l : List Nd} (h : formErr l = 0) (s : ByteArray) : ∀ n j, l.length - j = n → j < l.length → s ∈ refsT (treeOf l j) → s ∈ refsT (treeOf l (l.length - 1)) := by
  obtain ⟨h1, h2, hl, h4⟩ := form_right h
  intro n
  induction n using Nat.strongRecOn with
  | _ n ih =>
    intro j hn hj hs
    by_cases e : j = l.length - 1
    · rw [← e]; exact hs
    obtain ⟨i, hi, hu⟩ := used_who (l := l) j l.length (by rw [h4 j (by omega)]; exact Nat.le_refl _)
    unfold uses at hu
    split at hu
    · rename_i hop
      obtain ⟨a1, a2, a3, a4⟩ := nd_sides (hl i hi) hop
      have hsi : s ∈ refsT (treeOf l i) := by
        rw [tree_bin hl hi hop, refsT, List.mem_append]
        by_cases e1 : (l.getD i noN).left = (j : Int)
        · left; rw [e1]; exact hs
        · by_cases e2 : (l.getD i noN).right = (j : Int)
          · right; rw [e2]; exact hs
          · rw [if_neg e1, if_neg e2] at hu; omega
      have hij : j < i := by
        by_cases e1 : (l.getD i noN).left = (j : Int)
        · omega
        · by_cases e2 : (l.getD i noN).right = (j : Int)
          · omega
          · rw [if_neg e1, if_neg e2] at hu; omega
      exact ih (l.length - i) (by omega) i rfl hi hsi
    · omega
theorem refs_mem {l : List Nd} (h : formErr l = 0) (s : ByteArray) : s ∈ refsT (treeOf l (l.length - 1)) ↔ ∃ j, j < l.length ∧ (l.getD j noN).op = 2 ∧ (l.getD j noN).name = s := by
  obtain ⟨h1, h2, hl, h4⟩ := form_right h
  refine ⟨refs_down hl s _ (by omega), fun ⟨j, hj, h2, h3⟩ => ?_⟩
  refine refs_up h s _ j rfl hj ?_
  rw [tree_ref h2, h3, refsT]
  exact List.mem_singleton.2 rfl
/-- a node that has a name that is none of the names -/
def missR (N : List ByteArray) (l : List Nd) (i : Nat) : Bool := decide ((l.getD i noN).op = 2) && decide (whereS N (l.getD i noN).name < 0)
theorem miss_yes {N : List ByteArray} {l : List Nd} (h : formErr l = 0) {i : Nat} (hi : i < l.length) (hm : missR N l i = true) : missT N (treeOf l (l.length - 1)) = true := by
  simp only [missR, Bool.and_eq_true, decide_eq_true_eq] at hm
  unfold missT
  rw [List.any_eq_true]
  exact ⟨_, (refs_mem h _).2 ⟨i, hi, hm.1, rfl⟩, decide_eq_true hm.2⟩
theorem miss_no {N : List ByteArray} {l : List Nd} (h : formErr l = 0) (hm : ∀ i, i < l.length → missR N l i = false) : missT N (treeOf l (l.length - 1)) = false := by
  rw [Bool.eq_false_iff]
  intro e
  unfold missT at e
  rw [List.any_eq_true] at e
  obtain ⟨s, h1, h2⟩ := e
  obtain ⟨j, hj, h3, h4⟩ := (refs_mem h s).1 h1
  have := hm j hj
  unfold missR at this
  rw [h4, h3] at this
  simp at this h2
  omega
/-- has it a name? -/
def refB (l : List Nd) (i : Nat) : Bool := decide ((l.getD i noN).op = 2)
theorem const_no {l : List Nd} (h : formErr l = 0) {i : Nat} (hi : i < l.length) (hm : refB l i = true) : constT (treeOf l (l.length - 1)) = false := by
  have := (refs_mem h _).2 ⟨i, hi, of_decide_eq_true hm, rfl⟩
  unfold constT
  cases e : refsT (treeOf l (l.length - 1)) with
  | nil => rw [e] at this; cases this
  | cons => rfl
theorem const_yes {l : List Nd} (h : formErr l = 0) (hm : ∀ i, i < l.length → refB l i = false) : constT (treeOf l (l.length - 1)) = true := by
  unfold constT
  rw [List.isEmpty_iff, List.eq_nil_iff_forall_not_mem]
  intro s hs
  obtain ⟨j, hj, h3, -⟩ := (refs_mem h s).1 hs
  have := hm j hj
  unfold refB at this
  rw [h3] at this
  cases this

/-! what Value, Swap and Const answer -/
def valE (l : List Nd) (N : List ByteArray) (C : List (Int × Int)) : Int := if formErr l ≠ 0 then formErr l else if ckErr N C ≠ 0 then ckErr N C else if missT N (treeOf l (l.length - 1)) = true then 5 else 0
def valC (l : List Nd) (N : List ByteArray) (C : List (Int × Int)) : Int × Int := if valE l N C = 0 then valT N C (treeOf l (l.length - 1)) else noC
def swpL (l : List Nd) : List Nd := if formErr l = 0 then post (swapT (treeOf l (l.length - 1))) 0 else []
def cstB (l : List Nd) : Bool := decide (formErr l = 0) && constT (treeOf l (l.length - 1))
theorem swp_form {l : List Nd} (h : formErr l = 0) : formErr (swpL l) = 0 ∧ treeOf (swpL l) ((swpL l).length - 1) = swapT (treeOf l (l.length - 1)) ∧ (swpL l).length = l.length := by
  obtain ⟨h1, h2, hl, h4⟩ := form_right h
  have hk := swap_ok _ (ok_tree hl (l.length - 1) (by omega))
  have hz := siz_tree h
  have hs := swap_siz (treeOf l (l.length - 1))
  unfold swpL
  rw [if_pos h]
  refine ⟨form_post _ hk (by omega), tree_post _ hk, ?_⟩
  rw [post_len]
  omega
/-- swapped it comes to the same -/
theorem swp_val {l : List Nd} (h : formErr l = 0) (N : List ByteArray) (C : List (Int × Int)) : valE (swpL l) N C = valE l N C ∧ valC (swpL l) N C = valC l N C := by
  obtain ⟨h1, h2, h3⟩ := swp_form h
  have e : valE (swpL l) N C = valE l N C := by unfold valE; rw [h1, h, h2, swap_miss]
  refine ⟨e, ?_⟩
  unfold valC
  rw [e, h2, swap_val]
/-- swapped twice it is written the same -/
theorem swp_twice {l : List Nd} (h : formErr l = 0) : formErr (swpL (swpL l)) = 0 ∧ printT (swpL (swpL l)) = printT l := by
  obtain ⟨h1, h2, h3⟩ := swp_form h
  obtain ⟨g1, g2, g3⟩ := swp_form h1
  refine ⟨g1, ?_⟩
  rw [print_tree g1, print_tree h, g2, h2, swap_twice]
/-- without names it comes to the same whatever there is -/
theorem cst_val {l : List Nd} (h : formErr l = 0) (hc : cstB l = true) (N : List ByteArray) (C : List (Int × Int)) : valE l [] [] = 0 ∧ (valE l N C = 0 → valC l [] [] = valC l N C) := by
  have hc2 : constT (treeOf l (l.length - 1)) = true := by simp [cstB] at hc; exact hc.2
  have e : valE l [] [] = 0 := by unfold valE; rw [h, ck_nil, miss_const _ _ hc2]; rfl
  refine ⟨e, fun e2 => ?_⟩
  unfold valC
  rw [if_pos e, if_pos e2]
  exact val_const _ _ _ _ _ hc2
/-- nodes of the same tree come to the same -/
theorem val_tree {l m : List Nd} (h : formErr l = 0) (hm : formErr m = 0) (ht : treeOf m (m.length - 1) = treeOf l (l.length - 1)) (N : List ByteArray) (C : List (Int × Int)) : valE m N C = valE l N C ∧ valC m N C = valC l N C := by
  have e : valE m N C = valE l N C := by unfold valE; rw [h, hm, ht]
  exact ⟨e, by unfold valC; rw [e, ht]⟩
/-- written and read again it comes to the same -/
theorem back_val {l : List Nd} (h : formErr l = 0) (hs : (printT l).size ≤ 100) (N : List ByteArray) (C : List (Int × Int)) : valE (prsL (printT l)) N C = valE l N C ∧ valC (prsL (printT l)) N C = valC l N C := by
  obtain ⟨h1, h2, h3, h4⟩ := back_print h hs
  obtain ⟨g1, g2, g3, -⟩ := form_right h
  refine val_tree h h3 ?_ N C
  rw [h2]
  exact tree_post _ (ok_tree g3 _ (by omega))
end Go.Proofs.YtklfenojapgmnaeDoor

namespace Go.Proofs.YtklfenojapgmnaeDoor
open Go.ChangeShapes Go.WideShapes Go.ChangeAt Go.RowKit
set_option maxRecDepth 20000

/-- what is told of the first k nodes -/
def toldL (N : List ByteArray) (C : List (Int × Int)) (l : List Nd) (k : Nat) : List (Int × Int) := (List.range k).map fun i => valT N C (treeOf l i)
section
variable {N : List ByteArray} {C : List (Int × Int)} {l : List Nd} {k i : Nat}
theorem told_len : (toldL N C l k).length = k := by simp [toldL]
theorem told_at (h : i < k) : (toldL N C l k).getD i noC = valT N C (treeOf l i) := by simp [toldL, List.getD, h]
theorem told_next : toldL N C l (k + 1) = toldL N C l k ++ [valT N C (treeOf l k)] := by simp [toldL, List.range_succ]
theorem told_ok (hC : ∀ c ∈ C, okC c) : ∀ c ∈ toldL N C l k, okC c := by
  intro c hc
  simp only [toldL, List.mem_map] at hc
  obtain ⟨i, -, rfl⟩ := hc
  exact val_ok N hC _
/-- the next is told right -/
theorem one_next (hl : RightL l) (hk : k < l.length) (hm : missR N l k = false) : oneC N C (toldL N C l k) (l.getD k noN) = valT N C (treeOf l k) ∧ oneE N (l.getD k noN) = 0 := by
  have ho := op_range (hl k hk)
  by_cases h1 : (l.getD k noN).op = 1
  · obtain ⟨e1, e2⟩ := one_num (N := N) (C := C) (T := toldL N C l k) h1
    rw [e1, e2, tree_num h1]
    exact ⟨rfl, rfl⟩
  by_cases h2 : (l.getD k noN).op = 2
  · obtain ⟨e1, e2⟩ := one_ref (N := N) (C := C) (T := toldL N C l k) h2
    unfold missR at hm
    rw [decide_eq_true h2, Bool.true_and] at hm
    have hw := of_decide_eq_false hm
    rw [e1, e2, tree_ref h2]
    unfold isC isE
    rw [if_pos (by omega), if_pos (by omega)]
    exact ⟨rfl, rfl⟩
  · obtain ⟨e1, e2⟩ := one_bin (N := N) (C := C) (T := toldL N C l k) (x := l.getD k noN) (by omega)
    obtain ⟨a1, a2, a3, a4⟩ := nd_sides (hl k hk) (by omega)
    rw [e1, e2, tree_bin hl hk (by omega), told_at (by omega), told_at (by omega)]
    exact ⟨rfl, rfl⟩
theorem one_miss (hm : missR N l k = true) : oneE N (l.getD k noN) = 5 := by
  simp only [missR, Bool.and_eq_true, decide_eq_true_eq] at hm
  rw [(one_ref (N := N) (C := []) (T := []) hm.1).2]
  unfold isE
  rw [if_neg (by omega)]
end

theorem cel_own {w : World} {base : Nat} {v : Value} {T : List (Int × Int)} (h : w.ownsRow base 28 2 v T.length (cellsC T)) : ∃ A c, v = .slice A T.length c ∧ CelV w A c T := by
  by_cases h0 : 0 < T.length
  · obtain ⟨g, c, rfl, -, h1, h2, h3⟩ := celB_own h h0
    exact ⟨_, _, rfl, h1, h2, Or.inr ⟨g, 0, rfl, h3.celAt⟩⟩
  · have hT : T = [] := List.eq_nil_of_length_eq_zero (by omega)
    subst hT
    rcases h.2 with ⟨rfl, _⟩ | ⟨g, cap, cur, rfl, hb, hg, h4, h5, h6, h7⟩
    · exact ⟨none, 0, rfl, CelV.nil _ _ _ (by omega)⟩
    · exact ⟨_, _, rfl, CelV.nil _ _ _ (by unfold maxLen at h5; omega)⟩
theorem news2 {w : World} {n : Nat} (hn : w.heap.size = n) (c : Int × Int) : ∀ j u, (cellsC [c])[j]? = some u → (w.alloc (.cells #[.int .i64 c.1, .int .i64 c.2] 28)).cell? ((⟨n, 0, none⟩ : Addr).add j) = some u := by
  subst hn
  exact World.news_of_block (cs := #[.int .i64 c.1, .int .i64 c.2]) (t := 28) (fr := (0, 0)) (heap_alloc_new _ _)
theorem AskN.later {fn q r : Nat} {w w' : World} {N : List ByteArray} {C : List (Int × Int)} (h : AskN fn q r w N C) (hB : Below w.heap.size w w') : AskN fn q r w' N C := fun x w'' hb => h x w'' (onB hB hb)

set_option maxHeartbeats 4000000 in
theorem comes_any (fn q r : Nat) (hent : ∀ (args : Array Value) (w : World), (callFunc fn args).run Tryd.prog w = .ok (.enter fn args) w) (N : List ByteArray) (C : List (Int × Int)) (A : Option Addr) (cap : Nat) (l : List Nd) (w : World) (hN : NdsV w A cap l) (hl : formErr l = 0) (hC : ∀ c ∈ C, okC c) (hask : AskN fn q r w N C) :
    Calls Tryd.prog 24 #[.slice A l.length cap, .func (.func fn) #[] #[.pointer (some ⟨q, 0, none⟩), .pointer (some ⟨r, 0, none⟩)]] w fun e w' => e = .returned (.tuple #[.agg #[.int .i64 (if missT N (treeOf l (l.length - 1)) = true then noC else valT N C (treeOf l (l.length - 1))).1, .int .i64 (if missT N (treeOf l (l.length - 1)) = true then noC else valT N C (treeOf l (l.length - 1))).2], errV (if missT N (treeOf l (l.length - 1)) = true then 5 else 0)]) ∧ Below w.heap.size w w' := by
  obtain ⟨i0, hi0, hz0, hz1, hz2⟩ := info_parts Tryd.infoCe
  obtain ⟨hp, h30, hg, -⟩ := form_right hl
  obtain ⟨-, -, h1 | ⟨b, o, rfl, hNA⟩⟩ := hN
  · rw [h1] at hp; simp at hp
  obtain ⟨R, hR⟩ : ∃ R, (if missT N (treeOf l (l.length - 1)) = true then noC else valT N C (treeOf l (l.length - 1))) = R := ⟨_, rfl⟩
  obtain ⟨E, hE⟩ : ∃ E : Int, (if missT N (treeOf l (l.length - 1)) = true then 5 else 0) = E := ⟨_, rfl⟩
  have HMiss : Hid (∀ i, i < l.length → missR N l i = true → R = noC ∧ E = 5) := fun i hi hm => by
    rw [← hR, ← hE, if_pos (miss_yes hl hi hm), if_pos (miss_yes hl hi hm)]
    exact ⟨rfl, rfl⟩
  have HGood : Hid ((∀ i, i < l.length → missR N l i = false) → R = valT N C (treeOf l (l.length - 1)) ∧ E = 0) := fun hm => by
    rw [← hR, ← hE, miss_no hl hm]
    exact ⟨rfl, rfl⟩
  rw [hR, hE]
  have HN : Hid (NdsAt w b o l) := hNA
  have HL : Hid (RightL l) := hg
  have HC : Hid (∀ c ∈ C, okC c) := hC
  have HA : Hid (AskN fn q r w N C) := hask
  have HEnt : Hid (∀ (args : Array Value) (w : World), (callFunc fn args).run Tryd.prog w = .ok (.enter fn args) w) := hent
  obtain ⟨n, hn⟩ : ∃ n, l.length = n := ⟨_, rfl⟩
  have HLn : Hid (l.length = n) := hn
  rw [hn] at h30 hp ⊢
  have hni : (n : Int) ≤ 30 := by omega
  have hn0 : 0 < (n : Int) := by omega
  clear hl hNA hC hask hg hR hE hn hent
  go_enter Tryd.func24, Tryd.ntmps24
  obtain ⟨W0, hW0⟩ : ∃ W0, w.alloc (.cells #[.int .i64 0, .int .i64 0] 28) = W0 := ⟨_, rfl⟩
  have hsW : W0.heap.size = w.heap.size + 1 := by rw [← hW0]; simp
  have hBW : Below w.heap.size w W0 := by rw [← hW0]; exact (Below.refl _ _).alloc (Nat.le_refl _) _
  have HBW : Hid (Below w.heap.size w W0) := hBW
  have hA0 : W0.heap[w.heap.size]? = some (.cells #[.int .i64 0, .int .i64 0] 28 (0, 0)) := by rw [← hW0]; exact heap_alloc_new _ _
  have HA0 : Hid (W0.heap[w.heap.size]? = some (.cells #[.int .i64 0, .int .i64 0] 28 (0, 0))) := hA0
  have HSW : Hid (W0.heap.size = w.heap.size + 1) := hsW
  clear hBW hA0 hsW
  go_wp2_with (at_make; refine wpList_make_own _ rfl _ _ 24 rfl (w.heap.size + 1) 28 i0 _ 2 Tryd.underlying24 hi0 hz0 hz1 _ _ _ n rfl rfl rfl ?qb1 ?qb2 ?qb3 ?_)
  case qb1 => rw [hz2]; omega
  case qb2 => unfold maxLen; omega
  case qb3 => rw [HSW.out]; exact Nat.le_refl _
  intro w1 hown1 hgrow1
  have hB1 : Below W0.heap.size W0 w1 := ⟨hgrow1.os, hgrow1.tape, hgrow1.output, hgrow1.size, fun k hk => hgrow1.block k hk (by simp)⟩
  have HB1 : Hid (Below W0.heap.size W0 w1) := hB1
  have HO1 := hid_of hown1
  clear hown1 hgrow1 hB1 hW0
  go_wp2_with fail
  go_loopg [6, 16] n (fun g s6 s16 wr => ∃ (k : Nat), k ≤ n ∧ g = n - k ∧ s16 = .int .i64 k ∧ wr.ownsRow (w.heap.size + 1) 28 2 s6 (toldL N C l k).length (cellsC (toldL N C l k)) ∧ (∀ j, j < k → missR N l j = false) ∧ Below W0.heap.size W0 wr)
  case atStart => exact ⟨0, Nat.zero_le _, rfl, rfl, HO1.out, fun j hj => absurd hj (Nat.not_lt_zero j), HB1.out⟩
  case round =>
    obtain ⟨k, hk, rfl, rfl, hown, hms, hBw⟩ := hrel
    obtain ⟨At, ct, rfl, hCel⟩ := cel_own hown
    have HO : Hid (wr.ownsRow (w.heap.size + 1) 28 2 (.slice At (toldL N C l k).length ct) (toldL N C l k).length (cellsC (toldL N C l k))) := hown
    have HMs : Hid (∀ j, j < k → missR N l j = false) := hms
    have HW : Hid (Below W0.heap.size W0 wr) := hBw
    have HCel : Hid (CelV wr At ct (toldL N C l k)) := hCel
    have HBr : Hid (Below w.heap.size w wr) := onB HBW.out hBw
    have hsz := hBw.size
    clear hown hms hBw hCel
    by_cases hlt : k < n
    · have hki : (k : Int) < (n : Int) := by omega
      obtain ⟨x0, x1, x2, x3, x4⟩ := (HN.out.later HBr.out).nd (k := k) (by rw [HLn.out]; exact hlt)
      have hbl : b < w.heap.size := HN.out.1
      have hgk := HL.out k (by rw [HLn.out]; exact hlt)
      have hone := fun w' (hb : Below wr.heap.size wr w') => rkone_any fn q r HEnt.out N C (toldL N C l k) At ct (l.getD k noN) w' (by rw [told_len]; exact hgk) (by rw [told_len]; omega) (HCel.out.later hb) (told_ok HC.out) (HA.out.later (onB HBr.out hb))
      rw [told_len] at hone ⊢
      obtain ⟨x, hx⟩ : ∃ x, l.getD k noN = x := ⟨_, rfl⟩
      have HX : Hid (l.getD k noN = x) := hx
      rw [hx] at x0 x1 x2 x3 x4 hone
      rw [ndV_def] at hone
      clear hx hgk
      cases hm : missR N l k
      · obtain ⟨e1, e2⟩ := one_next (C := C) HL.out (by rw [HLn.out]; exact hlt) hm
        rw [HX.out] at e1 e2
        rw [e1, e2, errV_zero] at hone
        obtain ⟨c, hc⟩ : ∃ c, valT N C (treeOf l k) = c := ⟨_, rfl⟩
        have HCv : Hid (valT N C (treeOf l k) = c) := hc
        have HM : Hid (missR N l k = false) := hm
        rw [hc] at hone
        clear e1 e2 hc hm
        go_wp2_with fail
        refine (hone _ (by go_grown)).mono ?_
        rintro e w2 ⟨rfl, hb2⟩
        have hb3 : Below wr.heap.size wr w2 := onB (by go_grown) hb2
        have HB3 : Hid (Below W0.heap.size W0 w2) := onB HW.out hb3
        have HO3 : Hid (w2.ownsRow (w.heap.size + 1) 28 2 (.slice At k ct) k (cellsC (toldL N C l k))) := by have h := own_later HO.out hb3; rw [told_len] at h; exact h
        have hz2' := hb3.size
        clear hb2 hb3 hone
        go_wp2_with (at_builtin; refine wpList_append_own _ rfl _ _ 24 rfl (w.heap.size + 1) 28 i0 _ 2 16 Tryd.underlying24 hi0 hz0 hz1 hz2 rfl (by decide) _ k _ rfl (own_later HO3.out ?qc0) ⟨w2.heap.size + 1, 0, none⟩ 1 1 (cellsC [c]) rfl rfl ?qc1 (cellsC_one _) ?qc2 ?qc3 ?qc4 ?_)
        case qc0 => go_grown
        case qc1 => exact news2 (by simp) c
        case qc2 => unfold maxLen; omega
        case qc3 => omega
        case qc4 => have := HSW.out; simp; omega
        intro v4 w4 hown4 hgrow4 _
        have HB4 : Hid (Below W0.heap.size W0 w4) := ((HB3.out.alloc HB3.out.size _).alloc (by have := HB3.out.size; simp; omega) _).grown hgrow4 (by have := HB3.out.size; simp; omega) (fun j hj => by have h1 := (HO3.out.lt j hj).1; have h2 := HSW.out; omega)
        have HO4 : Hid (w4.ownsRow (w.heap.size + 1) 28 2 v4 (toldL N C l (k + 1)).length (cellsC (toldL N C l (k + 1)))) := by
          show World.ownsRow ..
          rw [told_next, cellsC_append, List.length_append, told_len, HCv.out]
          exact hown4
        clear hown4 hgrow4
        go_wp2_with fail
        go_roundg (n - (k + 1))
        case measure => omega
        case rel => exact ⟨k + 1, by omega, rfl, by go_num, HO4.out, fun j hj => by rcases Nat.lt_succ_iff_lt_or_eq.1 hj with h | h; exact HMs.out j h; rw [h]; exact HM.out, HB4.out⟩
      · have e2 := one_miss (N := N) (l := l) (k := k) hm
        rw [HX.out] at e2
        rw [e2, errV_some (by decide)] at hone
        obtain ⟨hR, hE⟩ := HMiss.out k (by rw [HLn.out]; exact hlt) hm
        have HR : Hid (R = noC) := hR
        have HE : Hid (E = 5) := hE
        obtain ⟨c, hc⟩ : ∃ c, oneC N C (toldL N C l k) x = c := ⟨_, rfl⟩
        rw [hc] at hone
        clear e2 hc hm hR hE
        go_wp2_with fail
        refine (hone _ (by go_grown)).mono ?_
        rintro e w2 ⟨rfl, hb2⟩
        have hb3 : Below wr.heap.size wr w2 := onB (by go_grown) hb2
        have HB3 : Hid (Below W0.heap.size W0 w2) := onB HW.out hb3
        have hz2' := hb3.size
        have hr := (HB3.out.block w.heap.size (by have := HSW.out; omega)).trans HA0.out
        have r1 : w.heap.size < w2.heap.size := (Array.getElem?_eq_some_iff.1 hr).1
        have r2 : w2.cell? ⟨w.heap.size, 0, none⟩ = some (.int .i64 0) := by simp [World.cell?, hr]
        have r3 : w2.cell? ⟨w.heap.size, 1, none⟩ = some (.int .i64 0) := by simp [World.cell?, hr]
        have rf0 : w2.frozen? ⟨w.heap.size, 0, none⟩ = false := by simp [World.frozen?, hr]
        have rf1 : w2.frozen? ⟨w.heap.size, 1, none⟩ = false := by simp [World.frozen?, hr]
        clear hr
        clear hb2 hb3 hone
        go_wp2_with fail
        refine bodyPost_ret (v := .tuple #[.agg #[.int .i64 R.1, .int .i64 R.2], errV E]) (by rw [HR.out, HE.out]; simp [results, Tryd.results24, go_sem, r2, r3, r1, noC, errV_some]) rfl ⟨rfl, ?_⟩
        have hf := onB HBW.out HB3.out
        first | exact ((hf.setCell (Nat.le_refl _) _).setCell (Nat.le_refl _) _).alloc (by have := hf.size; simp; omega) _ | exact (((hf.alloc hf.size _).setCell (Nat.le_refl _) _).setCell (Nat.le_refl _) _)
    · have hke : k = n := by omega
      subst hke
      obtain ⟨hR, hE⟩ := HGood.out (fun i hi => HMs.out i (by rw [← HLn.out]; exact hi))
      have HE : Hid (E = 0) := hE
      have hkk : (toldL N C l k).length = k := told_len
      obtain ⟨-, -, h0 | ⟨g, og, rfl, hCA⟩⟩ := HCel.out
      · rw [h0] at hkk; simp at hkk; omega
      obtain ⟨y0, y1⟩ := hCA.2 (k - 1) (by rw [told_len]; omega)
      have hgl := hCA.1
      rw [told_at (by omega)] at y0 y1
      rw [HLn.out] at hR
      rw [← hR] at y0 y1
      have hr := (HW.out.block w.heap.size (by have := HSW.out; omega)).trans HA0.out
      have r1 : w.heap.size < wr.heap.size := (Array.getElem?_eq_some_iff.1 hr).1
      have r2 : wr.cell? ⟨w.heap.size, 0, none⟩ = some (.int .i64 0) := by simp [World.cell?, hr]
      have r3 : wr.cell? ⟨w.heap.size, 1, none⟩ = some (.int .i64 0) := by simp [World.cell?, hr]
      have rf0 : wr.frozen? ⟨w.heap.size, 0, none⟩ = false := by simp [World.frozen?, hr]
      have rf1 : wr.frozen? ⟨w.heap.size, 1, none⟩ = false := by simp [World.frozen?, hr]
      obtain ⟨m, hm⟩ : ∃ m, k - 1 = m := ⟨_, rfl⟩
      rw [hm] at y0 y1
      have hsub : (k : Int) - 1 = (m : Int) := by omega
      have hmk : (m : Int) < (k : Int) := by omega
      rw [hkk]
      clear hr hCA hR hE hkk hm
      go_wp2_with fail
      refine bodyPost_ret (v := .tuple #[.agg #[.int .i64 R.1, .int .i64 R.2], errV E]) (by rw [HE.out]; simp [results, Tryd.results24, go_sem, r2, r3, errV_zero]) rfl ⟨rfl, ?_⟩
      exact (HBr.out.setCell (Nat.le_refl _) _).setCell (Nat.le_refl _) _
end Go.Proofs.YtklfenojapgmnaeDoor


namespace Go.Proofs.YtklfenojapgmnaeDoor
open Go.ChangeShapes Go.WideShapes Go.ChangeAt Go.RowKit
set_option maxRecDepth 20000

theorem ent_value1 (args : Array Value) (w : World) : (callFunc 25 args).run Tryd.prog w = .ok (.enter 25 args) w := by simp [go_sem]
theorem val_form {l : List Nd} {N : List ByteArray} {C : List (Int × Int)} (h : formErr l ≠ 0) : valE l N C = formErr l ∧ valC l N C = noC := by
  have e : valE l N C = formErr l := by unfold valE; rw [if_pos h]
  exact ⟨e, by unfold valC; rw [e, if_neg h]⟩
theorem val_ck {l : List Nd} {N : List ByteArray} {C : List (Int × Int)} (h : formErr l = 0) (h1 : ckErr N C ≠ 0) : valE l N C = ckErr N C ∧ valC l N C = noC := by
  have e : valE l N C = ckErr N C := by unfold valE; rw [if_neg (by simpa using h), if_pos h1]
  exact ⟨e, by unfold valC; rw [e, if_neg h1]⟩
theorem val_all {l : List Nd} {N : List ByteArray} {C : List (Int × Int)} (h : formErr l = 0) (h1 : ckErr N C = 0) : valE l N C = (if missT N (treeOf l (l.length - 1)) = true then 5 else 0) ∧ valC l N C = (if missT N (treeOf l (l.length - 1)) = true then noC else valT N C (treeOf l (l.length - 1))) := by
  have e : valE l N C = (if missT N (treeOf l (l.length - 1)) = true then 5 else 0) := by unfold valE; rw [if_neg (by simpa using h), if_neg (by simpa using h1)]
  refine ⟨e, ?_⟩
  unfold valC
  rw [e]
  cases missT N (treeOf l (l.length - 1))
  · rfl
  · rfl

set_option maxHeartbeats 4000000 in
theorem value_any (A : Option Addr) (cap : Nat) (l : List Nd) (An : Option Addr) (cn : Nat) (N : List ByteArray) (Ac : Option Addr) (cc : Nat) (C : List (Int × Int)) (w : World) (hL : NdsV w A cap l) (hN : NmV w An cn N) (hC : CelV w Ac cc C) :
    Calls Tryd.prog 10 #[.slice A l.length cap, .slice An N.length cn, .slice Ac C.length cc] w fun e w' => e = .returned (.tuple #[.agg #[.int .i64 (valC l N C).1, .int .i64 (valC l N C).2], errV (valE l N C)]) ∧ Below w.heap.size w w' := by
  have hck := fun w' (hb : Below w.heap.size w w') => fchk_any A cap l w' (hL.later hb)
  by_cases h0 : formErr l = 0
  case neg =>
    obtain ⟨e1, e2⟩ := val_form (N := N) (C := C) h0
    rw [e1, e2]
    rw [errV_some h0] at hck ⊢
    unfold noC
    clear h0 e1 e2 hL hN hC
    go_enter Tryd.func10, Tryd.ntmps10
    go_wp2_with fail
    refine (hck _ (by go_grown)).mono ?_
    rintro e w1 ⟨rfl, hb1⟩
    have HB1 : Hid (Below w.heap.size w w1) := onB (by go_grown) hb1
    obtain ⟨hbc, hbf⟩ := bcell hb1
    have hz := bsize hb1
    simp at hz
    clear hb1 hck
    go_wp2_with fail
    refine bodyPost_ret (v := .tuple #[.agg #[.int .i64 0, .int .i64 0], .iface 58 (.int .i64 (formErr l))]) (by simp [results, Tryd.results10, go_sem, hbc]) rfl ⟨rfl, ?_⟩
    exact (HB1.out.setCell (by simp; omega) _).setCell (by simp; omega) _
  rw [h0, errV_zero] at hck
  have hrk := fun w' (hb : Below w.heap.size w w') => rkcheck_any An cn N Ac cc C w' (hN.later hb) (hC.later hb)
  obtain ⟨W, hW⟩ : ∃ W, ((w.alloc (.cells #[.slice An N.length cn] 23)).alloc (.cells #[.slice Ac C.length cc] 24)).alloc (.cells #[.int .i64 0, .int .i64 0] 28) = W := ⟨_, rfl⟩
  have hBW : Below w.heap.size w W := by rw [← hW]; go_grown
  have w0 : W.heap[w.heap.size]? = some (.cells #[.slice An N.length cn] 23 (0, 0)) := by rw [← hW, heap_alloc_old _ _ (by simp; omega), topF0]
  have w1 : W.heap[w.heap.size + 1]? = some (.cells #[.slice Ac C.length cc] 24 (0, 0)) := by rw [← hW, heap_alloc_old _ _ (by simp), topF1]
  have q0 : W.cell? ⟨w.heap.size, 0, none⟩ = some (.slice An N.length cn) := by simp [World.cell?, w0]
  have q1 : W.cell? ⟨w.heap.size + 1, 0, none⟩ = some (.slice Ac C.length cc) := by simp [World.cell?, w1]
  have hsW : W.heap.size = w.heap.size + 3 := by rw [← hW]; simp
  have HBW : Hid (Below w.heap.size w W) := hBW
  have HSW : Hid (W.heap.size = w.heap.size + 3) := hsW
  have hres : W.heap[w.heap.size + 1 + 1]? = some (.cells #[.int .i64 0, .int .i64 0] 28 (0, 0)) := by
    have h := heap_alloc_new ((w.alloc (.cells #[.slice An N.length cn] 23)).alloc (.cells #[.slice Ac C.length cc] 24)) (.cells #[.int .i64 0, .int .i64 0] 28)
    rw [hW] at h
    simpa using h
  have HRes : Hid (W.heap[w.heap.size + 1 + 1]? = some (.cells #[.int .i64 0, .int .i64 0] 28 (0, 0))) := hres
  have HQ0 := hid_of q0
  have HQ1 := hid_of q1
  by_cases h1 : ckErr N C = 0
  case neg =>
    obtain ⟨e1, e2⟩ := val_ck h0 h1
    rw [e1, e2]
    rw [errV_some h1] at hrk ⊢
    unfold noC
    clear h0 h1 e1 e2 hL hN hC hBW q0 q1 hsW hres w0 w1
    go_enter Tryd.func10, Tryd.ntmps10
    go_wp2_with fail
    refine (hck _ HBW.out).mono ?_
    rintro e w1 ⟨rfl, hb1⟩
    have HB1 : Hid (Below W.heap.size W w1) := hb1
    have p1 := (hb1.cell (p := ⟨w.heap.size, 0, none⟩) (by have := HSW.out; simp; omega)).trans HQ0.out
    have p2 := (hb1.cell (p := ⟨w.heap.size + 1, 0, none⟩) (by have := HSW.out; simp; omega)).trans HQ1.out
    clear hb1 hck hW
    go_wp2_with fail
    refine (hrk _ (onB HBW.out HB1.out)).mono ?_
    rintro e w3 ⟨rfl, hb3⟩
    have HB3 : Hid (Below W.heap.size W w3) := onB HB1.out hb3
    have hr := (HB3.out.block (w.heap.size + 1 + 1) (by have := HSW.out; omega)).trans HRes.out
    have r1 : w.heap.size + 1 + 1 < w3.heap.size := (Array.getElem?_eq_some_iff.1 hr).1
    have r2 : w3.cell? ⟨w.heap.size + 1 + 1, 0, none⟩ = some (.int .i64 0) := by simp [World.cell?, hr]
    have r3 : w3.cell? ⟨w.heap.size + 1 + 1, 1, none⟩ = some (.int .i64 0) := by simp [World.cell?, hr]
    have rf0 : w3.frozen? ⟨w.heap.size + 1 + 1, 0, none⟩ = false := by simp [World.frozen?, hr]
    have rf1 : w3.frozen? ⟨w.heap.size + 1 + 1, 1, none⟩ = false := by simp [World.frozen?, hr]
    clear hb3 hr hrk p1 p2
    go_wp2_with fail
    refine bodyPost_ret (v := .tuple #[.agg #[.int .i64 0, .int .i64 0], .iface 58 (.int .i64 (ckErr N C))]) (by simp [results, Tryd.results10, go_sem, r2, r3]) rfl ⟨rfl, ?_⟩
    exact ((onB HBW.out HB3.out).setCell (by simp; omega) _).setCell (by simp; omega) _
  obtain ⟨e1, e2⟩ := val_all h0 h1
  rw [e1, e2]
  rw [h1, errV_zero] at hrk
  have HCm : Hid (∀ w', Below W.heap.size W w' → Calls Tryd.prog 24 #[.slice A l.length cap, .func (.func 25) #[] #[.pointer (some ⟨w.heap.size, 0, none⟩), .pointer (some ⟨w.heap.size + 1, 0, none⟩)]] w' fun e w'' => e = .returned (.tuple #[.agg #[.int .i64 (if missT N (treeOf l (l.length - 1)) = true then noC else valT N C (treeOf l (l.length - 1))).1, .int .i64 (if missT N (treeOf l (l.length - 1)) = true then noC else valT N C (treeOf l (l.length - 1))).2], errV (if missT N (treeOf l (l.length - 1)) = true then 5 else 0)]) ∧ Below w'.heap.size w' w'') := by
    intro w' hb
    refine comes_any 25 w.heap.size (w.heap.size + 1) ent_value1 N C A cap l w' (hL.later (onB hBW hb)) h0 (ck_ok h1) ?_
    intro x w'' hb2
    have hbb := onB hb hb2
    exact value1_any w.heap.size (w.heap.size + 1) An cn N Ac cc C x w'' ((hbb.cell (p := ⟨w.heap.size, 0, none⟩) (by simp; omega)).trans q0) ((hbb.cell (p := ⟨w.heap.size + 1, 0, none⟩) (by simp; omega)).trans q1) (hN.later (onB hBW hbb)) (hC.later (onB hBW hbb)) h1
  obtain ⟨R, hR⟩ : ∃ R, (if missT N (treeOf l (l.length - 1)) = true then noC else valT N C (treeOf l (l.length - 1))) = R := ⟨_, rfl⟩
  obtain ⟨E, hE⟩ : ∃ E, errV (if missT N (treeOf l (l.length - 1)) = true then 5 else 0) = E := ⟨_, rfl⟩
  rw [hR, hE] at HCm ⊢
  clear h0 h1 e1 e2 hL hN hC hR hE hBW q0 q1 hsW hres w0 w1
  go_enter Tryd.func10, Tryd.ntmps10
  go_wp2_with fail
  refine (hck _ HBW.out).mono ?_
  rintro e w1 ⟨rfl, hb1⟩
  have HB1 : Hid (Below W.heap.size W w1) := hb1
  have p1 := (hb1.cell (p := ⟨w.heap.size, 0, none⟩) (by have := HSW.out; simp; omega)).trans HQ0.out
  have p2 := (hb1.cell (p := ⟨w.heap.size + 1, 0, none⟩) (by have := HSW.out; simp; omega)).trans HQ1.out
  clear hb1 hck hW
  go_wp2_with fail
  refine (hrk _ (onB HBW.out HB1.out)).mono ?_
  rintro e w2 ⟨rfl, hb2⟩
  have HB2 : Hid (Below W.heap.size W w2) := onB HB1.out hb2
  clear hb2 hrk p1 p2
  go_wp2_with fail
  refine (HCm.out _ HB2.out).mono ?_
  rintro e w3 ⟨rfl, hb3⟩
  have HB3 : Hid (Below W.heap.size W w3) := onB HB2.out hb3
  have hr := (HB3.out.block (w.heap.size + 1 + 1) (by have := HSW.out; omega)).trans HRes.out
  have r1 : w.heap.size + 1 + 1 < w3.heap.size := (Array.getElem?_eq_some_iff.1 hr).1
  have r2 : w3.cell? ⟨w.heap.size + 1 + 1, 0, none⟩ = some (.int .i64 0) := by simp [World.cell?, hr]
  have r3 : w3.cell? ⟨w.heap.size + 1 + 1, 1, none⟩ = some (.int .i64 0) := by simp [World.cell?, hr]
  have rf0 : w3.frozen? ⟨w.heap.size + 1 + 1, 0, none⟩ = false := by simp [World.frozen?, hr]
  have rf1 : w3.frozen? ⟨w.heap.size + 1 + 1, 1, none⟩ = false := by simp [World.frozen?, hr]
  clear hb3 hr
  go_wp2_with fail
  refine bodyPost_ret (v := .tuple #[.agg #[.int .i64 R.1, .int .i64 R.2], E]) (by simp [results, Tryd.results10, go_sem, r2, r3]) rfl ⟨rfl, ?_⟩
  exact ((onB HBW.out HB3.out).setCell (by simp; omega) _).setCell (by simp; omega) _
end Go.Proofs.YtklfenojapgmnaeDoor
