/-
  What lay of package reckon does: behind what there is it lays the nodes of a tree, swapped.
  What Swap and Const of package reckon answer, called in whatever memory.
  What the document's own answers for cells (tallyref1: Cell, Of, Plus, Times, Over) come to: the same pure functions as the program's.
  The document's own sum, difference, product and quotient of cells that are right (tallyref1: Plus, Times, Over) come to the same as the program's.
  The document's own quotient of cells that are right (tallyref1.Over) comes to the same as the program's.
  The document's own answers on reckonings (tallyref2): where a name is (Named), what a formula that is right comes to (Reckon).
  The document's own names of a formula (tallyref2.Refs): each name of the nodes is among them, and no other.
  The document's own swapped formula (tallyref2.Swapped): behind what there is the nodes of a tree, swapped.
  tallysame.Nodes of nodes and the same nodes is true.
-/
import Derived.Test.YtklfenojapgmnaeDoorFRM
import Derived.Maps.AppendAt
import Derived.Test.YtklfenojapgmnaeDoorCells6
import Derived.Deep.RegionWith
import Derived.Deep.QuietTactic
import Derived.BigQuiet
import Derived.WalkSmall
import Derived.Laws.AppendOwnNone
namespace Go.Proofs.YtklfenojapgmnaeDoor
open Go.ChangeShapes Go.WideShapes Go.ChangeAt Go.RowKit
set_option maxRecDepth 20000

theorem kept_sub {N N' : Nat} {X Y : Nat → Prop} {w w' : World} (h : Kept N X w w') (hN : N' ≤ N) (hx : ∀ k, k < N' → X k → Y k) : Kept N' Y w w' :=
  ⟨h.os, h.tape, h.output, h.size, fun k hk hy => h.block k (by omega) fun e => hy (hx k hk e)⟩
theorem kept_grownO {w w' : World} {r : Option Nat} (h : w.grownBy w' r) : Kept w.heap.size (fun k => r = some k) w w' :=
  ⟨h.os, h.tape, h.output, h.size, fun k hk hx => h.block k hk fun e => hx e.symm⟩
theorem kept_setF {N : Nat} {X : Nat → Prop} {w : World} {p j : Nat} {v : Value} (hp : N ≤ p) : Kept N X w (w.setCell ⟨p, j, none⟩ v) :=
  ⟨rfl, rfl, rfl, by simp, fun k hk _ => setCell_off w p j k v (by omega)⟩
/-- nodes laid behind a row of one's own -/
structure Laid (w : World) (base : Nat) (v : Value) (L : List Nd) (w' : World) (v' : Value) : Prop where
  own : w'.ownsRow base 45 5 v' L.length (cellsN L)
  kept : Kept w.heap.size (fun k => v.ownBlock = some k) w w'
  at' : v'.ownBlock = v.ownBlock ∨ ∃ g, v'.ownBlock = some g ∧ w.heap.size ≤ g
/-- a node in a box -/
def Box5 (w : World) (p : Nat) (x : Nd) : Prop := w.heap[p]? = some (.cells #[.int .i64 x.op, .int .i64 x.n, .string x.name, .int .i64 x.left, .int .i64 x.right] 45 (0, 0))
section
variable {w w' : World} {p : Nat} {x : Nd}
theorem Box5.lt (h : Box5 w p x) : p < w.heap.size := (Array.getElem?_eq_some_iff.1 h).1
theorem Box5.c0 (h : Box5 w p x) : w.cell? ⟨p, 0, none⟩ = some (.int .i64 x.op) := by unfold Box5 at h; simp [World.cell?, h]
theorem Box5.c1 (h : Box5 w p x) : w.cell? ⟨p, 1, none⟩ = some (.int .i64 x.n) := by unfold Box5 at h; simp [World.cell?, h]
theorem Box5.c2 (h : Box5 w p x) : w.cell? ⟨p, 2, none⟩ = some (.string x.name) := by unfold Box5 at h; simp [World.cell?, h]
theorem Box5.c3 (h : Box5 w p x) : w.cell? ⟨p, 3, none⟩ = some (.int .i64 x.left) := by unfold Box5 at h; simp [World.cell?, h]
theorem Box5.c4 (h : Box5 w p x) : w.cell? ⟨p, 4, none⟩ = some (.int .i64 x.right) := by unfold Box5 at h; simp [World.cell?, h]
theorem Box5.fr (h : Box5 w p x) (j : Nat) : w.frozen? ⟨p, j, none⟩ = false := by unfold Box5 at h; simp [World.frozen?, h]
theorem Box5.same (h : Box5 w p x) (hb : w'.heap[p]? = w.heap[p]?) : Box5 w' p x := hb.trans h
theorem Box5.new (w : World) (x : Nd) : Box5 (w.alloc (.cells #[.int .i64 x.op, .int .i64 x.n, .string x.name, .int .i64 x.left, .int .i64 x.right] 45)) w.heap.size x := heap_alloc_new _ _
theorem Box5.set3 (h : Box5 w p x) (m : Int) : Box5 (w.setCell ⟨p, 3, none⟩ (.int .i64 m)) p ⟨x.op, x.n, x.name, m, x.right⟩ := by
  unfold Box5 at *
  rw [setCell_eq_setRow w p 3 _ _ (0, 0) _ h, setRow_heap w p _ _ _ _ h]
  rfl
theorem Box5.set4 (h : Box5 w p x) (m : Int) : Box5 (w.setCell ⟨p, 4, none⟩ (.int .i64 m)) p ⟨x.op, x.n, x.name, x.left, m⟩ := by
  unfold Box5 at *
  rw [setCell_eq_setRow w p 4 _ _ (0, 0) _ h, setRow_heap w p _ _ _ _ h]
  rfl
end
theorem news5 {w : World} {x : Nd} {n : Nat} (hn : w.heap.size = n) : ∀ j u, (cellsNd1 x)[j]? = some u → (w.alloc (.cells #[.int .i64 x.op, .int .i64 x.n, .string x.name, .int .i64 x.left, .int .i64 x.right] 45)).cell? ((⟨n, 0, none⟩ : Addr).add j) = some u := by
  subst hn
  exact World.news_of_block (cs := #[.int .i64 x.op, .int .i64 x.n, .string x.name, .int .i64 x.left, .int .i64 x.right]) (t := 45) (fr := (0, 0)) (heap_alloc_new _ _)
theorem news_top {w : World} {o : Obj} (x : Nd) : ∀ j u, (cellsNd1 x)[j]? = some u → ((w.alloc o).alloc (.cells #[.int .i64 x.op, .int .i64 x.n, .string x.name, .int .i64 x.left, .int .i64 x.right] 45)).cell? ((⟨w.heap.size + 1, 0, none⟩ : Addr).add j) = some u := World.news_of_block (cs := #[.int .i64 x.op, .int .i64 x.n, .string x.name, .int .i64 x.left, .int .i64 x.right]) (t := 45) (fr := (0, 0)) (topF1 w _ _)
theorem ones5 {x : Nd} : ∀ u ∈ cellsNd1 x, u.oneCell' = true := by intro u hu; simp [cellsNd1] at hu; rcases hu with rfl | rfl | rfl | rfl | rfl <;> rfl
theorem name_empty {s : ByteArray} (h : s.size = 0) : s = noT := by
  obtain ⟨d⟩ := s
  have : d = #[] := Array.eq_empty_of_size_eq_zero h
  subst this
  rfl
/-- what a node that is right looks like -/
theorem nd_form {x : Nd} {i : Nat} (h : ndErr x i = 0) : (x.op = 1 → x = ⟨1, x.n, noT, 0, 0⟩) ∧ (x.op = 2 → x = ⟨2, 0, x.name, 0, 0⟩ ∧ x.name.size ≤ 8) ∧ (2 < x.op → x = ⟨x.op, 0, noT, x.left, x.right⟩) := by
  obtain ⟨op, n, name, left, right⟩ := x
  unfold ndErr at h
  simp only at h ⊢
  split at h
  · cases h
  refine ⟨fun e => ?_, fun e => ?_, fun e => ?_⟩
  · subst e
    rw [if_pos rfl] at h
    split at h
    · cases h
    · split at h
      · cases h
      · rename_i h2
        have h3 : name.size = 0 := by omega
        have h4 : left = 0 := by omega
        have h5 : right = 0 := by omega
        rw [name_empty h3, h4, h5]
  · subst e
    rw [if_neg (by omega), if_pos rfl] at h
    split at h
    · cases h
    · rename_i h0
      split at h
      · cases h
      · rename_i h2
        have h3 : n = 0 := by omega
        have h4 : left = 0 := by omega
        have h5 : right = 0 := by omega
        refine ⟨by rw [h3, h4, h5], (name_first (by simpa using h0)).2.1⟩
  · rw [if_neg (by omega), if_neg (by omega)] at h
    split at h
    · cases h
    · split at h
      · cases h
      · rename_i h2
        have h3 : n = 0 := by omega
        have h4 : name.size = 0 := by omega
        rw [name_empty h4, h3]
/-- behind an append of one node -/
theorem laid_one {w W w' : World} {base : Nat} {v v' : Value} {O : List Nd} {x : Nd} (hb : Below w.heap.size w W) (hown : w'.ownsRow base 45 5 v' (O.length + 1) (cellsN O ++ cellsNd1 x)) (hg : W.grownBy w' v.ownBlock) (hat : v'.ownBlock = v.ownBlock ∨ ∃ g, v'.ownBlock = some g ∧ w.heap.size ≤ g) : Laid w base v (O ++ [x]) w' v' := by
  refine ⟨by rw [cellsN_snoc, List.length_append]; exact hown, ?_, hat⟩
  have k1 : Kept w.heap.size (fun k => v.ownBlock = some k) w W := kept_below hb (Nat.le_refl _)
  exact k1.trans (kept_sub (kept_grownO hg) hb.size (fun k _ e => e))

theorem at_low {S k : Nat} {r r1 : Option Nat} (h : r1 = r ∨ ∃ g, r1 = some g ∧ S ≤ g) (hk : k < S) (e : r1 = some k) : r = some k := by
  rcases h with h | ⟨g, h, hg⟩
  · rw [← h]; exact e
  · rw [h] at e; cases e; omega
theorem laid_join {w W w1 V w2 V2 w3 : World} {base : Nat} {v v1 v2 v3 y1 y2 : Value} {L1 L2 : List Nd} {x : Nd} {ob : Obj} (hW : Below w.heap.size w W) (h1 : Laid W base v L1 w1 v1) (hV : V = w1.setCell ⟨w.heap.size, 3, none⟩ y1) (h2 : Laid V base v1 L2 w2 v2) (hV2 : V2 = (w2.setCell ⟨w.heap.size, 4, none⟩ y2).alloc ob)
    (hown : w3.ownsRow base 45 5 v3 (L2.length + 1) (cellsN L2 ++ cellsNd1 x)) (hg : V2.grownBy w3 v2.ownBlock) (hat : v3.ownBlock = v2.ownBlock ∨ ∃ g, v3.ownBlock = some g ∧ w.heap.size ≤ g) : Laid w base v (L2 ++ [x]) w3 v3 := by
  have s1 := h1.kept.size
  have s2 := h2.kept.size
  have sV : V.heap.size = w1.heap.size := by rw [hV]; simp
  have sW := hW.size
  have sV2 : V2.heap.size = w2.heap.size + 1 := by rw [hV2]; simp
  have low1 : ∀ k, k < w.heap.size → v1.ownBlock = some k → v.ownBlock = some k := fun k hk e => at_low h1.at' (by omega) e
  have low2 : ∀ k, k < w.heap.size → v2.ownBlock = some k → v.ownBlock = some k := fun k hk e => low1 k hk (at_low h2.at' (by omega) e)
  refine ⟨by rw [cellsN_snoc, List.length_append]; exact hown, ?_, ?_⟩
  · have k1 : Kept w.heap.size (fun k => v.ownBlock = some k) w W := kept_below hW (Nat.le_refl _)
    have k2 : Kept w.heap.size (fun k => v.ownBlock = some k) W w1 := kept_sub h1.kept sW (fun k _ e => e)
    have k3 : Kept w.heap.size (fun k => v.ownBlock = some k) w1 V := by rw [hV]; exact kept_setF (Nat.le_refl _)
    have k4 : Kept w.heap.size (fun k => v.ownBlock = some k) V w2 := kept_sub h2.kept (by omega) low1
    have k5 : Kept w.heap.size (fun k => v.ownBlock = some k) w2 V2 := by
      rw [hV2]
      exact (kept_setF (Nat.le_refl _)).trans (kept_below ((Below.refl _ _).alloc (Nat.le_refl _) _) (by simp; omega))
    have k6 : Kept w.heap.size (fun k => v.ownBlock = some k) V2 w3 := kept_sub (kept_grownO hg) (by omega) low2
    exact ((((k1.trans k2).trans k3).trans k4).trans k5).trans k6
  · have a1 : v1.ownBlock = v.ownBlock ∨ ∃ g, v1.ownBlock = some g ∧ w.heap.size ≤ g := h1.at'.imp id fun ⟨g, e, h⟩ => ⟨g, e, by omega⟩
    have a2 : v2.ownBlock = v1.ownBlock ∨ ∃ g, v2.ownBlock = some g ∧ w.heap.size ≤ g := h2.at'.imp id fun ⟨g, e, h⟩ => ⟨g, e, by omega⟩
    have j : ∀ {r r1 r2 : Option Nat}, (r1 = r ∨ ∃ g, r1 = some g ∧ w.heap.size ≤ g) → (r2 = r1 ∨ ∃ g, r2 = some g ∧ w.heap.size ≤ g) → (r2 = r ∨ ∃ g, r2 = some g ∧ w.heap.size ≤ g) := fun h h' => by
      rcases h' with e | h'
      · rw [e]; exact h
      · exact Or.inr h'
    exact j (j a1 a2) hat
theorem nds_same {w w' : World} {b o : Nat} {l : List Nd} (h : NdsAt w b o l) (hs : w.heap.size ≤ w'.heap.size) (hb : w'.heap[b]? = w.heap[b]?) : NdsAt w' b o l := by
  refine ⟨Nat.lt_of_lt_of_le h.1 hs, fun k hk => ?_⟩
  have e : ∀ j, w'.cell? ⟨b, j, none⟩ = w.cell? ⟨b, j, none⟩ := fun j => by simp [World.cell?, hb]
  rw [e, e, e, e, e]
  exact h.2 k hk

set_option maxHeartbeats 4000000 in
theorem lay_any (b o cap : Nat) (l : List Nd) (hl : RightL l) (h30 : l.length ≤ 30) : ∀ i, i < l.length → ∀ (base : Nat) (v : Value) (O : List Nd) (w : World), O.length + sizT (treeOf l i) ≤ 60 → b < base → base ≤ w.heap.size → NdsAt w b o l → w.ownsRow base 45 5 v O.length (cellsN O) →
    Calls Tryd.prog 28 #[v, .slice (some ⟨b, o, none⟩) l.length cap, .int .i64 i] w fun e w' => ∃ v', e = .returned v' ∧ Laid w base v (O ++ post (swapT (treeOf l i)) O.length) w' v' := by
  obtain ⟨i1, hj0, hj1, hj2, hj3⟩ := info_parts Tryd.infoNdF
  intro i
  induction i using Nat.strongRecOn with
  | _ i ih =>
    intro hi base v O w hO hbb hbw hN hown
    have HI : Hid (∀ m, m < i → m < l.length → ∀ (base : Nat) (v : Value) (O : List Nd) (w : World), O.length + sizT (treeOf l m) ≤ 60 → b < base → base ≤ w.heap.size → NdsAt w b o l → w.ownsRow base 45 5 v O.length (cellsN O) →
      Calls Tryd.prog 28 #[v, .slice (some ⟨b, o, none⟩) l.length cap, .int .i64 m] w fun e w' => ∃ v', e = .returned v' ∧ Laid w base v (O ++ post (swapT (treeOf l m)) O.length) w' v') := ih
    clear ih
    have hg := hl i hi
    have ho := op_range hg
    obtain ⟨x0, x1, x2, x3, x4⟩ := hN.nd (k := i) hi
    obtain ⟨x, hx⟩ : ∃ x, l.getD i noN = x := ⟨_, rfl⟩
    rw [hx] at x0 x1 x2 x3 x4 hg ho
    have HX : Hid (l.getD i noN = x) := hx
    obtain ⟨f1, f2, f3⟩ := nd_form hg
    have hii : (i : Int) < (l.length : Int) := by omega
    have hli : (l.length : Int) ≤ 30 := by omega
    have hbl : b < w.heap.size := hN.1
    have hOl : O.length ≤ 60 := by omega
    obtain ⟨op, nn, name, left, right⟩ := x
    simp only at x0 x1 x2 x3 x4 ho f1 f2 f3
    by_cases h1 : op = 1
    · subst h1
      have hP : swapT (treeOf l i) = .num nn := by rw [tree_num (by rw [hx]), hx]; rfl
      have hP2 : ∀ k, post (swapT (treeOf l i)) k = [⟨1, nn, name, left, right⟩] := fun k => by rw [hP, f1 rfl]; rfl
      rw [hP2]
      clear hx f1 f2 f3 hP hP2 hg ho
      obtain ⟨A, cO, rfl⟩ := own_form hown
      have HOw : Hid (∀ w', Below w.heap.size w w' → w'.ownsRow base 45 5 (.slice A O.length cO) O.length (cellsN O)) := fun w' hb => own_later hown hb
      clear hown
      go_enter Tryd.func28, Tryd.ntmps28
      go_wp2_with (at_builtin; refine wpList_append_own_at _ rfl _ _ 22 rfl base 45 i1 _ 5 48 Tryd.underlying22 hj0 hj1 hj2 hj3 rfl (by decide) _ O.length (cellsN O) rfl (HOw.out _ (by go_grown)) ⟨w.heap.size + 1, 0, none⟩ 1 1 (cellsNd1 ⟨1, nn, name, left, right⟩) rfl rfl ?qc1 ones5 ?qc2 ?qc3 ?qc4 ?_)
      case qc1 => exact news_top ⟨1, nn, name, left, right⟩
      case qc2 => unfold maxLen; omega
      case qc3 => omega
      case qc4 => simp; omega
      intro v' w2 hown' hgrow _ hat
      have HR := hid_of (laid_one (w := w) (O := O) (x := ⟨1, nn, name, left, right⟩) (by go_grown) hown' hgrow (hat.imp id fun e => ⟨_, e, by omega⟩))
      clear hown' hgrow hat
      go_wp2_with fail
      go_ret
      exact ⟨_, rfl, HR.out⟩
    by_cases h2 : op = 2
    · subst h2
      have hP : swapT (treeOf l i) = .ref name := by rw [tree_ref (by rw [hx]), hx]; rfl
      have hP2 : ∀ k, post (swapT (treeOf l i)) k = [⟨2, nn, name, left, right⟩] := fun k => by rw [hP, (f2 rfl).1]; rfl
      have hnm := (f2 rfl).2
      rw [hP2]
      have hcl := fun w => sclone_any name w (by omega)
      clear hx f1 f2 f3 hP hP2 hg ho
      obtain ⟨A, cO, rfl⟩ := own_form hown
      have HOw : Hid (∀ w', Below w.heap.size w w' → w'.ownsRow base 45 5 (.slice A O.length cO) O.length (cellsN O)) := fun w' hb => own_later hown hb
      clear hown
      go_enter Tryd.func28, Tryd.ntmps28
      go_wp2_with fail
      refine (hcl _).mono ?_
      rintro e w1 ⟨rfl, hb⟩
      have hbx : Box5 w1 w.heap.size ⟨2, nn, name, left, right⟩ := (Box5.new w ⟨2, nn, name, left, right⟩).same (hb.block _ (by simp))
      have hb1 : Below w.heap.size w w1 := onB (by go_grown) hb
      have HB1 : Hid (Below w.heap.size w w1) := hb1
      have c0 := hbx.c0
      have c1 := hbx.c1
      have c2 := hbx.c2
      have c3 := hbx.c3
      have c4 := hbx.c4
      have g2 := hbx.fr 2
      have hz := hbx.lt
      simp only at c0 c1 c2 c3 c4
      clear hb hb1 hcl hbx
      go_wp2_with (at_builtin; refine wpList_append_own_at _ rfl _ _ 22 rfl base 45 i1 _ 5 48 Tryd.underlying22 hj0 hj1 hj2 hj3 rfl (by decide) _ O.length (cellsN O) rfl (HOw.out _ ?qc0) ⟨w1.heap.size, 0, none⟩ 1 1 (cellsNd1 ⟨2, nn, name, left, right⟩) rfl rfl ?qc1 ones5 ?qc2 ?qc3 ?qc4 ?_)
      case qc0 => exact (HB1.out.setCell (Nat.le_refl _) _).alloc (by simpa using HB1.out.size) _
      case qc1 => exact news5 (w := w1.setCell ⟨w.heap.size, 2, none⟩ (.string name)) (x := ⟨2, nn, name, left, right⟩) (by simp)
      case qc2 => unfold maxLen; omega
      case qc3 => omega
      case qc4 => have := HB1.out.size; simp; omega
      intro v' w2 hown' hgrow _ hat
      have HR := hid_of (laid_one (w := w) (O := O) (x := ⟨2, nn, name, left, right⟩) ((HB1.out.setCell (Nat.le_refl _) _).alloc (by simpa using HB1.out.size) _) hown' hgrow (hat.imp id fun e => ⟨_, e, by have := HB1.out.size; simp; omega⟩))
      clear hown' hgrow hat
      go_wp2_with fail
      go_ret
      exact ⟨_, rfl, HR.out⟩
    obtain ⟨a1, a2, a3, a4⟩ := nd_sides hg (show 2 < op by omega)
    simp only at a1 a2 a3 a4
    obtain ⟨a, ha⟩ : ∃ a : Nat, left = a := ⟨left.toNat, by omega⟩
    obtain ⟨c, hc⟩ : ∃ c : Nat, right = c := ⟨right.toNat, by omega⟩
    subst ha hc
    have hnn : nn = 0 ∧ name = noT := by have := f3 (by omega); injection this with _ e1 e2; exact ⟨e1, e2⟩
    obtain ⟨rfl, rfl⟩ := hnn
    have hT : treeOf l i = .bin op (treeOf l a) (treeOf l c) := by
      have := tree_bin hl hi (by rw [hx]; show 2 < op; omega)
      rw [hx] at this
      simpa using this
    have hsz : sizT (treeOf l i) = sizT (treeOf l a) + sizT (treeOf l c) + 1 := by rw [hT]; rfl
    have hvb : v.ownBlock ≠ some w.heap.size := fun e => by have := (own_block hown e).2.1; omega
    have hvB : v.ownBlock ≠ some b := fun e => by have := (own_block hown e).1; omega
    have HN : Hid (NdsAt w b o l) := hN
    have HOw : Hid (w.ownsRow base 45 5 v O.length (cellsN O)) := hown
    have HT : Hid (treeOf l i = .bin op (treeOf l a) (treeOf l c)) := hT
    have HSz : Hid (sizT (treeOf l i) = sizT (treeOf l a) + sizT (treeOf l c) + 1) := hsz
    have HO : Hid (O.length + sizT (treeOf l i) ≤ 60) := hO
    have Hvb : Hid (v.ownBlock ≠ some w.heap.size) := hvb
    have HvB : Hid (v.ownBlock ≠ some b) := hvB
    have hovc : op = 3 ∨ op = 4 ∨ op = 5 ∨ op = 6 := by omega
    clear hx f1 f2 f3 hg ho h1 h2 hT hsz hN hown hO hvb hvB HX
    rcases hovc with rfl | rfl | rfl | rfl
    · have HS : Hid (swapT (treeOf l i) = .bin 3 (swapT (treeOf l c)) (swapT (treeOf l a))) := by show _ = _; rw [HT.out, swap_on (by omega)]
      go_enter Tryd.func28, Tryd.ntmps28
      go_wp2_with fail
      refine (HI.out c (by omega) (by omega) base v O _ (by have := HSz.out; have := HO.out; omega) hbb (by simp; omega) (HN.out.later (by go_grown)) (own_later HOw.out (by go_grown))).mono ?_
      rintro e w1 ⟨v1, rfl, hL1⟩
      have hbx : Box5 w1 w.heap.size ⟨3, 0, noT, (c : Int), (a : Int)⟩ := (Box5.new w ⟨3, 0, noT, (c : Int), (a : Int)⟩).same (hL1.kept.block _ (by simp) Hvb.out)
      have hm1 : (O ++ post (swapT (treeOf l c)) O.length).length = O.length + sizT (treeOf l c) := by rw [List.length_append, post_len, swap_siz]
      have hN1 : NdsAt w1 b o l := nds_same (HN.out.later (w' := w.alloc _) (by go_grown)) hL1.kept.size (hL1.kept.block b (by simp; omega) HvB.out)
      have h11 : v1.ownBlock ≠ some w.heap.size := fun e => by
        rcases hL1.at' with h | ⟨g, h, hg⟩
        · exact Hvb.out (by rw [← h]; exact e)
        · rw [h] at e; cases e; simp at hg; omega
      have h1B : v1.ownBlock ≠ some b := fun e => by have := (own_block hL1.own e).1; omega
      have hs1 := hL1.kept.size
      simp at hs1
      obtain ⟨A1, cc1, hv1⟩ := own_form hL1.own
      rw [hm1] at hv1
      have hp1 := siz_pos (treeOf l c)
      obtain ⟨m1, hmm1⟩ : ∃ m1, O.length + sizT (treeOf l c) = m1 := ⟨_, rfl⟩
      rw [hmm1] at hv1
      have hm1i : (m1 : Int) ≤ 60 := by have := HSz.out; have := HO.out; omega
      have hm1p : 1 ≤ (m1 : Int) := by omega
      subst hv1
      have c3 := hbx.c3
      have c4 := hbx.c4
      have g3 := hbx.fr 3
      simp only at c3 c4
      have HBx : Hid (Box5 w1 w.heap.size ⟨3, 0, noT, (c : Int), (a : Int)⟩) := hbx
      have HL1 := hid_of hL1
      have HN1 : Hid (NdsAt w1 b o l) := hN1
      have Hm1 := hid_of hm1
      have Hmm := hid_of hmm1
      have H11 : Hid ((Value.slice A1 m1 cc1).ownBlock ≠ some w.heap.size) := h11
      have H1B : Hid ((Value.slice A1 m1 cc1).ownBlock ≠ some b) := h1B
      clear hbx hL1 hN1 hm1 hmm1 h11 h1B
      go_wp2_with fail
      have hkeep : ∀ g, (Value.slice A1 m1 cc1).ownBlock = some g → (w1.setCell ⟨w.heap.size, 3, none⟩ (.int .i64 ((m1 : Int) - 1))).heap[g]? = w1.heap[g]? := fun g hg => setCell_off _ _ _ _ _ (fun e => H11.out (by rw [hg, e]))
      refine (HI.out a (by omega) (by omega) base (.slice A1 m1 cc1) (O ++ post (swapT (treeOf l c)) O.length) _ (by rw [Hm1.out]; have := HSz.out; have := HO.out; omega) hbb (by simp; omega) (nds_same HN1.out (by simp) (setCell_off _ _ _ _ _ (by omega))) (own_keep HL1.out.own hkeep)).mono ?_
      rintro e w2 ⟨v2, rfl, hL2⟩
      have hbx2 : Box5 w2 w.heap.size ⟨3, 0, noT, (m1 : Int) - 1, (a : Int)⟩ := (HBx.out.set3 ((m1 : Int) - 1)).same (hL2.kept.block _ (by simp; omega) H11.out)
      have hm2 : (O ++ post (swapT (treeOf l c)) O.length ++ post (swapT (treeOf l a)) (O ++ post (swapT (treeOf l c)) O.length).length).length = m1 + sizT (treeOf l a) := by rw [List.length_append, Hm1.out, post_len, swap_siz, Hmm.out]
      obtain ⟨L2, hL2e⟩ : ∃ L2, O ++ post (swapT (treeOf l c)) O.length ++ post (swapT (treeOf l a)) (O ++ post (swapT (treeOf l c)) O.length).length = L2 := ⟨_, rfl⟩
      rw [hL2e] at hL2 hm2
      have HL2e := hid_of hL2e
      clear hL2e
      have h22 : v2.ownBlock ≠ some w.heap.size := fun e => by
        rcases hL2.at' with h | ⟨g, h, hg⟩
        · exact H11.out (by rw [← h]; exact e)
        · rw [h] at e; cases e; simp at hg; omega
      have hs2 := hL2.kept.size
      simp at hs2
      obtain ⟨A2, cc2, hv2⟩ := own_form hL2.own
      rw [hm2] at hv2
      have hp2 := siz_pos (treeOf l a)
      obtain ⟨m2, hmm2⟩ : ∃ m2, m1 + sizT (treeOf l a) = m2 := ⟨_, rfl⟩
      rw [hmm2] at hv2 hm2
      have hm2i : (m2 : Int) ≤ 60 := by have := HSz.out; have := HO.out; have := Hmm.out; omega
      have hm2p : 1 ≤ (m2 : Int) := by omega
      subst hv2
      have d0 := hbx2.c0
      have d1 := hbx2.c1
      have d2 := hbx2.c2
      have d3 := hbx2.c3
      have d4 := hbx2.c4
      have g4 := hbx2.fr 4
      simp only at d0 d1 d2 d3 d4
      have HL2 := hid_of hL2
      have Hm2 := hid_of hm2
      have Hmm2 := hid_of hmm2
      have hkeep2 : ∀ g, (Value.slice A2 m2 cc2).ownBlock = some g → (w2.setCell ⟨w.heap.size, 4, none⟩ (.int .i64 ((m2 : Int) - 1))).heap[g]? = w2.heap[g]? := fun g hg => setCell_off _ _ _ _ _ (fun e => h22 (by rw [hg, e]))
      have HO2 : Hid ((w2.setCell ⟨w.heap.size, 4, none⟩ (.int .i64 ((m2 : Int) - 1))).ownsRow base 45 5 (.slice A2 m2 cc2) m2 (cellsN L2)) := by
        have h := own_keep hL2.own hkeep2
        rw [hm2] at h
        exact h
      clear hbx2 hL2 hm2 hmm2 h22 hkeep hkeep2
      go_wp2_with (at_builtin; refine wpList_append_own_at _ rfl _ _ 22 rfl base 45 i1 _ 5 48 Tryd.underlying22 hj0 hj1 hj2 hj3 rfl (by decide) _ m2 _ rfl (own_later HO2.out ?qc0) ⟨w2.heap.size, 0, none⟩ 1 1 (cellsNd1 ⟨3, 0, noT, (m1 : Int) - 1, (m2 : Int) - 1⟩) rfl rfl ?qc1 ones5 ?qc2 ?qc3 ?qc4 ?_)
      case qc0 => exact (Below.refl _ _).alloc (Nat.le_refl _) _
      case qc1 => exact news5 (w := w2.setCell ⟨w.heap.size, 4, none⟩ (.int .i64 ((m2 : Int) - 1))) (x := ⟨3, 0, noT, (m1 : Int) - 1, (m2 : Int) - 1⟩) (by simp)
      case qc2 => unfold maxLen; omega
      case qc3 => omega
      case qc4 => simp; omega
      intro v3 w3 hown3 hgrow _ hat
      have HR := hid_of (laid_join (w := w) (W := w.alloc (.cells #[.int .i64 3, .int .i64 0, .string noT, .int .i64 (c : Int), .int .i64 (a : Int)] 45)) (x := ⟨3, 0, noT, (m1 : Int) - 1, (m2 : Int) - 1⟩) (by go_grown) HL1.out rfl HL2.out rfl (by rw [Hm2.out]; exact hown3) hgrow (hat.imp id fun e => ⟨_, e, by first | omega | (simp; omega)⟩))
      clear hown3 hgrow hat
      go_wp2_with fail
      go_ret
      refine ⟨_, rfl, ?_⟩
      have hR := HR.out
      have e1 : O ++ post (swapT (treeOf l i)) O.length = L2 ++ [⟨3, 0, noT, (m1 : Int) - 1, (m2 : Int) - 1⟩] := by
        rw [← HL2e.out, HS.out, post, Hm1.out, swap_siz, swap_siz, Hmm.out, Hmm2.out]
        have q1 : ((m1 - 1 : Nat) : Int) = (m1 : Int) - 1 := by omega
        have q2 : ((m2 - 1 : Nat) : Int) = (m2 : Int) - 1 := by omega
        rw [q1, q2]
        simp only [List.append_assoc]
      rw [e1]
      exact hR
    · have HS : Hid (swapT (treeOf l i) = .bin 4 (swapT (treeOf l a)) (swapT (treeOf l c))) := by show _ = _; rw [HT.out, swap_off (by omega)]
      go_enter Tryd.func28, Tryd.ntmps28
      go_wp2_with fail
      refine (HI.out a (by omega) (by omega) base v O _ (by have := HSz.out; have := HO.out; omega) hbb (by simp; omega) (HN.out.later (by go_grown)) (own_later HOw.out (by go_grown))).mono ?_
      rintro e w1 ⟨v1, rfl, hL1⟩
      have hbx : Box5 w1 w.heap.size ⟨4, 0, noT, (a : Int), (c : Int)⟩ := (Box5.new w ⟨4, 0, noT, (a : Int), (c : Int)⟩).same (hL1.kept.block _ (by simp) Hvb.out)
      have hm1 : (O ++ post (swapT (treeOf l a)) O.length).length = O.length + sizT (treeOf l a) := by rw [List.length_append, post_len, swap_siz]
      have hN1 : NdsAt w1 b o l := nds_same (HN.out.later (w' := w.alloc _) (by go_grown)) hL1.kept.size (hL1.kept.block b (by simp; omega) HvB.out)
      have h11 : v1.ownBlock ≠ some w.heap.size := fun e => by
        rcases hL1.at' with h | ⟨g, h, hg⟩
        · exact Hvb.out (by rw [← h]; exact e)
        · rw [h] at e; cases e; simp at hg; omega
      have h1B : v1.ownBlock ≠ some b := fun e => by have := (own_block hL1.own e).1; omega
      have hs1 := hL1.kept.size
      simp at hs1
      obtain ⟨A1, cc1, hv1⟩ := own_form hL1.own
      rw [hm1] at hv1
      have hp1 := siz_pos (treeOf l a)
      obtain ⟨m1, hmm1⟩ : ∃ m1, O.length + sizT (treeOf l a) = m1 := ⟨_, rfl⟩
      rw [hmm1] at hv1
      have hm1i : (m1 : Int) ≤ 60 := by have := HSz.out; have := HO.out; omega
      have hm1p : 1 ≤ (m1 : Int) := by omega
      subst hv1
      have c3 := hbx.c3
      have c4 := hbx.c4
      have g3 := hbx.fr 3
      simp only at c3 c4
      have HBx : Hid (Box5 w1 w.heap.size ⟨4, 0, noT, (a : Int), (c : Int)⟩) := hbx
      have HL1 := hid_of hL1
      have HN1 : Hid (NdsAt w1 b o l) := hN1
      have Hm1 := hid_of hm1
      have Hmm := hid_of hmm1
      have H11 : Hid ((Value.slice A1 m1 cc1).ownBlock ≠ some w.heap.size) := h11
      have H1B : Hid ((Value.slice A1 m1 cc1).ownBlock ≠ some b) := h1B
      clear hbx hL1 hN1 hm1 hmm1 h11 h1B
      go_wp2_with fail
      have hkeep : ∀ g, (Value.slice A1 m1 cc1).ownBlock = some g → (w1.setCell ⟨w.heap.size, 3, none⟩ (.int .i64 ((m1 : Int) - 1))).heap[g]? = w1.heap[g]? := fun g hg => setCell_off _ _ _ _ _ (fun e => H11.out (by rw [hg, e]))
      refine (HI.out c (by omega) (by omega) base (.slice A1 m1 cc1) (O ++ post (swapT (treeOf l a)) O.length) _ (by rw [Hm1.out]; have := HSz.out; have := HO.out; omega) hbb (by simp; omega) (nds_same HN1.out (by simp) (setCell_off _ _ _ _ _ (by omega))) (own_keep HL1.out.own hkeep)).mono ?_
      rintro e w2 ⟨v2, rfl, hL2⟩
      have hbx2 : Box5 w2 w.heap.size ⟨4, 0, noT, (m1 : Int) - 1, (c : Int)⟩ := (HBx.out.set3 ((m1 : Int) - 1)).same (hL2.kept.block _ (by simp; omega) H11.out)
      have hm2 : (O ++ post (swapT (treeOf l a)) O.length ++ post (swapT (treeOf l c)) (O ++ post (swapT (treeOf l a)) O.length).length).length = m1 + sizT (treeOf l c) := by rw [List.length_append, Hm1.out, post_len, swap_siz, Hmm.out]
      obtain ⟨L2, hL2e⟩ : ∃ L2, O ++ post (swapT (treeOf l a)) O.length ++ post (swapT (treeOf l c)) (O ++ post (swapT (treeOf l a)) O.length).length = L2 := ⟨_, rfl⟩
      rw [hL2e] at hL2 hm2
      have HL2e := hid_of hL2e
      clear hL2e
      have h22 : v2.ownBlock ≠ some w.heap.size := fun e => by
        rcases hL2.at' with h | ⟨g, h, hg⟩
        · exact H11.out (by rw [← h]; exact e)
        · rw [h] at e; cases e; simp at hg; omega
      have hs2 := hL2.kept.size
      simp at hs2
      obtain ⟨A2, cc2, hv2⟩ := own_form hL2.own
      rw [hm2] at hv2
      have hp2 := siz_pos (treeOf l c)
      obtain ⟨m2, hmm2⟩ : ∃ m2, m1 + sizT (treeOf l c) = m2 := ⟨_, rfl⟩
      rw [hmm2] at hv2 hm2
      have hm2i : (m2 : Int) ≤ 60 := by have := HSz.out; have := HO.out; have := Hmm.out; omega
      have hm2p : 1 ≤ (m2 : Int) := by omega
      subst hv2
      have d0 := hbx2.c0
      have d1 := hbx2.c1
      have d2 := hbx2.c2
      have d3 := hbx2.c3
      have d4 := hbx2.c4
      have g4 := hbx2.fr 4
      simp only at d0 d1 d2 d3 d4
      have HL2 := hid_of hL2
      have Hm2 := hid_of hm2
      have Hmm2 := hid_of hmm2
      have hkeep2 : ∀ g, (Value.slice A2 m2 cc2).ownBlock = some g → (w2.setCell ⟨w.heap.size, 4, none⟩ (.int .i64 ((m2 : Int) - 1))).heap[g]? = w2.heap[g]? := fun g hg => setCell_off _ _ _ _ _ (fun e => h22 (by rw [hg, e]))
      have HO2 : Hid ((w2.setCell ⟨w.heap.size, 4, none⟩ (.int .i64 ((m2 : Int) - 1))).ownsRow base 45 5 (.slice A2 m2 cc2) m2 (cellsN L2)) := by
        have h := own_keep hL2.own hkeep2
        rw [hm2] at h
        exact h
      clear hbx2 hL2 hm2 hmm2 h22 hkeep hkeep2
      go_wp2_with (at_builtin; refine wpList_append_own_at _ rfl _ _ 22 rfl base 45 i1 _ 5 48 Tryd.underlying22 hj0 hj1 hj2 hj3 rfl (by decide) _ m2 _ rfl (own_later HO2.out ?qc0) ⟨w2.heap.size, 0, none⟩ 1 1 (cellsNd1 ⟨4, 0, noT, (m1 : Int) - 1, (m2 : Int) - 1⟩) rfl rfl ?qc1 ones5 ?qc2 ?qc3 ?qc4 ?_)
      case qc0 => exact (Below.refl _ _).alloc (Nat.le_refl _) _
      case qc1 => exact news5 (w := w2.setCell ⟨w.heap.size, 4, none⟩ (.int .i64 ((m2 : Int) - 1))) (x := ⟨4, 0, noT, (m1 : Int) - 1, (m2 : Int) - 1⟩) (by simp)
      case qc2 => unfold maxLen; omega
      case qc3 => omega
      case qc4 => simp; omega
      intro v3 w3 hown3 hgrow _ hat
      have HR := hid_of (laid_join (w := w) (W := w.alloc (.cells #[.int .i64 4, .int .i64 0, .string noT, .int .i64 (a : Int), .int .i64 (c : Int)] 45)) (x := ⟨4, 0, noT, (m1 : Int) - 1, (m2 : Int) - 1⟩) (by go_grown) HL1.out rfl HL2.out rfl (by rw [Hm2.out]; exact hown3) hgrow (hat.imp id fun e => ⟨_, e, by first | omega | (simp; omega)⟩))
      clear hown3 hgrow hat
      go_wp2_with fail
      go_ret
      refine ⟨_, rfl, ?_⟩
      have hR := HR.out
      have e1 : O ++ post (swapT (treeOf l i)) O.length = L2 ++ [⟨4, 0, noT, (m1 : Int) - 1, (m2 : Int) - 1⟩] := by
        rw [← HL2e.out, HS.out, post, Hm1.out, swap_siz, swap_siz, Hmm.out, Hmm2.out]
        have q1 : ((m1 - 1 : Nat) : Int) = (m1 : Int) - 1 := by omega
        have q2 : ((m2 - 1 : Nat) : Int) = (m2 : Int) - 1 := by omega
        rw [q1, q2]
        simp only [List.append_assoc]
      rw [e1]
      exact hR
    · have HS : Hid (swapT (treeOf l i) = .bin 5 (swapT (treeOf l c)) (swapT (treeOf l a))) := by show _ = _; rw [HT.out, swap_on (by omega)]
      go_enter Tryd.func28, Tryd.ntmps28
      go_wp2_with fail
      refine (HI.out c (by omega) (by omega) base v O _ (by have := HSz.out; have := HO.out; omega) hbb (by simp; omega) (HN.out.later (by go_grown)) (own_later HOw.out (by go_grown))).mono ?_
      rintro e w1 ⟨v1, rfl, hL1⟩
      have hbx : Box5 w1 w.heap.size ⟨5, 0, noT, (c : Int), (a : Int)⟩ := (Box5.new w ⟨5, 0, noT, (c : Int), (a : Int)⟩).same (hL1.kept.block _ (by simp) Hvb.out)
      have hm1 : (O ++ post (swapT (treeOf l c)) O.length).length = O.length + sizT (treeOf l c) := by rw [List.length_append, post_len, swap_siz]
      have hN1 : NdsAt w1 b o l := nds_same (HN.out.later (w' := w.alloc _) (by go_grown)) hL1.kept.size (hL1.kept.block b (by simp; omega) HvB.out)
      have h11 : v1.ownBlock ≠ some w.heap.size := fun e => by
        rcases hL1.at' with h | ⟨g, h, hg⟩
        · exact Hvb.out (by rw [← h]; exact e)
        · rw [h] at e; cases e; simp at hg; omega
      have h1B : v1.ownBlock ≠ some b := fun e => by have := (own_block hL1.own e).1; omega
      have hs1 := hL1.kept.size
      simp at hs1
      obtain ⟨A1, cc1, hv1⟩ := own_form hL1.own
      rw [hm1] at hv1
      have hp1 := siz_pos (treeOf l c)
      obtain ⟨m1, hmm1⟩ : ∃ m1, O.length + sizT (treeOf l c) = m1 := ⟨_, rfl⟩
      rw [hmm1] at hv1
      have hm1i : (m1 : Int) ≤ 60 := by have := HSz.out; have := HO.out; omega
      have hm1p : 1 ≤ (m1 : Int) := by omega
      subst hv1
      have c3 := hbx.c3
      have c4 := hbx.c4
      have g3 := hbx.fr 3
      simp only at c3 c4
      have HBx : Hid (Box5 w1 w.heap.size ⟨5, 0, noT, (c : Int), (a : Int)⟩) := hbx
      have HL1 := hid_of hL1
      have HN1 : Hid (NdsAt w1 b o l) := hN1
      have Hm1 := hid_of hm1
      have Hmm := hid_of hmm1
      have H11 : Hid ((Value.slice A1 m1 cc1).ownBlock ≠ some w.heap.size) := h11
      have H1B : Hid ((Value.slice A1 m1 cc1).ownBlock ≠ some b) := h1B
      clear hbx hL1 hN1 hm1 hmm1 h11 h1B
      go_wp2_with fail
      have hkeep : ∀ g, (Value.slice A1 m1 cc1).ownBlock = some g → (w1.setCell ⟨w.heap.size, 3, none⟩ (.int .i64 ((m1 : Int) - 1))).heap[g]? = w1.heap[g]? := fun g hg => setCell_off _ _ _ _ _ (fun e => H11.out (by rw [hg, e]))
      refine (HI.out a (by omega) (by omega) base (.slice A1 m1 cc1) (O ++ post (swapT (treeOf l c)) O.length) _ (by rw [Hm1.out]; have := HSz.out; have := HO.out; omega) hbb (by simp; omega) (nds_same HN1.out (by simp) (setCell_off _ _ _ _ _ (by omega))) (own_keep HL1.out.own hkeep)).mono ?_
      rintro e w2 ⟨v2, rfl, hL2⟩
      have hbx2 : Box5 w2 w.heap.size ⟨5, 0, noT, (m1 : Int) - 1, (a : Int)⟩ := (HBx.out.set3 ((m1 : Int) - 1)).same (hL2.kept.block _ (by simp; omega) H11.out)
      have hm2 : (O ++ post (swapT (treeOf l c)) O.length ++ post (swapT (treeOf l a)) (O ++ post (swapT (treeOf l c)) O.length).length).length = m1 + sizT (treeOf l a) := by rw [List.length_append, Hm1.out, post_len, swap_siz, Hmm.out]
      obtain ⟨L2, hL2e⟩ : ∃ L2, O ++ post (swapT (treeOf l c)) O.length ++ post (swapT (treeOf l a)) (O ++ post (swapT (treeOf l c)) O.length).length = L2 := ⟨_, rfl⟩
      rw [hL2e] at hL2 hm2
      have HL2e := hid_of hL2e
      clear hL2e
      have h22 : v2.ownBlock ≠ some w.heap.size := fun e => by
        rcases hL2.at' with h | ⟨g, h, hg⟩
        · exact H11.out (by rw [← h]; exact e)
        · rw [h] at e; cases e; simp at hg; omega
      have hs2 := hL2.kept.size
      simp at hs2
      obtain ⟨A2, cc2, hv2⟩ := own_form hL2.own
      rw [hm2] at hv2
      have hp2 := siz_pos (treeOf l a)
      obtain ⟨m2, hmm2⟩ : ∃ m2, m1 + sizT (treeOf l a) = m2 := ⟨_, rfl⟩
      rw [hmm2] at hv2 hm2
      have hm2i : (m2 : Int) ≤ 60 := by have := HSz.out; have := HO.out; have := Hmm.out; omega
      have hm2p : 1 ≤ (m2 : Int) := by omega
      subst hv2
      have d0 := hbx2.c0
      have d1 := hbx2.c1
      have d2 := hbx2.c2
      have d3 := hbx2.c3
      have d4 := hbx2.c4
      have g4 := hbx2.fr 4
      simp only at d0 d1 d2 d3 d4
      have HL2 := hid_of hL2
      have Hm2 := hid_of hm2
      have Hmm2 := hid_of hmm2
      have hkeep2 : ∀ g, (Value.slice A2 m2 cc2).ownBlock = some g → (w2.setCell ⟨w.heap.size, 4, none⟩ (.int .i64 ((m2 : Int) - 1))).heap[g]? = w2.heap[g]? := fun g hg => setCell_off _ _ _ _ _ (fun e => h22 (by rw [hg, e]))
      have HO2 : Hid ((w2.setCell ⟨w.heap.size, 4, none⟩ (.int .i64 ((m2 : Int) - 1))).ownsRow base 45 5 (.slice A2 m2 cc2) m2 (cellsN L2)) := by
        have h := own_keep hL2.own hkeep2
        rw [hm2] at h
        exact h
      clear hbx2 hL2 hm2 hmm2 h22 hkeep hkeep2
      go_wp2_with (at_builtin; refine wpList_append_own_at _ rfl _ _ 22 rfl base 45 i1 _ 5 48 Tryd.underlying22 hj0 hj1 hj2 hj3 rfl (by decide) _ m2 _ rfl (own_later HO2.out ?qc0) ⟨w2.heap.size, 0, none⟩ 1 1 (cellsNd1 ⟨5, 0, noT, (m1 : Int) - 1, (m2 : Int) - 1⟩) rfl rfl ?qc1 ones5 ?qc2 ?qc3 ?qc4 ?_)
      case qc0 => exact (Below.refl _ _).alloc (Nat.le_refl _) _
      case qc1 => exact news5 (w := w2.setCell ⟨w.heap.size, 4, none⟩ (.int .i64 ((m2 : Int) - 1))) (x := ⟨5, 0, noT, (m1 : Int) - 1, (m2 : Int) - 1⟩) (by simp)
      case qc2 => unfold maxLen; omega
      case qc3 => omega
      case qc4 => simp; omega
      intro v3 w3 hown3 hgrow _ hat
      have HR := hid_of (laid_join (w := w) (W := w.alloc (.cells #[.int .i64 5, .int .i64 0, .string noT, .int .i64 (c : Int), .int .i64 (a : Int)] 45)) (x := ⟨5, 0, noT, (m1 : Int) - 1, (m2 : Int) - 1⟩) (by go_grown) HL1.out rfl HL2.out rfl (by rw [Hm2.out]; exact hown3) hgrow (hat.imp id fun e => ⟨_, e, by first | omega | (simp; omega)⟩))
      clear hown3 hgrow hat
      go_wp2_with fail
      go_ret
      refine ⟨_, rfl, ?_⟩
      have hR := HR.out
      have e1 : O ++ post (swapT (treeOf l i)) O.length = L2 ++ [⟨5, 0, noT, (m1 : Int) - 1, (m2 : Int) - 1⟩] := by
        rw [← HL2e.out, HS.out, post, Hm1.out, swap_siz, swap_siz, Hmm.out, Hmm2.out]
        have q1 : ((m1 - 1 : Nat) : Int) = (m1 : Int) - 1 := by omega
        have q2 : ((m2 - 1 : Nat) : Int) = (m2 : Int) - 1 := by omega
        rw [q1, q2]
        simp only [List.append_assoc]
      rw [e1]
      exact hR
    · have HS : Hid (swapT (treeOf l i) = .bin 6 (swapT (treeOf l a)) (swapT (treeOf l c))) := by show _ = _; rw [HT.out, swap_off (by omega)]
      go_enter Tryd.func28, Tryd.ntmps28
      go_wp2_with fail
      refine (HI.out a (by omega) (by omega) base v O _ (by have := HSz.out; have := HO.out; omega) hbb (by simp; omega) (HN.out.later (by go_grown)) (own_later HOw.out (by go_grown))).mono ?_
      rintro e w1 ⟨v1, rfl, hL1⟩
      have hbx : Box5 w1 w.heap.size ⟨6, 0, noT, (a : Int), (c : Int)⟩ := (Box5.new w ⟨6, 0, noT, (a : Int), (c : Int)⟩).same (hL1.kept.block _ (by simp) Hvb.out)
      have hm1 : (O ++ post (swapT (treeOf l a)) O.length).length = O.length + sizT (treeOf l a) := by rw [List.length_append, post_len, swap_siz]
      have hN1 : NdsAt w1 b o l := nds_same (HN.out.later (w' := w.alloc _) (by go_grown)) hL1.kept.size (hL1.kept.block b (by simp; omega) HvB.out)
      have h11 : v1.ownBlock ≠ some w.heap.size := fun e => by
        rcases hL1.at' with h | ⟨g, h, hg⟩
        · exact Hvb.out (by rw [← h]; exact e)
        · rw [h] at e; cases e; simp at hg; omega
      have h1B : v1.ownBlock ≠ some b := fun e => by have := (own_block hL1.own e).1; omega
      have hs1 := hL1.kept.size
      simp at hs1
      obtain ⟨A1, cc1, hv1⟩ := own_form hL1.own
      rw [hm1] at hv1
      have hp1 := siz_pos (treeOf l a)
      obtain ⟨m1, hmm1⟩ : ∃ m1, O.length + sizT (treeOf l a) = m1 := ⟨_, rfl⟩
      rw [hmm1] at hv1
      have hm1i : (m1 : Int) ≤ 60 := by have := HSz.out; have := HO.out; omega
      have hm1p : 1 ≤ (m1 : Int) := by omega
      subst hv1
      have c3 := hbx.c3
      have c4 := hbx.c4
      have g3 := hbx.fr 3
      simp only at c3 c4
      have HBx : Hid (Box5 w1 w.heap.size ⟨6, 0, noT, (a : Int), (c : Int)⟩) := hbx
      have HL1 := hid_of hL1
      have HN1 : Hid (NdsAt w1 b o l) := hN1
      have Hm1 := hid_of hm1
      have Hmm := hid_of hmm1
      have H11 : Hid ((Value.slice A1 m1 cc1).ownBlock ≠ some w.heap.size) := h11
      have H1B : Hid ((Value.slice A1 m1 cc1).ownBlock ≠ some b) := h1B
      clear hbx hL1 hN1 hm1 hmm1 h11 h1B
      go_wp2_with fail
      have hkeep : ∀ g, (Value.slice A1 m1 cc1).ownBlock = some g → (w1.setCell ⟨w.heap.size, 3, none⟩ (.int .i64 ((m1 : Int) - 1))).heap[g]? = w1.heap[g]? := fun g hg => setCell_off _ _ _ _ _ (fun e => H11.out (by rw [hg, e]))
      refine (HI.out c (by omega) (by omega) base (.slice A1 m1 cc1) (O ++ post (swapT (treeOf l a)) O.length) _ (by rw [Hm1.out]; have := HSz.out; have := HO.out; omega) hbb (by simp; omega) (nds_same HN1.out (by simp) (setCell_off _ _ _ _ _ (by omega))) (own_keep HL1.out.own hkeep)).mono ?_
      rintro e w2 ⟨v2, rfl, hL2⟩
      have hbx2 : Box5 w2 w.heap.size ⟨6, 0, noT, (m1 : Int) - 1, (c : Int)⟩ := (HBx.out.set3 ((m1 : Int) - 1)).same (hL2.kept.block _ (by simp; omega) H11.out)
      have hm2 : (O ++ post (swapT (treeOf l a)) O.length ++ post (swapT (treeOf l c)) (O ++ post (swapT (treeOf l a)) O.length).length).length = m1 + sizT (treeOf l c) := by rw [List.length_append, Hm1.out, post_len, swap_siz, Hmm.out]
      obtain ⟨L2, hL2e⟩ : ∃ L2, O ++ post (swapT (treeOf l a)) O.length ++ post (swapT (treeOf l c)) (O ++ post (swapT (treeOf l a)) O.length).length = L2 := ⟨_, rfl⟩
      rw [hL2e] at hL2 hm2
      have HL2e := hid_of hL2e
      clear hL2e
      have h22 : v2.ownBlock ≠ some w.heap.size := fun e => by
        rcases hL2.at' with h | ⟨g, h, hg⟩
        · exact H11.out (by rw [← h]; exact e)
        · rw [h] at e; cases e; simp at hg; omega
      have hs2 := hL2.kept.size
      simp at hs2
      obtain ⟨A2, cc2, hv2⟩ := own_form hL2.own
      rw [hm2] at hv2
      have hp2 := siz_pos (treeOf l c)
      obtain ⟨m2, hmm2⟩ : ∃ m2, m1 + sizT (treeOf l c) = m2 := ⟨_, rfl⟩
      rw [hmm2] at hv2 hm2
      have hm2i : (m2 : Int) ≤ 60 := by have := HSz.out; have := HO.out; have := Hmm.out; omega
      have hm2p : 1 ≤ (m2 : Int) := by omega
      subst hv2
      have d0 := hbx2.c0
      have d1 := hbx2.c1
      have d2 := hbx2.c2
      have d3 := hbx2.c3
      have d4 := hbx2.c4
      have g4 := hbx2.fr 4
      simp only at d0 d1 d2 d3 d4
      have HL2 := hid_of hL2
      have Hm2 := hid_of hm2
      have Hmm2 := hid_of hmm2
      have hkeep2 : ∀ g, (Value.slice A2 m2 cc2).ownBlock = some g → (w2.setCell ⟨w.heap.size, 4, none⟩ (.int .i64 ((m2 : Int) - 1))).heap[g]? = w2.heap[g]? := fun g hg => setCell_off _ _ _ _ _ (fun e => h22 (by rw [hg, e]))
      have HO2 : Hid ((w2.setCell ⟨w.heap.size, 4, none⟩ (.int .i64 ((m2 : Int) - 1))).ownsRow base 45 5 (.slice A2 m2 cc2) m2 (cellsN L2)) := by
        have h := own_keep hL2.own hkeep2
        rw [hm2] at h
        exact h
      clear hbx2 hL2 hm2 hmm2 h22 hkeep hkeep2
      go_wp2_with (at_builtin; refine wpList_append_own_at _ rfl _ _ 22 rfl base 45 i1 _ 5 48 Tryd.underlying22 hj0 hj1 hj2 hj3 rfl (by decide) _ m2 _ rfl (own_later HO2.out ?qc0) ⟨w2.heap.size, 0, none⟩ 1 1 (cellsNd1 ⟨6, 0, noT, (m1 : Int) - 1, (m2 : Int) - 1⟩) rfl rfl ?qc1 ones5 ?qc2 ?qc3 ?qc4 ?_)
      case qc0 => exact (Below.refl _ _).alloc (Nat.le_refl _) _
      case qc1 => exact news5 (w := w2.setCell ⟨w.heap.size, 4, none⟩ (.int .i64 ((m2 : Int) - 1))) (x := ⟨6, 0, noT, (m1 : Int) - 1, (m2 : Int) - 1⟩) (by simp)
      case qc2 => unfold maxLen; omega
      case qc3 => omega
      case qc4 => simp; omega
      intro v3 w3 hown3 hgrow _ hat
      have HR := hid_of (laid_join (w := w) (W := w.alloc (.cells #[.int .i64 6, .int .i64 0, .string noT, .int .i64 (a : Int), .int .i64 (c : Int)] 45)) (x := ⟨6, 0, noT, (m1 : Int) - 1, (m2 : Int) - 1⟩) (by go_grown) HL1.out rfl HL2.out rfl (by rw [Hm2.out]; exact hown3) hgrow (hat.imp id fun e => ⟨_, e, by first | omega | (simp; omega)⟩))
      clear hown3 hgrow hat
      go_wp2_with fail
      go_ret
      refine ⟨_, rfl, ?_⟩
      have hR := HR.out
      have e1 : O ++ post (swapT (treeOf l i)) O.length = L2 ++ [⟨6, 0, noT, (m1 : Int) - 1, (m2 : Int) - 1⟩] := by
        rw [← HL2e.out, HS.out, post, Hm1.out, swap_siz, swap_siz, Hmm.out, Hmm2.out]
        have q1 : ((m1 - 1 : Nat) : Int) = (m1 : Int) - 1 := by omega
        have q2 : ((m2 - 1 : Nat) : Int) = (m2 : Int) - 1 := by omega
        rw [q1, q2]
        simp only [List.append_assoc]
      rw [e1]
      exact hR
end Go.Proofs.YtklfenojapgmnaeDoor

namespace Go.Proofs.YtklfenojapgmnaeDoor
open Go.ChangeShapes Go.WideShapes Go.ChangeAt Go.RowKit
set_option maxRecDepth 20000

theorem nds_own {w : World} {base : Nat} {v : Value} {L : List Nd} (h : w.ownsRow base 45 5 v L.length (cellsN L)) : ∃ A c, v = .slice A L.length c ∧ NdsV w A c L := by
  rcases h.2 with ⟨rfl, h0⟩ | ⟨g, cap, cur, rfl, hb, hg, h4, h5, h6, h7⟩
  · have hL : L = [] := List.eq_nil_of_length_eq_zero h0
    subst hL
    exact ⟨none, 0, rfl, NdsV.nil _ _ _ (by omega)⟩
  · refine ⟨_, _, rfl, h4, by unfold maxLen at h5; omega, Or.inr ⟨g, 0, rfl, (Array.getElem?_eq_some_iff.1 hg).1, fun k hk => ?_⟩⟩
    obtain ⟨x0, x1, x2, x3, x4⟩ := cellsN_at L k hk
    rw [← h7, List.getElem?_take, if_pos (by omega), Array.getElem?_toList] at x0 x1 x2 x3 x4
    rw [Nat.zero_add]
    exact ⟨by simp [World.cell?, hg, x0], by simp [World.cell?, hg, x1], by simp [World.cell?, hg, x2], by simp [World.cell?, hg, x3], by simp [World.cell?, hg, x4]⟩

set_option maxHeartbeats 2000000 in
theorem swap_any (A : Option Addr) (cap : Nat) (l : List Nd) (w : World) (hL : NdsV w A cap l) :
    Calls Tryd.prog 13 #[.slice A l.length cap] w fun e w' => (∃ A' c', e = .returned (.tuple #[.slice A' (swpL l).length c', errV (formErr l)]) ∧ NdsV w' A' c' (swpL l)) ∧ Below w.heap.size w w' := by
  have hck := fchk_any A cap l w hL
  by_cases h0 : formErr l = 0
  case neg =>
    have hs : swpL l = [] := by unfold swpL; rw [if_neg h0]
    rw [hs]
    rw [errV_some h0] at hck ⊢
    clear h0 hs hL
    go_enter Tryd.func13, Tryd.ntmps13
    go_wp2_with fail
    refine hck.mono ?_
    rintro e w1 ⟨rfl, hb1⟩
    go_wp2_with fail
    go_ret2
    exact ⟨⟨none, 0, rfl, NdsV.nil _ _ _ (by omega)⟩, hb1⟩
  obtain ⟨hp, h30, hg, -⟩ := form_right h0
  have hsz := siz_tree h0
  have hsl : swpL l = post (swapT (treeOf l (l.length - 1))) 0 := by unfold swpL; rw [if_pos h0]
  rw [h0, errV_zero] at hck ⊢
  obtain ⟨-, -, h1 | ⟨b, o, rfl, hNA⟩⟩ := hL
  · rw [h1] at hp; simp at hp
  have HLay : Hid (∀ w', Below w.heap.size w w' → Calls Tryd.prog 28 #[.slice none 0 0, .slice (some ⟨b, o, none⟩) l.length cap, .int .i64 ((l.length - 1 : Nat) : Int)] w' fun e w'' => (∃ A' c', e = .returned (.slice A' (swpL l).length c') ∧ NdsV w'' A' c' (swpL l)) ∧ Below w'.heap.size w' w'') := by
    intro w' hb
    refine (lay_any b o cap l hg h30 (l.length - 1) (by omega) w'.heap.size (.slice none 0 0) [] w' (by simp; omega) (Nat.lt_of_lt_of_le hNA.1 hb.size) (Nat.le_refl _) (hNA.later hb) (World.ownsRow_nil _ _ _ _)).mono ?_
    rintro e w'' ⟨v', rfl, hLd⟩
    have ho := hLd.own
    rw [List.nil_append, List.length_nil, ← hsl] at ho
    obtain ⟨A', c', rfl, hV⟩ := nds_own ho
    refine ⟨⟨A', c', rfl, hV⟩, ⟨hLd.kept.os, hLd.kept.tape, hLd.kept.output, hLd.kept.size, fun k hk => hLd.kept.block k hk (by simp [Value.ownBlock])⟩⟩
  have hli : (l.length : Int) ≤ 30 := by omega
  have hl1 : 1 ≤ (l.length : Int) := by omega
  have hsub : (l.length : Int) - 1 = ((l.length - 1 : Nat) : Int) := by omega
  obtain ⟨m, hm⟩ : ∃ m, l.length - 1 = m := ⟨_, rfl⟩
  rw [hm] at HLay hsub
  clear hsl hsz hg hNA hp hm h0
  go_enter Tryd.func13, Tryd.ntmps13
  go_wp2_with fail
  refine hck.mono ?_
  rintro e w1 ⟨rfl, hb1⟩
  have HB1 : Hid (Below w.heap.size w w1) := hb1
  clear hb1 hck
  go_wp2_with fail
  refine (HLay.out _ HB1.out).mono ?_
  rintro e w2 ⟨⟨A', c', rfl, hV⟩, hb2⟩
  have HV := hid_of hV
  have HB2 := hid_of (onB HB1.out hb2)
  clear hV hb2
  go_wp2_with fail
  go_ret2
  exact ⟨⟨A', c', rfl, HV.out⟩, HB2.out⟩

theorem const1_any (x : Nd) (w : World) : Calls Tryd.prog 30 #[ndV x] w fun e w' => e = .returned (.bool (decide (x.op = 2))) ∧ Below w.heap.size w w' := by
  rw [ndV_def]
  go_enter Tryd.func30, Tryd.ntmps30
  go_wp2_with fail
  go_ret
  exact ⟨rfl, by go_grown⟩
theorem ent_const1 (args : Array Value) (w : World) : (callFunc 30 args).run Tryd.prog w = .ok (.enter 30 args) w := by simp [go_sem]
theorem index_nds (b o cap : Nat) (l : List Nd) (w : World) (hn : l.length ≤ 30) (hN : NdsAt w b o l) :
    Calls Tryd.prog 45 #[.slice (some ⟨b, o, none⟩) l.length cap, .func (.func 30) #[] #[]] w fun e w' => e = .returned (.int .i64 (findFrom (refB l) l.length 0)) ∧ Below w.heap.size w w' := by
  have HN : Hid (NdsAt w b o l) := hN
  obtain ⟨n, hn'⟩ : ∃ n, l.length = n := ⟨_, rfl⟩
  have HL : Hid (l.length = n) := hn'
  rw [hn'] at hn ⊢
  have he := ent_const1
  clear hN hn'
  go_enter Tryd.func45, Tryd.ntmps45
  go_wp2_with fail
  go_loopg [8] n (fun g s8 wr => ∃ (k : Nat), k ≤ n ∧ g = n - k ∧ s8 = .int .i64 k ∧ findFrom (refB l) (n - k) k = findFrom (refB l) n 0 ∧ Below w.heap.size w wr)
  case atStart => exact ⟨0, Nat.zero_le _, rfl, rfl, rfl, Below.refl _ _⟩
  case round =>
    obtain ⟨k, hk, rfl, rfl, hf, hBw⟩ := hrel
    by_cases hlt : k < n
    · obtain ⟨x0, x1, x2, x3, x4⟩ := (HN.out.later hBw).nd (k := k) (by rw [HL.out]; exact hlt)
      have hki : (k : Int) < (n : Int) := by omega
      have HF : Hid (findFrom (refB l) (n - k) k = findFrom (refB l) n 0) := hf
      have HW : Hid (Below w.heap.size w wr) := hBw
      have hsk : n - k = (n - (k + 1)) + 1 := by omega
      have hbd := const1_any (l.getD k noN)
      have hs8 : (n : Int) ≤ 30 := by omega
      obtain ⟨x, hx⟩ : ∃ x, l.getD k noN = x := ⟨_, rfl⟩
      have HX : Hid (refB l k = decide (x.op = 2)) := by show _ = _; unfold refB; rw [hx]
      rw [hx] at x0 x1 x2 x3 x4 hbd
      rw [ndV_def] at hbd
      clear hf hBw hx
      cases hb : decide (x.op = 2)
      · rw [hb] at hbd
        have HK : Hid (refB l k = false) := by show _ = _; rw [HX.out, hb]
        clear hb
        go_wp2_with fail
        refine (hbd _).mono ?_
        rintro e w1 ⟨rfl, hb1⟩
        go_wp2_with fail
        go_roundg (n - (k + 1))
        case measure => omega
        case rel => exact ⟨k + 1, by omega, rfl, by go_num, by rw [← HF.out, hsk, findFrom_miss _ HK.out], onB HW.out hb1⟩
      · rw [hb] at hbd
        have HK : Hid (refB l k = true) := by show _ = _; rw [HX.out, hb]
        clear hb
        go_wp2_with fail
        refine (hbd _).mono ?_
        rintro e w1 ⟨rfl, hb1⟩
        go_wp2_with fail
        go_ret
        exact ⟨by rw [← HF.out, hsk, findFrom_hit _ HK.out]; rfl, onB HW.out hb1⟩
    · have hke : k = n := by omega
      subst hke
      go_wp2_with fail
      go_ret
      exact ⟨by rw [← hf, Nat.sub_self]; rfl, hBw⟩
theorem contains_nds (b o cap : Nat) (l : List Nd) (w : World) (hn : l.length ≤ 30) (hN : NdsAt w b o l) :
    Calls Tryd.prog 29 #[.slice (some ⟨b, o, none⟩) l.length cap, .func (.func 30) #[] #[]] w fun e w' => e = .returned (.bool (decide (0 ≤ findFrom (refB l) l.length 0))) ∧ Below w.heap.size w w' := by
  have h := index_nds b o cap l w hn hN
  clear hN
  go_enter Tryd.func29, Tryd.ntmps29
  go_wp2_with fail
  refine h.mono ?_
  rintro e w1 ⟨rfl, hb1⟩
  go_wp2_with fail
  go_ret
  exact ⟨rfl, hb1⟩

set_option maxHeartbeats 2000000 in
theorem const_any (A : Option Addr) (cap : Nat) (l : List Nd) (w : World) (hL : NdsV w A cap l) :
    Calls Tryd.prog 15 #[.slice A l.length cap] w fun e w' => e = .returned (.tuple #[.bool (cstB l), errV (formErr l)]) ∧ Below w.heap.size w w' := by
  have hck := fchk_any A cap l w hL
  by_cases h0 : formErr l = 0
  case neg =>
    have hs : cstB l = false := by unfold cstB; rw [decide_eq_false h0]; rfl
    rw [hs]
    rw [errV_some h0] at hck ⊢
    clear h0 hs hL
    go_enter Tryd.func15, Tryd.ntmps15
    go_wp2_with fail
    refine hck.mono ?_
    rintro e w1 ⟨rfl, hb1⟩
    go_wp2_with fail
    go_ret2
    exact ⟨rfl, hb1⟩
  obtain ⟨hp, h30, hg, -⟩ := form_right h0
  obtain ⟨-, -, h1 | ⟨b, o, rfl, hNA⟩⟩ := hL
  · rw [h1] at hp; simp at hp
  have hcb : cstB l = !(decide (0 ≤ findFrom (refB l) l.length 0)) := by
    unfold cstB
    rw [decide_eq_true h0, Bool.true_and]
    rcases findFrom_cases (refB l) l.length 0 with ⟨e, h5⟩ | ⟨m, e, h2, h3, h4, h5⟩
    · rw [e, const_yes h0 (fun i hi => h5 i (Nat.zero_le _) (by omega))]; rfl
    · rw [e, const_no h0 (i := m) (by omega) h4, decide_eq_true (by omega)]; rfl
  rw [hcb]
  rw [h0, errV_zero] at hck ⊢
  have hct := fun w' (hb : Below w.heap.size w w') => contains_nds b o cap l w' h30 (hNA.later hb)
  generalize decide (0 ≤ findFrom (refB l) l.length 0) = t at hct ⊢
  clear h0 hNA hcb hg hp
  go_enter Tryd.func15, Tryd.ntmps15
  go_wp2_with fail
  refine hck.mono ?_
  rintro e w1 ⟨rfl, hb1⟩
  have HB1 : Hid (Below w.heap.size w w1) := hb1
  clear hb1 hck
  go_wp2_with fail
  refine (hct _ HB1.out).mono ?_
  rintro e w2 ⟨rfl, hb2⟩
  have HB2 := hid_of (onB HB1.out hb2)
  clear hb2 hct
  go_wp2_with fail
  go_ret2
  exact ⟨rfl, HB2.out⟩
end Go.Proofs.YtklfenojapgmnaeDoor

namespace Go.Proofs.YtklfenojapgmnaeDoor
open Go.ChangeShapes Go.WideShapes Go.ChangeAt Go.RowKit

theorem rof_any (n : Int) (w : World) : Calls Tryd.prog 18 #[.int .i64 n] w fun e w' => e = .returned (.agg #[.int .i64 (ofP n).1, .int .i64 (ofP n).2]) ∧ Below w.heap.size w w' := by
  by_cases h1 : n < -1000000000000
  · rw [ofP_out (by omega)]
    go_enter Tryd.func18, Tryd.ntmps18
    go_wp2
    go_returns
    exact ⟨rfl, by go_grown⟩
  · by_cases h2 : 1000000000000 < n
    · rw [ofP_out (by omega)]
      go_enter Tryd.func18, Tryd.ntmps18
      go_wp2
      go_returns
      exact ⟨rfl, by go_grown⟩
    · rw [ofP_in (by omega) (by omega)]
      go_enter Tryd.func18, Tryd.ntmps18
      go_wp2
      go_returns
      exact ⟨rfl, by go_grown⟩

theorem rcell_no (k n : Int) (w : World) (h : good k n = false) : Calls Tryd.prog 6 #[.agg #[.int .i64 k, .int .i64 n]] w fun e w' => e = .returned (.int .i64 1) ∧ Below w.heap.size w w' := by
  have h' : ¬ ((k = 1 ∧ -1000000000000 ≤ n ∧ n ≤ 1000000000000) ∨ ((k = 0 ∨ k = 2) ∧ n = 0)) := by simpa [good] using h
  by_cases h1 : k < 0
  · clear h'
    go_enter Tryd.func6, Tryd.ntmps6
    go_wp2
    go_ret
    exact ⟨rfl, by go_grown⟩
  · by_cases h2 : 2 < k
    · clear h'
      go_enter Tryd.func6, Tryd.ntmps6
      go_wp2
      go_ret
      exact ⟨rfl, by go_grown⟩
    · by_cases h3 : n < -1000000000000
      · clear h'
        go_enter Tryd.func6, Tryd.ntmps6
        go_wp2
        go_ret
        exact ⟨rfl, by go_grown⟩
      · by_cases h4 : 1000000000000 < n
        · clear h'
          go_enter Tryd.func6, Tryd.ntmps6
          go_wp2
          go_ret
          exact ⟨rfl, by go_grown⟩
        · have h5 : (k != 1) = true := by simp; omega
          have h6 : (n != 0) = true := by simp; omega
          clear h' h
          go_enter Tryd.func6, Tryd.ntmps6
          go_wp2
          go_ret
          exact ⟨rfl, by go_grown⟩
theorem rcell_yes (k n : Int) (w : World) (h : good k n = true) : Calls Tryd.prog 6 #[.agg #[.int .i64 k, .int .i64 n]] w fun e w' => e = .returned (.int .i64 0) ∧ Below w.heap.size w w' := by
  have h' : (k = 1 ∧ -1000000000000 ≤ n ∧ n ≤ 1000000000000) ∨ ((k = 0 ∨ k = 2) ∧ n = 0) := by simpa [good] using h
  clear h
  rcases h' with ⟨rfl, h1, h2⟩ | ⟨rfl | rfl, rfl⟩
  all_goals
    go_enter Tryd.func6, Tryd.ntmps6
    go_wp2
    go_ret
    exact ⟨rfl, by go_grown⟩

theorem rsize_any (n : Int) (w : World) (h1 : -1000000000000 ≤ n) (h2 : n ≤ 1000000000000) : Calls Tryd.prog 35 #[.int .i64 n] w fun e w' => e = .returned (.int .i64 (ab n)) ∧ w' = w := by
  unfold ab
  by_cases h : n < 0
  · rw [if_pos h]
    go_enter Tryd.func35, Tryd.ntmps35
    go_wp2
    go_ret
    exact ⟨rfl, rfl⟩
  · rw [if_neg h]
    go_enter Tryd.func35, Tryd.ntmps35
    go_wp2
    go_ret
    exact ⟨rfl, rfl⟩
end Go.Proofs.YtklfenojapgmnaeDoor

namespace Go.Proofs.YtklfenojapgmnaeDoor
open Go.ChangeShapes Go.WideShapes Go.ChangeAt Go.RowKit

def RefTo (f : Nat) (args : Array Value) (r : Int × Int) : Prop := ∀ (w : World), Calls Tryd.prog f args w fun e w' => e = .returned (.agg #[.int .i64 r.1, .int .i64 r.2]) ∧ Below w.heap.size w w'

theorem bool2 {k : Int} (h : ¬ k = 2) : (k == 2) = false := by simpa using h
theorem bool0 {k : Int} (h : ¬ k = 0) : (k == 0) = false := by simpa using h

theorem rplus_made (ka na kb nb sg r : Int) (w : World) (q1 : (ka == 2) = false) (q2 : (kb == 2) = false) (q3 : ((ka == 0) && (kb == 0)) = false) (hm : wrap64 (na + wrap64 (sg * nb)) = r) :
    Calls Tryd.prog 19 #[.agg #[.int .i64 ka, .int .i64 na], .agg #[.int .i64 kb, .int .i64 nb], .int .i64 sg] w fun e w' => e = .returned (.agg #[.int .i64 (ofP r).1, .int .i64 (ofP r).2]) ∧ Below w.heap.size w w' := by
  subst hm
  have HR := rof_any (wrap64 (na + wrap64 (sg * nb)))
  cases q4 : (ka == 0)
  all_goals
    rw [q4] at q3
    try simp only [Bool.true_and, Bool.false_and] at q3
    go_enter Tryd.func19, Tryd.ntmps19
    go_wp2_with fail
    refine (HR _).mono ?_
    rintro e w1 ⟨rfl, hb⟩
    have hB : Below w.heap.size w w1 := Below.trans (by go_grown) (hb.mono (by simp; omega))
    obtain ⟨hc, hf⟩ := bcell hb
    have hz := bsize hb
    simp at hz
    go_wp2_with fail
    refine bodyPost_ret (v := .agg #[.int .i64 (ofP (wrap64 (na + wrap64 (sg * nb)))).1, .int .i64 (ofP (wrap64 (na + wrap64 (sg * nb)))).2]) (by simp [results, Tryd.results19, go_sem, hc]) rfl ⟨rfl, ?_⟩
    go_grown

theorem rplus_fault (ka na kb nb sg : Int) (w : World) (h : ka = 2 ∨ kb = 2) : Calls Tryd.prog 19 #[.agg #[.int .i64 ka, .int .i64 na], .agg #[.int .i64 kb, .int .i64 nb], .int .i64 sg] w fun e w' => e = .returned (.agg #[.int .i64 2, .int .i64 0]) ∧ Below w.heap.size w w' := by
  by_cases h1 : ka = 2
  · subst h1
    clear h
    go_enter Tryd.func19, Tryd.ntmps19
    go_wp2
    go_returns
    exact ⟨rfl, by go_grown⟩
  · have q1 := bool2 h1
    have h2 : kb = 2 := by omega
    subst h2
    clear h h1
    go_enter Tryd.func19, Tryd.ntmps19
    go_wp2
    go_returns
    exact ⟨rfl, by go_grown⟩

theorem rplus_blank (na nb sg : Int) (w : World) : Calls Tryd.prog 19 #[.agg #[.int .i64 0, .int .i64 na], .agg #[.int .i64 0, .int .i64 nb], .int .i64 sg] w fun e w' => e = .returned (.agg #[.int .i64 0, .int .i64 0]) ∧ Below w.heap.size w w' := by
  go_enter Tryd.func19, Tryd.ntmps19
  go_wp2
  go_returns
  exact ⟨rfl, by go_grown⟩

theorem rplus_any (ka na kb nb sg r : Int) (hr : wrap64 (na + wrap64 (sg * nb)) = r) : RefTo 19 #[.agg #[.int .i64 ka, .int .i64 na], .agg #[.int .i64 kb, .int .i64 nb], .int .i64 sg] (joinP (!(ka != 0 || kb != 0)) ka kb (ofP r)) := by
  intro w
  unfold joinP
  by_cases h2 : ka = 2 ∨ kb = 2
  · rw [if_pos h2]
    exact rplus_fault ka na kb nb sg w h2
  · rw [if_neg h2]
    by_cases h0 : ka = 0 ∧ kb = 0
    · obtain ⟨rfl, rfl⟩ := h0
      exact rplus_blank na nb sg w
    · rw [if_neg (by simp; omega)]
      exact rplus_made ka na kb nb sg r w (bool2 (by omega)) (bool2 (by omega)) (by simp; omega) hr
theorem rplus_plus (ka na kb nb : Int) (ha : good ka na = true) (hb : good kb nb = true) : RefTo 19 #[.agg #[.int .i64 ka, .int .i64 na], .agg #[.int .i64 kb, .int .i64 nb], .int .i64 1] (plusP ka na kb nb) := by
  obtain ⟨a1, a2⟩ := good_bd ha
  obtain ⟨b1, b2⟩ := good_bd hb
  exact rplus_any ka na kb nb 1 (na + nb) (by unfold wrap64; omega)
theorem rplus_minus (ka na kb nb : Int) (ha : good ka na = true) (hb : good kb nb = true) : RefTo 19 #[.agg #[.int .i64 ka, .int .i64 na], .agg #[.int .i64 kb, .int .i64 nb], .int .i64 (-1)] (minusP ka na kb nb) := by
  obtain ⟨a1, a2⟩ := good_bd ha
  obtain ⟨b1, b2⟩ := good_bd hb
  exact rplus_any ka na kb nb (-1) (na - nb) (by unfold wrap64; omega)

theorem rtimes_fault (ka na kb nb : Int) (w : World) (h : ka = 2 ∨ kb = 2) : Calls Tryd.prog 20 #[.agg #[.int .i64 ka, .int .i64 na], .agg #[.int .i64 kb, .int .i64 nb]] w fun e w' => e = .returned (.agg #[.int .i64 2, .int .i64 0]) ∧ Below w.heap.size w w' := by
  by_cases h1 : ka = 2
  · subst h1
    clear h
    go_enter Tryd.func20, Tryd.ntmps20
    go_wp2
    go_returns
    exact ⟨rfl, by go_grown⟩
  · have q1 := bool2 h1
    have h2 : kb = 2 := by omega
    subst h2
    clear h h1
    go_enter Tryd.func20, Tryd.ntmps20
    go_wp2
    go_returns
    exact ⟨rfl, by go_grown⟩

theorem rover_fault (ka na kb nb : Int) (w : World) (h : ka = 2 ∨ kb = 2) : Calls Tryd.prog 21 #[.agg #[.int .i64 ka, .int .i64 na], .agg #[.int .i64 kb, .int .i64 nb]] w fun e w' => e = .returned (.agg #[.int .i64 2, .int .i64 0]) ∧ Below w.heap.size w w' := by
  by_cases h1 : ka = 2
  · subst h1
    clear h
    go_enter Tryd.func21, Tryd.ntmps21
    go_wp2
    go_returns
    exact ⟨rfl, by go_grown⟩
  · have q1 := bool2 h1
    have h2 : kb = 2 := by omega
    subst h2
    clear h h1
    go_enter Tryd.func21, Tryd.ntmps21
    go_wp2
    go_returns
    exact ⟨rfl, by go_grown⟩

theorem rtimes_blank (ka na kb nb : Int) (w : World) (q1 : (ka == 2) = false) (q2 : (kb == 2) = false) (h : ka = 0 ∨ kb = 0) : Calls Tryd.prog 20 #[.agg #[.int .i64 ka, .int .i64 na], .agg #[.int .i64 kb, .int .i64 nb]] w fun e w' => e = .returned (.agg #[.int .i64 0, .int .i64 0]) ∧ Below w.heap.size w w' := by
  by_cases h1 : ka = 0
  · subst h1
    clear h q1
    go_enter Tryd.func20, Tryd.ntmps20
    go_wp2
    go_returns
    exact ⟨rfl, by go_grown⟩
  · have q3 := bool0 h1
    have h2 : kb = 0 := by omega
    subst h2
    clear h h1 q2
    go_enter Tryd.func20, Tryd.ntmps20
    go_wp2
    go_returns
    exact ⟨rfl, by go_grown⟩

theorem rover_blank (ka na kb nb : Int) (w : World) (q1 : (ka == 2) = false) (q2 : (kb == 2) = false) (h : ka = 0 ∨ kb = 0) : Calls Tryd.prog 21 #[.agg #[.int .i64 ka, .int .i64 na], .agg #[.int .i64 kb, .int .i64 nb]] w fun e w' => e = .returned (.agg #[.int .i64 0, .int .i64 0]) ∧ Below w.heap.size w w' := by
  by_cases h1 : ka = 0
  · subst h1
    clear h q1
    go_enter Tryd.func21, Tryd.ntmps21
    go_wp2
    go_returns
    exact ⟨rfl, by go_grown⟩
  · have q3 := bool0 h1
    have h2 : kb = 0 := by omega
    subst h2
    clear h h1 q2
    go_enter Tryd.func21, Tryd.ntmps21
    go_wp2
    go_returns
    exact ⟨rfl, by go_grown⟩

set_option maxHeartbeats 1000000 in
theorem rtimes_made (ka na kb nb : Int) (w : World) (q1 : (ka == 2) = false) (q2 : (kb == 2) = false) (q3 : (ka == 0) = false) (q4 : (kb == 0) = false) (a1 : -1000000000000 ≤ na) (a2 : na ≤ 1000000000000) (b1 : -1000000000000 ≤ nb) (b2 : nb ≤ 1000000000000) :
    Calls Tryd.prog 20 #[.agg #[.int .i64 ka, .int .i64 na], .agg #[.int .i64 kb, .int .i64 nb]] w fun e w' => e = .returned (.agg #[.int .i64 (ofP (na * nb)).1, .int .i64 (ofP (na * nb)).2]) ∧ Below w.heap.size w w' := by
  obtain ⟨ax0, ax1⟩ := ab_in a1 a2
  obtain ⟨ay0, ay1⟩ := ab_in b1 b2
  have hsx := rsize_any na
  have hsy := rsize_any nb
  by_cases hz0 : na = 0
  · subst hz0
    have hx0 : ab 0 = 0 := rfl
    rw [hx0] at hsx
    have ho := rof_any (0 * nb)
    rw [Int.zero_mul] at ho ⊢
    clear hx0 ax0 ax1
    go_enter Tryd.func20, Tryd.ntmps20
    go_wp2_with fail
    refine (hsx _ a1 a2).mono ?_
    rintro e w1 ⟨rfl, rfl⟩
    go_wp2_with fail
    refine (hsy _ b1 b2).mono ?_
    rintro e w1 ⟨rfl, rfl⟩
    go_wp2_with fail
    refine (ho _).mono ?_
    rintro e w1 ⟨rfl, hb⟩
    have hB : Below w.heap.size w w1 := Below.trans (by go_grown) (hb.mono (by simp; omega))
    obtain ⟨hc, hf⟩ := bcell hb
    have hz := bsize hb
    simp at hz
    go_wp2_with fail
    refine bodyPost_ret (v := .agg #[.int .i64 (ofP 0).1, .int .i64 (ofP 0).2]) (by simp [results, Tryd.results20, go_sem, hc]) rfl ⟨rfl, ?_⟩
    go_grown
  · have ap := ab_pos hz0
    by_cases hg : 1000000000000 / ab na < ab nb
    · have hout : ofP (na * nb) = (2, 0) := by
        refine ofP_out (ab_out (m := 1000000000000) ?_)
        rw [ab_mul, Int.mul_comm]
        exact (Int.ediv_lt_iff_lt_mul (by omega)).mp hg
      rw [hout]
      go_enter Tryd.func20, Tryd.ntmps20
      go_wp2_with fail
      refine (hsx _ a1 a2).mono ?_
      rintro e w1 ⟨rfl, rfl⟩
      go_wp2_with fail
      refine (hsy _ b1 b2).mono ?_
      rintro e w1 ⟨rfl, rfl⟩
      go_wp2
      go_returns
      exact ⟨rfl, by go_grown⟩
    · have hin : ab (na * nb) ≤ 1000000000000 := by
        rw [ab_mul, Int.mul_comm]
        exact Int.not_lt.mp (fun h => hg ((Int.ediv_lt_iff_lt_mul (by omega)).mpr h))
      obtain ⟨hp1, hp2⟩ := ab_bd hin
      have ho := rof_any (na * nb)
      clear hin
      go_enter Tryd.func20, Tryd.ntmps20
      go_wp2_with fail
      refine (hsx _ a1 a2).mono ?_
      rintro e w1 ⟨rfl, rfl⟩
      go_wp2_with fail
      refine (hsy _ b1 b2).mono ?_
      rintro e w1 ⟨rfl, rfl⟩
      go_wp2_with fail
      refine (ho _).mono ?_
      rintro e w1 ⟨rfl, hb⟩
      have hB : Below w.heap.size w w1 := Below.trans (by go_grown) (hb.mono (by simp; omega))
      obtain ⟨hc, hf⟩ := bcell hb
      have hz := bsize hb
      simp at hz
      go_wp2_with fail
      refine bodyPost_ret (v := .agg #[.int .i64 (ofP (na * nb)).1, .int .i64 (ofP (na * nb)).2]) (by simp [results, Tryd.results20, go_sem, hc]) rfl ⟨rfl, ?_⟩
      go_grown

theorem rtimes_any (ka na kb nb : Int) (ha : good ka na = true) (hb : good kb nb = true) : RefTo 20 #[.agg #[.int .i64 ka, .int .i64 na], .agg #[.int .i64 kb, .int .i64 nb]] (timesP ka na kb nb) := by
  obtain ⟨a1, a2⟩ := good_bd ha
  obtain ⟨b1, b2⟩ := good_bd hb
  intro w
  unfold timesP joinP
  by_cases h2 : ka = 2 ∨ kb = 2
  · rw [if_pos h2]
    exact rtimes_fault ka na kb nb w h2
  · rw [if_neg h2]
    by_cases h0 : ka = 0 ∨ kb = 0
    · rw [if_pos (by simp; omega)]
      exact rtimes_blank ka na kb nb w (bool2 (by omega)) (bool2 (by omega)) h0
    · rw [if_neg (by simp; omega)]
      exact rtimes_made ka na kb nb w (bool2 (by omega)) (bool2 (by omega)) (bool0 (by omega)) (bool0 (by omega)) a1 a2 b1 b2
end Go.Proofs.YtklfenojapgmnaeDoor

namespace Go.Proofs.YtklfenojapgmnaeDoor
open Go.ChangeShapes Go.WideShapes Go.ChangeAt Go.RowKit

theorem tdiv_ab (x y : Int) : x.tdiv y = if (decide (x < 0) != decide (y < 0)) = true then -(ab x / ab y) else ab x / ab y := by
  unfold ab
  by_cases hx : x < 0 <;> by_cases h : y < 0
  · rw [if_neg (by simp [hx, h]), if_pos hx, if_pos h]
    rw [← Int.tdiv_eq_ediv_of_nonneg (by omega), Int.neg_tdiv, Int.tdiv_neg, Int.neg_neg]
  · rw [if_pos (by simp [hx, h]), if_pos hx, if_neg h]
    rw [← Int.tdiv_eq_ediv_of_nonneg (by omega), Int.neg_tdiv, Int.neg_neg]
  · rw [if_pos (by simp [hx, h]), if_neg hx, if_pos h]
    rw [← Int.tdiv_eq_ediv_of_nonneg (by omega), Int.tdiv_neg, Int.neg_neg]
  · rw [if_neg (by simp [hx, h]), if_neg hx, if_neg h]
    rw [← Int.tdiv_eq_ediv_of_nonneg (by omega)]

theorem rover_zero (ka na kb : Int) (w : World) (q1 : (ka == 2) = false) (q2 : (kb == 2) = false) (q3 : (ka == 0) = false) (q4 : (kb == 0) = false) :
    Calls Tryd.prog 21 #[.agg #[.int .i64 ka, .int .i64 na], .agg #[.int .i64 kb, .int .i64 0]] w fun e w' => e = .returned (.agg #[.int .i64 2, .int .i64 0]) ∧ Below w.heap.size w w' := by
  go_enter Tryd.func21, Tryd.ntmps21
  go_wp2
  go_returns
  exact ⟨rfl, by go_grown⟩

set_option maxHeartbeats 1000000 in
theorem rover_made (ka na kb nb : Int) (w : World) (q1 : (ka == 2) = false) (q2 : (kb == 2) = false) (q3 : (ka == 0) = false) (q4 : (kb == 0) = false) (a1 : -1000000000000 ≤ na) (a2 : na ≤ 1000000000000) (b1 : -1000000000000 ≤ nb) (b2 : nb ≤ 1000000000000) (h0 : (nb == 0) = false) (hy : ¬ nb = 0) :
    Calls Tryd.prog 21 #[.agg #[.int .i64 ka, .int .i64 na], .agg #[.int .i64 kb, .int .i64 nb]] w fun e w' => e = .returned (.agg #[.int .i64 (ofP (na.tdiv nb)).1, .int .i64 (ofP (na.tdiv nb)).2]) ∧ Below w.heap.size w w' := by
  obtain ⟨ax0, ax1⟩ := ab_in a1 a2
  obtain ⟨_, ay1⟩ := ab_in b1 b2
  have ay0 := ab_pos hy
  have hsx := rsize_any na
  have hsy := rsize_any nb
  have hq0 : 0 ≤ ab na / ab nb := Int.ediv_nonneg ax0 (by omega)
  have hq1 : ab na / ab nb ≤ 1000000000000 := Int.le_trans (Int.ediv_le_self _ ax0) ax1
  rw [tdiv_ab]
  by_cases hsg : (decide (na < 0) != decide (nb < 0)) = true
  · rw [if_pos hsg]
    have hs1 : (decide (na < 0) == decide (nb < 0)) = false := by simpa using hsg
    clear hsg
    have ho := rof_any (-(ab na / ab nb))
    go_enter Tryd.func21, Tryd.ntmps21
    go_wp2_with fail
    go_quiet (first | (go_at_call_of 35 na; exact Calls.quiet_of_same (hsx _ a1 a2)) | (go_at_call_of 35 nb; exact Calls.quiet_of_same (hsy _ b1 b2)))
    go_wp2_with fail
    refine (ho _).mono ?_
    rintro e w1 ⟨rfl, hb⟩
    have hB : Below w.heap.size w w1 := Below.trans (below_drewN (by go_grown) _) (hb.mono (by show _ ≤ (World.alloc _ _).heap.size; simp; omega))
    obtain ⟨hc, hf⟩ := bcell hb
    have hz := bsize hb
    simp at hz
    go_wp2_with fail
    refine bodyPost_ret (v := .agg #[.int .i64 (ofP (-(ab na / ab nb))).1, .int .i64 (ofP (-(ab na / ab nb))).2]) (by simp [results, Tryd.results21, go_sem, hc]) rfl ⟨rfl, ?_⟩
    go_grown
  · rw [if_neg hsg]
    have hs1 : (decide (na < 0) == decide (nb < 0)) = true := by simpa using hsg
    clear hsg
    have ho := rof_any (ab na / ab nb)
    go_enter Tryd.func21, Tryd.ntmps21
    go_wp2_with fail
    go_quiet (first | (go_at_call_of 35 na; exact Calls.quiet_of_same (hsx _ a1 a2)) | (go_at_call_of 35 nb; exact Calls.quiet_of_same (hsy _ b1 b2)))
    go_wp2_with fail
    refine (ho _).mono ?_
    rintro e w1 ⟨rfl, hb⟩
    have hB : Below w.heap.size w w1 := Below.trans (below_drewN (by go_grown) _) (hb.mono (by show _ ≤ (World.alloc _ _).heap.size; simp; omega))
    obtain ⟨hc, hf⟩ := bcell hb
    have hz := bsize hb
    simp at hz
    go_wp2_with fail
    refine bodyPost_ret (v := .agg #[.int .i64 (ofP (ab na / ab nb)).1, .int .i64 (ofP (ab na / ab nb)).2]) (by simp [results, Tryd.results21, go_sem, hc]) rfl ⟨rfl, ?_⟩
    go_grown

theorem rover_any (ka na kb nb : Int) (ha : good ka na = true) (hb : good kb nb = true) : RefTo 21 #[.agg #[.int .i64 ka, .int .i64 na], .agg #[.int .i64 kb, .int .i64 nb]] (overP ka na kb nb) := by
  obtain ⟨a1, a2⟩ := good_bd ha
  obtain ⟨b1, b2⟩ := good_bd hb
  intro w
  unfold overP joinP
  by_cases h2 : ka = 2 ∨ kb = 2
  · rw [if_pos h2]
    exact rover_fault ka na kb nb w h2
  · rw [if_neg h2]
    by_cases h0 : ka = 0 ∨ kb = 0
    · rw [if_pos (by simp; omega)]
      exact rover_blank ka na kb nb w (bool2 (by omega)) (bool2 (by omega)) h0
    · rw [if_neg (by simp; omega)]
      unfold quoP
      by_cases hy : nb = 0
      · subst hy
        rw [if_pos rfl]
        exact rover_zero ka na kb w (bool2 (by omega)) (bool2 (by omega)) (bool0 (by omega)) (bool0 (by omega))
      · rw [if_neg hy]
        exact rover_made ka na kb nb w (bool2 (by omega)) (bool2 (by omega)) (bool0 (by omega)) (bool0 (by omega)) a1 a2 b1 b2 (bool0 hy) hy
end Go.Proofs.YtklfenojapgmnaeDoor

namespace Go.Proofs.YtklfenojapgmnaeDoor
open Go.ChangeShapes Go.WideShapes Go.ChangeAt Go.RowKit
set_option maxRecDepth 20000

theorem toL_ne {x y : ByteArray} (h : ¬ y = x) : (y.toList == x.toList) = false := by
  rw [beq_eq_false_iff_ne]
  intro e
  apply h
  rw [Lib.toList_data, Lib.toList_data] at e
  obtain ⟨yd⟩ := y
  obtain ⟨xd⟩ := x
  exact congrArg ByteArray.mk (Array.toList_inj.1 e)

set_option maxHeartbeats 2000000 in
theorem rnamed_any (An : Option Addr) (cn : Nat) (N : List ByteArray) (x : ByteArray) (w : World) (hN : NmV w An cn N) :
    Calls Tryd.prog 8 #[.slice An N.length cn, .string x] w fun e w' => e = .returned (.int .i64 (whereS N x)) ∧ Below w.heap.size w w' := by
  have HN : Hid (NmV w An cn N) := hN
  unfold whereS
  obtain ⟨n, hn⟩ : ∃ n, N.length = n := ⟨_, rfl⟩
  have HL : Hid (N.length = n) := hn
  have hni : (n : Int) < 4611686018427387904 := by have := hN.2.1; omega
  rw [hn]
  clear hN hn
  go_enter Tryd.func8, Tryd.ntmps8
  go_wp2_with fail
  go_loopg [5] n (fun g s5 wr => ∃ (k : Nat), k ≤ n ∧ g = n - k ∧ s5 = .int .i64 k ∧ findFrom (isS N x) (n - k) k = findFrom (isS N x) n 0 ∧ Below w.heap.size w wr)
  case atStart => exact ⟨0, Nat.zero_le _, rfl, rfl, rfl, Below.refl _ _⟩
  case round =>
    obtain ⟨k, hk, rfl, rfl, hf, hBw⟩ := hrel
    have HF : Hid (findFrom (isS N x) (n - k) k = findFrom (isS N x) n 0) := hf
    have HW : Hid (Below w.heap.size w wr) := hBw
    clear hf hBw
    by_cases hlt : k < n
    · have hki : (k : Int) < (n : Int) := by omega
      have HK : Hid (n - k = (n - (k + 1)) + 1) := by show _ = _; omega
      obtain ⟨-, -, -, h0 | ⟨b, o, rfl, hb, hc⟩⟩ := HN.out.later HW.out
      · have := HL.out; rw [h0] at this; simp at this; omega
      have c0 := hc k (by rw [HL.out]; exact hlt)
      obtain ⟨y, hy⟩ : ∃ y, N.getD k noS = y := ⟨_, rfl⟩
      have HI : Hid (isS N x k = decide (y = x)) := by show _ = _; unfold isS; rw [hy]
      rw [hy] at c0
      clear hc hy
      by_cases hyx : y = x
      · have HH : Hid (isS N x k = true) := by show _ = _; rw [HI.out, decide_eq_true hyx]
        subst hyx
        go_wp2_with fail
        go_ret
        exact ⟨by rw [← HF.out, HK.out, findFrom_hit _ HH.out]; rfl, HW.out⟩
      · have HH : Hid (isS N x k = false) := by show _ = _; rw [HI.out, decide_eq_false hyx]
        have hne := toL_ne hyx
        clear hyx
        go_wp2_with fail
        go_roundg (n - (k + 1))
        case measure => omega
        case rel => exact ⟨k + 1, by omega, rfl, by go_num, by rw [← HF.out, HK.out, findFrom_miss _ HH.out], HW.out⟩
    · have hke : k = n := by omega
      subst hke
      go_wp2_with fail
      go_ret
      exact ⟨by rw [← HF.out, Nat.sub_self]; rfl, HW.out⟩

theorem miss_bin {N : List ByteArray} {o : Int} {a b : Tre} (h : missT N (.bin o a b) = false) : missT N a = false ∧ missT N b = false := by
  unfold missT at *
  rw [refsT, List.any_append, Bool.or_eq_false_iff] at h
  exact h
theorem rop_yes {o : Int} {a b : Int × Int} (ha : okC a) (hb : okC b) : (o = 3 → RefTo 19 #[.agg #[.int .i64 a.1, .int .i64 a.2], .agg #[.int .i64 b.1, .int .i64 b.2], .int .i64 1] (opP o a b)) ∧ (o = 4 → RefTo 19 #[.agg #[.int .i64 a.1, .int .i64 a.2], .agg #[.int .i64 b.1, .int .i64 b.2], .int .i64 (-1)] (opP o a b)) ∧ (o = 5 → RefTo 20 #[.agg #[.int .i64 a.1, .int .i64 a.2], .agg #[.int .i64 b.1, .int .i64 b.2]] (opP o a b)) ∧ (o = 6 → RefTo 21 #[.agg #[.int .i64 a.1, .int .i64 a.2], .agg #[.int .i64 b.1, .int .i64 b.2]] (opP o a b)) := by
  refine ⟨?_, ?_, ?_, ?_⟩ <;> rintro rfl
  · exact rplus_plus _ _ _ _ ha hb
  · exact rplus_minus _ _ _ _ ha hb
  · exact rtimes_any _ _ _ _ ha hb
  · exact rover_any _ _ _ _ ha hb

/-- two cells in a box, later -/
theorem box2 {W w1 : World} {p T : Nat} {u v : Value} (hg : W.heap[p]? = some (.cells #[u, v] T (0, 0))) (hb : Below W.heap.size W w1) : p < w1.heap.size ∧ w1.cell? ⟨p, 0, none⟩ = some u ∧ w1.cell? ⟨p, 1, none⟩ = some v ∧ w1.frozen? ⟨p, 0, none⟩ = false ∧ w1.frozen? ⟨p, 1, none⟩ = false := by
  have h := (hb.block p (Array.getElem?_eq_some_iff.1 hg).1).trans hg
  exact ⟨(Array.getElem?_eq_some_iff.1 h).1, by simp [World.cell?, h], by simp [World.cell?, h], by simp [World.frozen?, h], by simp [World.frozen?, h]⟩

set_option maxHeartbeats 4000000 in
theorem rreckon_any (b o cap : Nat) (l : List Nd) (hl : RightL l) (h30 : l.length ≤ 30) (An : Option Addr) (cn : Nat) (N : List ByteArray) (Ac : Option Addr) (cc : Nat) (C : List (Int × Int)) (hck : ckErr N C = 0) : ∀ i, i < l.length → ∀ (w : World), NdsAt w b o l → NmV w An cn N → CelV w Ac cc C → missT N (treeOf l i) = false →
    Calls Tryd.prog 9 #[.slice (some ⟨b, o, none⟩) l.length cap, .int .i64 i, .slice An N.length cn, .slice Ac C.length cc] w fun e w' => e = .returned (.agg #[.int .i64 (valT N C (treeOf l i)).1, .int .i64 (valT N C (treeOf l i)).2]) ∧ Below w.heap.size w w' := by
  intro i
  induction i using Nat.strongRecOn with
  | _ i ih =>
    intro hi w hN hNm hCl hms
    have HI : Hid (∀ m, m < i → m < l.length → ∀ (w : World), NdsAt w b o l → NmV w An cn N → CelV w Ac cc C → missT N (treeOf l m) = false →
      Calls Tryd.prog 9 #[.slice (some ⟨b, o, none⟩) l.length cap, .int .i64 m, .slice An N.length cn, .slice Ac C.length cc] w fun e w' => e = .returned (.agg #[.int .i64 (valT N C (treeOf l m)).1, .int .i64 (valT N C (treeOf l m)).2]) ∧ Below w.heap.size w w') := ih
    clear ih
    have hg := hl i hi
    have ho := op_range hg
    obtain ⟨x0, x1, x2, x3, x4⟩ := hN.nd (k := i) hi
    obtain ⟨x, hx⟩ : ∃ x, l.getD i noN = x := ⟨_, rfl⟩
    rw [hx] at x0 x1 x2 x3 x4 hg ho
    have hii : (i : Int) < (l.length : Int) := by omega
    have hli : (l.length : Int) ≤ 30 := by omega
    have hbl : b < w.heap.size := hN.1
    obtain ⟨op, nn, name, left, right⟩ := x
    simp only at x0 x1 x2 x3 x4 ho
    have HNd : Hid (NdsAt w b o l) := hN
    have HNm : Hid (NmV w An cn N) := hNm
    have HCl : Hid (CelV w Ac cc C) := hCl
    obtain ⟨W, hW⟩ : ∃ W, (w.alloc (.cells #[.int .i64 0, .int .i64 0] 28)).alloc (.cells #[.int .i64 op, .int .i64 nn, .string name, .int .i64 left, .int .i64 right] 45) = W := ⟨_, rfl⟩
    have HR : Hid (W.heap[w.heap.size]? = some (.cells #[.int .i64 0, .int .i64 0] 28 (0, 0))) := by show _ = _; rw [← hW]; exact topF0 _ _ _
    have hX : W.heap[w.heap.size + 1]? = some (.cells #[.int .i64 op, .int .i64 nn, .string name, .int .i64 left, .int .i64 right] 45 (0, 0)) := by rw [← hW]; exact topF1 _ _ _
    have HX := hid_of hX
    have d0 : W.cell? ⟨w.heap.size + 1, 0, none⟩ = some (.int .i64 op) := by simp [World.cell?, hX]
    have d1 : W.cell? ⟨w.heap.size + 1, 1, none⟩ = some (.int .i64 nn) := by simp [World.cell?, hX]
    have d2 : W.cell? ⟨w.heap.size + 1, 2, none⟩ = some (.string name) := by simp [World.cell?, hX]
    have d3 : W.cell? ⟨w.heap.size + 1, 3, none⟩ = some (.int .i64 left) := by simp [World.cell?, hX]
    have HBW : Hid (Below w.heap.size w W) := by show Below w.heap.size w W; rw [← hW]; go_grown
    clear hX
    by_cases h1 : op = 1
    · subst h1
      have hP : valT N C (treeOf l i) = ofP nn := by rw [tree_num (by rw [hx]), hx]; rfl
      rw [hP]
      have hof := rof_any nn
      clear hx hP hg ho hN hNm hCl hms
      go_enter Tryd.func9, Tryd.ntmps9
      go_wp2_with fail
      refine (hof _).mono ?_
      rintro e w1 ⟨rfl, hb1⟩
      obtain ⟨r1, r2, r3, rf0, rf1⟩ := box2 HR.out hb1
      have HB1 := hid_of (onB HBW.out hb1)
      clear hb1 hof hW d0 d1 d2 d3
      go_wp2_with fail
      refine bodyPost_ret (v := .agg #[.int .i64 (ofP nn).1, .int .i64 (ofP nn).2]) (by simp [results, Tryd.results9, go_sem, r2, r3]) rfl ⟨rfl, ?_⟩
      exact (HB1.out.setCell (Nat.le_refl _) _).setCell (Nat.le_refl _) _
    by_cases h2 : op = 2
    · subst h2
      have hT : treeOf l i = .ref name := by rw [tree_ref (by rw [hx]), hx]
      rw [hT] at hms ⊢
      have hw : 0 ≤ whereS N name := by
        unfold missT refsT at hms
        simp at hms
        exact hms
      obtain ⟨j, hj, hjl, -⟩ : ∃ j : Nat, whereS N name = (j : Int) ∧ j < N.length ∧ N.getD j noS = name := by
        rcases where_cases N name with ⟨hw', -⟩ | h
        · omega
        · exact h
      have hnm := fun w' (hb : Below w.heap.size w w') => rnamed_any An cn N name w' (hNm.later hb)
      rw [hj] at hnm
      obtain ⟨hlen, -, -⟩ := ck_right hck
      obtain ⟨-, -, hC3⟩ := hCl
      obtain ⟨b2, o2, rfl, hCA⟩ := hC3.resolve_left (fun e => by rw [e] at hlen; simp at hlen; omega)
      obtain ⟨c, hc⟩ : ∃ c, C.getD j noC = c := ⟨_, rfl⟩
      have hV : valT N C (.ref name) = c := by show refC N C name = c; unfold refC; rw [hj]; exact hc
      rw [hV]
      have HCA : Hid (CelAt w b2 o2 C) := hCA
      have HJ : Hid (j < C.length) := by show j < C.length; omega
      have HCc := hid_of hc
      have hjc : (j : Int) < (C.length : Int) := by omega
      have hsz := hNm.2.1
      have hcl : (C.length : Int) < 4611686018427387904 := by omega
      clear hx hT hg ho hN hNm hms hC3 hCA hV hc hj hw hlen
      go_enter Tryd.func9, Tryd.ntmps9
      go_wp2_with fail
      refine (hnm _ HBW.out).mono ?_
      rintro e w1 ⟨rfl, hb1⟩
      obtain ⟨r1, r2, r3, rf0, rf1⟩ := box2 HR.out hb1
      have HB1 := hid_of (onB HBW.out hb1)
      obtain ⟨c0, c1⟩ := (HCA.out.later HB1.out).2 j HJ.out
      rw [HCc.out] at c0 c1
      clear hb1 hnm hW d0 d1 d2 d3
      go_wp2_with fail
      refine bodyPost_ret (v := .agg #[.int .i64 c.1, .int .i64 c.2]) (by simp [results, Tryd.results9, go_sem, r2, r3]) rfl ⟨rfl, ?_⟩
      exact (HB1.out.setCell (Nat.le_refl _) _).setCell (Nat.le_refl _) _
    obtain ⟨a1, a2, a3, a4⟩ := nd_sides hg (show 2 < op by omega)
    simp only at a1 a2 a3 a4
    obtain ⟨a, ha⟩ : ∃ a : Nat, left = a := ⟨left.toNat, by omega⟩
    obtain ⟨c, hc⟩ : ∃ c : Nat, right = c := ⟨right.toNat, by omega⟩
    subst ha hc
    have hT : treeOf l i = .bin op (treeOf l a) (treeOf l c) := by
      have := tree_bin hl hi (by rw [hx]; show 2 < op; omega)
      rw [hx] at this
      simpa using this
    rw [hT] at hms ⊢
    obtain ⟨hma, hmc⟩ := miss_bin hms
    have hoa := val_ok N (ck_ok hck) (treeOf l a)
    have hoc := val_ok N (ck_ok hck) (treeOf l c)
    have HRa := hid_of (fun w' (hb : Below w.heap.size w w') => HI.out a (by omega) (by omega) w' (hN.later hb) (hNm.later hb) (hCl.later hb) hma)
    have HRc := hid_of (fun w' (hb : Below w.heap.size w w') => HI.out c (by omega) (by omega) w' (hN.later hb) (hNm.later hb) (hCl.later hb) hmc)
    have hV : valT N C (.bin op (treeOf l a) (treeOf l c)) = opP op (valT N C (treeOf l a)) (valT N C (treeOf l c)) := rfl
    rw [hV]
    obtain ⟨u, hu⟩ : ∃ u, valT N C (treeOf l a) = u := ⟨_, rfl⟩
    obtain ⟨v, hv⟩ : ∃ v, valT N C (treeOf l c) = v := ⟨_, rfl⟩
    rw [hu] at hoa HRa ⊢
    rw [hv] at hoc HRc ⊢
    obtain ⟨p3, p4, p5, p6⟩ := rop_yes (o := op) hoa hoc
    obtain ⟨t, ht⟩ : ∃ t, opP op u v = t := ⟨_, rfl⟩
    rw [ht] at p3 p4 p5 p6 ⊢
    unfold RefTo at p3 p4 p5 p6
    have hovc : op = 3 ∨ op = 4 ∨ op = 5 ∨ op = 6 := by omega
    clear hx hT hg ho h1 h2 hN hNm hCl hms hma hmc hoa hoc hV hu hv ht HI a1 a2 a3 a4
    rcases hovc with rfl | rfl | rfl | rfl
    · have hp := p3 rfl
      clear p3 p4 p5 p6
      go_enter Tryd.func9, Tryd.ntmps9
      go_wp2_with fail
      refine (HRa.out _ HBW.out).mono ?_
      rintro e w1 ⟨rfl, hb1⟩
      have HB1 := hid_of hb1
      have HC1 := hid_of (onB HBW.out hb1)
      obtain ⟨V1, hV1⟩ : ∃ V1, w1.alloc (.cells #[.int .i64 u.1, .int .i64 u.2] 28) = V1 := ⟨_, rfl⟩
      have hbV : Below w1.heap.size w1 V1 := by rw [← hV1]; exact (Below.refl _ _).alloc (Nat.le_refl _) _
      have HV1 := hid_of (onB hb1 hbV)
      have HD1 := hid_of (onB HC1.out hbV)
      have hg1 : V1.heap[w1.heap.size]? = some (.cells #[.int .i64 u.1, .int .i64 u.2] 28 (0, 0)) := by rw [← hV1]; exact heap_alloc_new _ _
      have G1 := hid_of hg1
      have hXv := (HV1.out.block (w.heap.size + 1) (Array.getElem?_eq_some_iff.1 HX.out).1).trans HX.out
      have k0 : V1.cell? ⟨w.heap.size + 1, 0, none⟩ = some (.int .i64 3) := by simp [World.cell?, hXv]
      have k4 : V1.cell? ⟨w.heap.size + 1, 4, none⟩ = some (.int .i64 (c : Int)) := by simp [World.cell?, hXv]
      have kl := (Array.getElem?_eq_some_iff.1 hXv).1
      clear hb1 hbV hg1 hXv hW d0 d1 d2 d3
      go_wp2_with fail
      refine (HRc.out _ HD1.out).mono ?_
      rintro e w2 ⟨rfl, hb2⟩
      have HC2 := hid_of (onB HD1.out hb2)
      have HE2 := hid_of (onB HV1.out hb2)
      obtain ⟨V2, hV2⟩ : ∃ V2, w2.alloc (.cells #[.int .i64 v.1, .int .i64 v.2] 28) = V2 := ⟨_, rfl⟩
      have hbV : Below w2.heap.size w2 V2 := by rw [← hV2]; exact (Below.refl _ _).alloc (Nat.le_refl _) _
      have HD2 := hid_of (onB HC2.out hbV)
      have HF2 := hid_of (onB HE2.out hbV)
      obtain ⟨y1, y2, y3, -, -⟩ := box2 G1.out (onB hb2 hbV)
      have hg2 : V2.heap[w2.heap.size]? = some (.cells #[.int .i64 v.1, .int .i64 v.2] 28 (0, 0)) := by rw [← hV2]; exact heap_alloc_new _ _
      obtain ⟨q1, q2, q3, -, -⟩ := box2 hg2 (Below.refl _ _)
      have hXv := (HF2.out.block (w.heap.size + 1) (Array.getElem?_eq_some_iff.1 HX.out).1).trans HX.out
      have k0' : V2.cell? ⟨w.heap.size + 1, 0, none⟩ = some (.int .i64 3) := by simp [World.cell?, hXv]
      have kl' := (Array.getElem?_eq_some_iff.1 hXv).1
      clear hb2 hbV hg2 hXv hV1 k0 k4 kl HRa HRc
      go_wp2_with fail
      refine (hp _).mono ?_
      rintro e w3 ⟨rfl, hb3⟩
      obtain ⟨r1, r2, r3, rf0, rf1⟩ := box2 HR.out (onB HF2.out hb3)
      have HB3 := hid_of (onB HD2.out hb3)
      clear hb3 hp hV2 k0' kl' y1 y2 y3 q1 q2 q3
      go_wp2_with fail
      refine bodyPost_ret (v := .agg #[.int .i64 t.1, .int .i64 t.2]) (by simp [results, Tryd.results9, go_sem, r2, r3]) rfl ⟨rfl, ?_⟩
      exact (HB3.out.setCell (Nat.le_refl _) _).setCell (Nat.le_refl _) _
    · have hp := p4 rfl
      clear p3 p4 p5 p6
      go_enter Tryd.func9, Tryd.ntmps9
      go_wp2_with fail
      refine (HRa.out _ HBW.out).mono ?_
      rintro e w1 ⟨rfl, hb1⟩
      have HB1 := hid_of hb1
      have HC1 := hid_of (onB HBW.out hb1)
      obtain ⟨V1, hV1⟩ : ∃ V1, w1.alloc (.cells #[.int .i64 u.1, .int .i64 u.2] 28) = V1 := ⟨_, rfl⟩
      have hbV : Below w1.heap.size w1 V1 := by rw [← hV1]; exact (Below.refl _ _).alloc (Nat.le_refl _) _
      have HV1 := hid_of (onB hb1 hbV)
      have HD1 := hid_of (onB HC1.out hbV)
      have hg1 : V1.heap[w1.heap.size]? = some (.cells #[.int .i64 u.1, .int .i64 u.2] 28 (0, 0)) := by rw [← hV1]; exact heap_alloc_new _ _
      have G1 := hid_of hg1
      have hXv := (HV1.out.block (w.heap.size + 1) (Array.getElem?_eq_some_iff.1 HX.out).1).trans HX.out
      have k0 : V1.cell? ⟨w.heap.size + 1, 0, none⟩ = some (.int .i64 4) := by simp [World.cell?, hXv]
      have k4 : V1.cell? ⟨w.heap.size + 1, 4, none⟩ = some (.int .i64 (c : Int)) := by simp [World.cell?, hXv]
      have kl := (Array.getElem?_eq_some_iff.1 hXv).1
      clear hb1 hbV hg1 hXv hW d0 d1 d2 d3
      go_wp2_with fail
      refine (HRc.out _ HD1.out).mono ?_
      rintro e w2 ⟨rfl, hb2⟩
      have HC2 := hid_of (onB HD1.out hb2)
      have HE2 := hid_of (onB HV1.out hb2)
      obtain ⟨V2, hV2⟩ : ∃ V2, w2.alloc (.cells #[.int .i64 v.1, .int .i64 v.2] 28) = V2 := ⟨_, rfl⟩
      have hbV : Below w2.heap.size w2 V2 := by rw [← hV2]; exact (Below.refl _ _).alloc (Nat.le_refl _) _
      have HD2 := hid_of (onB HC2.out hbV)
      have HF2 := hid_of (onB HE2.out hbV)
      obtain ⟨y1, y2, y3, -, -⟩ := box2 G1.out (onB hb2 hbV)
      have hg2 : V2.heap[w2.heap.size]? = some (.cells #[.int .i64 v.1, .int .i64 v.2] 28 (0, 0)) := by rw [← hV2]; exact heap_alloc_new _ _
      obtain ⟨q1, q2, q3, -, -⟩ := box2 hg2 (Below.refl _ _)
      have hXv := (HF2.out.block (w.heap.size + 1) (Array.getElem?_eq_some_iff.1 HX.out).1).trans HX.out
      have k0' : V2.cell? ⟨w.heap.size + 1, 0, none⟩ = some (.int .i64 4) := by simp [World.cell?, hXv]
      have kl' := (Array.getElem?_eq_some_iff.1 hXv).1
      clear hb2 hbV hg2 hXv hV1 k0 k4 kl HRa HRc
      go_wp2_with fail
      refine (hp _).mono ?_
      rintro e w3 ⟨rfl, hb3⟩
      obtain ⟨r1, r2, r3, rf0, rf1⟩ := box2 HR.out (onB HF2.out hb3)
      have HB3 := hid_of (onB HD2.out hb3)
      clear hb3 hp hV2 k0' kl' y1 y2 y3 q1 q2 q3
      go_wp2_with fail
      refine bodyPost_ret (v := .agg #[.int .i64 t.1, .int .i64 t.2]) (by simp [results, Tryd.results9, go_sem, r2, r3]) rfl ⟨rfl, ?_⟩
      exact (HB3.out.setCell (Nat.le_refl _) _).setCell (Nat.le_refl _) _
    · have hp := p5 rfl
      clear p3 p4 p5 p6
      go_enter Tryd.func9, Tryd.ntmps9
      go_wp2_with fail
      refine (HRa.out _ HBW.out).mono ?_
      rintro e w1 ⟨rfl, hb1⟩
      have HB1 := hid_of hb1
      have HC1 := hid_of (onB HBW.out hb1)
      obtain ⟨V1, hV1⟩ : ∃ V1, w1.alloc (.cells #[.int .i64 u.1, .int .i64 u.2] 28) = V1 := ⟨_, rfl⟩
      have hbV : Below w1.heap.size w1 V1 := by rw [← hV1]; exact (Below.refl _ _).alloc (Nat.le_refl _) _
      have HV1 := hid_of (onB hb1 hbV)
      have HD1 := hid_of (onB HC1.out hbV)
      have hg1 : V1.heap[w1.heap.size]? = some (.cells #[.int .i64 u.1, .int .i64 u.2] 28 (0, 0)) := by rw [← hV1]; exact heap_alloc_new _ _
      have G1 := hid_of hg1
      have hXv := (HV1.out.block (w.heap.size + 1) (Array.getElem?_eq_some_iff.1 HX.out).1).trans HX.out
      have k0 : V1.cell? ⟨w.heap.size + 1, 0, none⟩ = some (.int .i64 5) := by simp [World.cell?, hXv]
      have k4 : V1.cell? ⟨w.heap.size + 1, 4, none⟩ = some (.int .i64 (c : Int)) := by simp [World.cell?, hXv]
      have kl := (Array.getElem?_eq_some_iff.1 hXv).1
      clear hb1 hbV hg1 hXv hW d0 d1 d2 d3
      go_wp2_with fail
      refine (HRc.out _ HD1.out).mono ?_
      rintro e w2 ⟨rfl, hb2⟩
      have HC2 := hid_of (onB HD1.out hb2)
      have HE2 := hid_of (onB HV1.out hb2)
      obtain ⟨V2, hV2⟩ : ∃ V2, w2.alloc (.cells #[.int .i64 v.1, .int .i64 v.2] 28) = V2 := ⟨_, rfl⟩
      have hbV : Below w2.heap.size w2 V2 := by rw [← hV2]; exact (Below.refl _ _).alloc (Nat.le_refl _) _
      have HD2 := hid_of (onB HC2.out hbV)
      have HF2 := hid_of (onB HE2.out hbV)
      obtain ⟨y1, y2, y3, -, -⟩ := box2 G1.out (onB hb2 hbV)
      have hg2 : V2.heap[w2.heap.size]? = some (.cells #[.int .i64 v.1, .int .i64 v.2] 28 (0, 0)) := by rw [← hV2]; exact heap_alloc_new _ _
      obtain ⟨q1, q2, q3, -, -⟩ := box2 hg2 (Below.refl _ _)
      have hXv := (HF2.out.block (w.heap.size + 1) (Array.getElem?_eq_some_iff.1 HX.out).1).trans HX.out
      have k0' : V2.cell? ⟨w.heap.size + 1, 0, none⟩ = some (.int .i64 5) := by simp [World.cell?, hXv]
      have kl' := (Array.getElem?_eq_some_iff.1 hXv).1
      clear hb2 hbV hg2 hXv hV1 k0 k4 kl HRa HRc
      go_wp2_with fail
      refine (hp _).mono ?_
      rintro e w3 ⟨rfl, hb3⟩
      obtain ⟨r1, r2, r3, rf0, rf1⟩ := box2 HR.out (onB HF2.out hb3)
      have HB3 := hid_of (onB HD2.out hb3)
      clear hb3 hp hV2 k0' kl' y1 y2 y3 q1 q2 q3
      go_wp2_with fail
      refine bodyPost_ret (v := .agg #[.int .i64 t.1, .int .i64 t.2]) (by simp [results, Tryd.results9, go_sem, r2, r3]) rfl ⟨rfl, ?_⟩
      exact (HB3.out.setCell (Nat.le_refl _) _).setCell (Nat.le_refl _) _
    · have hp := p6 rfl
      clear p3 p4 p5 p6
      go_enter Tryd.func9, Tryd.ntmps9
      go_wp2_with fail
      refine (HRa.out _ HBW.out).mono ?_
      rintro e w1 ⟨rfl, hb1⟩
      have HB1 := hid_of hb1
      have HC1 := hid_of (onB HBW.out hb1)
      obtain ⟨V1, hV1⟩ : ∃ V1, w1.alloc (.cells #[.int .i64 u.1, .int .i64 u.2] 28) = V1 := ⟨_, rfl⟩
      have hbV : Below w1.heap.size w1 V1 := by rw [← hV1]; exact (Below.refl _ _).alloc (Nat.le_refl _) _
      have HV1 := hid_of (onB hb1 hbV)
      have HD1 := hid_of (onB HC1.out hbV)
      have hg1 : V1.heap[w1.heap.size]? = some (.cells #[.int .i64 u.1, .int .i64 u.2] 28 (0, 0)) := by rw [← hV1]; exact heap_alloc_new _ _
      have G1 := hid_of hg1
      have hXv := (HV1.out.block (w.heap.size + 1) (Array.getElem?_eq_some_iff.1 HX.out).1).trans HX.out
      have k0 : V1.cell? ⟨w.heap.size + 1, 0, none⟩ = some (.int .i64 6) := by simp [World.cell?, hXv]
      have k4 : V1.cell? ⟨w.heap.size + 1, 4, none⟩ = some (.int .i64 (c : Int)) := by simp [World.cell?, hXv]
      have kl := (Array.getElem?_eq_some_iff.1 hXv).1
      clear hb1 hbV hg1 hXv hW d0 d1 d2 d3
      go_wp2_with fail
      refine (HRc.out _ HD1.out).mono ?_
      rintro e w2 ⟨rfl, hb2⟩
      have HC2 := hid_of (onB HD1.out hb2)
      have HE2 := hid_of (onB HV1.out hb2)
      obtain ⟨V2, hV2⟩ : ∃ V2, w2.alloc (.cells #[.int .i64 v.1, .int .i64 v.2] 28) = V2 := ⟨_, rfl⟩
      have hbV : Below w2.heap.size w2 V2 := by rw [← hV2]; exact (Below.refl _ _).alloc (Nat.le_refl _) _
      have HD2 := hid_of (onB HC2.out hbV)
      have HF2 := hid_of (onB HE2.out hbV)
      obtain ⟨y1, y2, y3, -, -⟩ := box2 G1.out (onB hb2 hbV)
      have hg2 : V2.heap[w2.heap.size]? = some (.cells #[.int .i64 v.1, .int .i64 v.2] 28 (0, 0)) := by rw [← hV2]; exact heap_alloc_new _ _
      obtain ⟨q1, q2, q3, -, -⟩ := box2 hg2 (Below.refl _ _)
      have hXv := (HF2.out.block (w.heap.size + 1) (Array.getElem?_eq_some_iff.1 HX.out).1).trans HX.out
      have k0' : V2.cell? ⟨w.heap.size + 1, 0, none⟩ = some (.int .i64 6) := by simp [World.cell?, hXv]
      have kl' := (Array.getElem?_eq_some_iff.1 hXv).1
      clear hb2 hbV hg2 hXv hV1 k0 k4 kl HRa HRc
      go_wp2_with fail
      refine (hp _).mono ?_
      rintro e w3 ⟨rfl, hb3⟩
      obtain ⟨r1, r2, r3, rf0, rf1⟩ := box2 HR.out (onB HF2.out hb3)
      have HB3 := hid_of (onB HD2.out hb3)
      clear hb3 hp hV2 k0' kl' y1 y2 y3 q1 q2 q3
      go_wp2_with fail
      refine bodyPost_ret (v := .agg #[.int .i64 t.1, .int .i64 t.2]) (by simp [results, Tryd.results9, go_sem, r2, r3]) rfl ⟨rfl, ?_⟩
      exact (HB3.out.setCell (Nat.le_refl _) _).setCell (Nat.le_refl _) _
end Go.Proofs.YtklfenojapgmnaeDoor

namespace Go.Proofs.YtklfenojapgmnaeDoor
open Go.ChangeShapes Go.WideShapes Go.ChangeAt Go.RowKit
set_option maxRecDepth 20000

/-- texts in a row -/
def rowS (R : List ByteArray) : List Value := R.map Value.string
/-- names of the first nodes -/
def RefsTo (l : List Nd) (i : Nat) (R : List ByteArray) : Prop := R.length ≤ i ∧ ∀ s, s ∈ R ↔ ∃ j, j < i ∧ (l.getD j noN).op = 2 ∧ (l.getD j noN).name = s
section
variable {l : List Nd} {i : Nat} {R : List ByteArray}
theorem refs_zero : RefsTo l 0 [] := ⟨Nat.le_refl _, fun _ => ⟨fun h => absurd h List.not_mem_nil, fun ⟨j, h, _⟩ => absurd h (Nat.not_lt_zero j)⟩⟩
theorem refs_skip (h : RefsTo l i R) (ho : (l.getD i noN).op ≠ 2) : RefsTo l (i + 1) R := by
  refine ⟨by have := h.1; omega, fun s => (h.2 s).trans ⟨fun ⟨j, h1, h2⟩ => ⟨j, by omega, h2⟩, fun ⟨j, h1, h2⟩ => ⟨j, ?_, h2⟩⟩⟩
  by_cases e : j = i
  · subst e; exact absurd h2.1 ho
  · omega
theorem refs_old (h : RefsTo l i R) (ho : (l.getD i noN).op = 2) (hm : (l.getD i noN).name ∈ R) : RefsTo l (i + 1) R := by
  refine ⟨by have := h.1; omega, fun s => ⟨fun hs => ?_, fun ⟨j, h1, h2⟩ => ?_⟩⟩
  · obtain ⟨j, h1, h2⟩ := (h.2 s).1 hs
    exact ⟨j, by omega, h2⟩
  · by_cases e : j = i
    · subst e; rw [← h2.2]; exact hm
    · exact (h.2 s).2 ⟨j, by omega, h2⟩
theorem refs_new (h : RefsTo l i R) (ho : (l.getD i noN).op = 2) (k : Nat) : RefsTo l (i + 1) (R.take k ++ [(l.getD i noN).name] ++ R.drop k) := by
  refine ⟨?_, fun s => ?_⟩
  · have := h.1
    simp only [List.length_append, List.length_take, List.length_drop, List.length_singleton]
    omega
  · have hmem : s ∈ R.take k ++ [(l.getD i noN).name] ++ R.drop k ↔ s ∈ R ∨ s = (l.getD i noN).name := by
      rw [List.mem_append, List.mem_append, List.mem_singleton]
      have hR : s ∈ R ↔ s ∈ R.take k ∨ s ∈ R.drop k := by rw [← List.mem_append, List.take_append_drop]
      rw [hR]
      constructor
      · rintro ((h | h) | h)
        · exact Or.inl (Or.inl h)
        · exact Or.inr h
        · exact Or.inl (Or.inr h)
      · rintro ((h | h) | h)
        · exact Or.inl (Or.inl h)
        · exact Or.inr h
        · exact Or.inl (Or.inr h)
    rw [hmem, h.2 s]
    constructor
    · rintro (⟨j, h1, h2⟩ | rfl)
      · exact ⟨j, by omega, h2⟩
      · exact ⟨i, by omega, ho, rfl⟩
    · rintro ⟨j, h1, h2⟩
      by_cases e : j = i
      · subst e; exact Or.inr h2.2.symm
      · exact Or.inl ⟨j, by omega, h2⟩
end
theorem Tryd.infoStR : (Tryd.prog.info? 9).map (fun i => (i.zero, i.size, i.bytes)) = some (some (.string ⟨#[]⟩), 1, 16) := by kernel_rfl
/-- a row of texts of one's own -/
theorem row_str {w : World} {base : Nat} {v : Value} {R : List ByteArray} (h : w.ownsRow base 9 1 v R.length (rowS R)) : (R = [] ∧ v = .slice none 0 0) ∨ ∃ g cap, v = .slice (some ⟨g, 0, none⟩) R.length cap ∧ base ≤ g ∧ g < w.heap.size ∧ R.length ≤ cap ∧ cap ≤ 9223372036854775807 ∧ ∀ k, k < R.length → w.cell? ⟨g, k, none⟩ = some (.string (R.getD k noS)) := by
  rcases h.2 with ⟨rfl, h0⟩ | ⟨g, cap, cur, rfl, hb, hg, h4, h5, h6, h7⟩
  · exact Or.inl ⟨List.eq_nil_of_length_eq_zero h0, rfl⟩
  · refine Or.inr ⟨g, cap, rfl, hb, (Array.getElem?_eq_some_iff.1 hg).1, h4, by unfold maxLen at h5; omega, fun k hk => ?_⟩
    have x0 : (rowS R)[k]? = some (.string (R.getD k noS)) := by simp [rowS, List.getD, hk]
    rw [← h7, List.getElem?_take, if_pos (by omega), Array.getElem?_toList] at x0
    simp [World.cell?, hg, x0]

theorem toLs_ne {x y : ByteArray} (h : ¬ y = x) : (y.toList == x.toList) = false := by
  rw [beq_eq_false_iff_ne]
  intro e
  apply h
  rw [Lib.toList_data, Lib.toList_data] at e
  obtain ⟨yd⟩ := y
  obtain ⟨xd⟩ := x
  exact congrArg ByteArray.mk (Array.toList_inj.1 e)
theorem row_one (L : List ByteArray) : ∀ u ∈ rowS L, u.oneCell' = true := by
  intro u hu
  obtain ⟨x, -, rfl⟩ := List.mem_map.1 hu
  rfl
theorem row_take {w : World} {g : Nat} {R : List ByteArray} (h : ∀ j, j < R.length → w.cell? ⟨g, j, none⟩ = some (.string (R.getD j noS))) (k : Nat) : ∀ j u, (rowS (R.take k))[j]? = some u → w.cell? ((⟨g, 0, none⟩ : Addr).add j) = some u := by
  intro j u hj
  have hlt : j < (R.take k).length := by have := (List.getElem?_eq_some_iff.1 hj).1; simpa [rowS] using this
  rw [List.length_take] at hlt
  rw [rowS, List.getElem?_map, List.getElem?_take, if_pos (by omega), List.getElem?_eq_getElem (by omega)] at hj
  have e := h j (by omega)
  rw [List.getD_eq_getElem?_getD, List.getElem?_eq_getElem (by omega)] at e
  have ea : ((⟨g, 0, none⟩ : Addr).add j) = ⟨g, j, none⟩ := by rw [Addr.add_lit, Nat.zero_add]
  rw [ea, e]
  exact hj
theorem row_drop {w : World} {g : Nat} {R : List ByteArray} (h : ∀ j, j < R.length → w.cell? ⟨g, j, none⟩ = some (.string (R.getD j noS))) (k : Nat) : ∀ j u, (rowS (R.drop k))[j]? = some u → w.cell? ((⟨g, k, none⟩ : Addr).add j) = some u := by
  intro j u hj
  have hlt : j < (R.drop k).length := by have := (List.getElem?_eq_some_iff.1 hj).1; simpa [rowS] using this
  rw [List.length_drop] at hlt
  rw [rowS, List.getElem?_map, List.getElem?_drop, List.getElem?_eq_getElem (by omega)] at hj
  have e := h (k + j) (by omega)
  rw [List.getD_eq_getElem?_getD, List.getElem?_eq_getElem (by omega)] at e
  have ea : ((⟨g, k, none⟩ : Addr).add j) = ⟨g, k + j, none⟩ := by rw [Addr.add_lit]
  rw [ea, e]
  exact hj

set_option maxHeartbeats 4000000 in
theorem rrefs_any (b o cap : Nat) (l : List Nd) (w : World) (h30 : l.length ≤ 30) (hN : NdsAt w b o l) :
    Calls Tryd.prog 7 #[.slice (some ⟨b, o, none⟩) l.length cap] w fun e w' => (∃ v R, e = .returned v ∧ w'.ownsRow w.heap.size 9 1 v R.length (rowS R) ∧ RefsTo l l.length R) ∧ Below w.heap.size w w' := by
  obtain ⟨i0, hi0, hz0, hz1, hz2⟩ := info_parts Tryd.infoStR
  have HN : Hid (NdsAt w b o l) := hN
  obtain ⟨n, hn⟩ : ∃ n, l.length = n := ⟨_, rfl⟩
  have HL : Hid (l.length = n) := hn
  rw [hn] at h30 ⊢
  have hni : (n : Int) ≤ 30 := by omega
  clear hN hn
  go_enter Tryd.func7, Tryd.ntmps7
  go_wp2_with fail
  go_loopg [3, 4] n (fun g s3 s4 wr => ∃ (i : Nat) (R : List ByteArray), i ≤ n ∧ g = n - i ∧ s4 = .int .i64 i ∧ wr.ownsRow w.heap.size 9 1 s3 R.length (rowS R) ∧ RefsTo l i R ∧ Below w.heap.size w wr)
  case atStart => exact ⟨0, [], Nat.zero_le _, rfl, rfl, World.ownsRow_nil _ _ _ _, refs_zero, Below.refl _ _⟩
  case round =>
    obtain ⟨i, R, hi, rfl, rfl, hown, hRef, hBw⟩ := hrel
    have HO := hid_of hown
    have HRf : Hid (RefsTo l i R) := hRef
    have HW : Hid (Below w.heap.size w wr) := hBw
    have hRl : R.length ≤ 30 := by have := hRef.1; omega
    clear hRef hBw
    by_cases hlt : i < n
    · have hii : (i : Int) < (n : Int) := by omega
      obtain ⟨x0, x1, x2, x3, x4⟩ := (HN.out.later HW.out).nd (k := i) (by rw [HL.out]; exact hlt)
      have hbl : b < wr.heap.size := (HN.out.later HW.out).1
      obtain ⟨x, hx⟩ : ∃ x, l.getD i noN = x := ⟨_, rfl⟩
      have HX : Hid (l.getD i noN = x) := hx
      rw [hx] at x0 x2
      clear hx x1 x3 x4
      by_cases hop : x.op = 2
      · rw [hop] at x0
        have HOp : Hid ((l.getD i noN).op = 2) := by show _ = _; rw [HX.out]; exact hop
        obtain ⟨nm, hnm⟩ : ∃ nm, x.name = nm := ⟨_, rfl⟩
        have HNm : Hid ((l.getD i noN).name = nm) := by show _ = _; rw [HX.out]; exact hnm
        rw [hnm] at x2
        clear hop hnm
        rcases row_str hown with ⟨hR0, rfl⟩ | ⟨g, cp, rfl, hgb, hgl, hcp, hcm, hcell⟩
        · subst hR0
          clear hown
          go_wp2_with fail
          refine wp_loop_rounds 1 ?_
          rw [rounds_succ]
          go_wp2_with fail
          go_quiet (fail)
          obtain ⟨W1, hW1⟩ : ∃ W1, wr.drewN nq = W1 := ⟨_, rfl⟩
          have hb1 : Below wr.heap.size wr W1 := by rw [← hW1]; exact below_drewN (Below.refl _ _) _
          have HB1 := hid_of (onB HW.out hb1)
          have y0 := (hb1.cell (p := ⟨b, o + i * 5, none⟩) hbl).trans x0
          have y2 := (hb1.cell (p := ⟨b, o + i * 5 + 2, none⟩) hbl).trans x2
          have hbl1 := Nat.lt_of_lt_of_le hbl hb1.size
          rw [hW1]
          clear hW1 hb1 x0 x2 hbl
          go_wp2_with fail
          go_quiet (fail)
          obtain ⟨W2, hW2⟩ : ∃ W2, W1.drewN nq = W2 := ⟨_, rfl⟩
          have hb2 : Below W1.heap.size W1 W2 := by rw [← hW2]; exact below_drewN (Below.refl _ _) _
          have HB2 := hid_of (onB HB1.out hb2)
          have x0 := (hb2.cell (p := ⟨b, o + i * 5, none⟩) hbl1).trans y0
          have x2 := (hb2.cell (p := ⟨b, o + i * 5 + 2, none⟩) hbl1).trans y2
          have hbl := Nat.lt_of_lt_of_le hbl1 hb2.size
          rw [hW2]
          clear hW2 hb2 y0 y2 hbl1
          go_wp2_with (at_builtin; first | (refine wpList_append_own_none rfl _ _ 23 rfl w.heap.size 9 i0 1 Tryd.underlying23 hi0 _ 0 [] rfl (World.ownsRow_nil _ _ _ _) rfl ?_) | (refine wpList_append_own_at _ rfl _ _ 23 rfl w.heap.size 9 i0 _ 1 16 Tryd.underlying23 hi0 hz0 hz1 hz2 rfl (by decide) _ 0 [] rfl (World.ownsRow_nil _ _ _ _) ⟨W2.heap.size, 0, none⟩ 1 1 [.string nm] rfl rfl one_cell ?qc1 ?qc2 ?qc3 ?qc4 ?_))
          case qc1 => intro u hu; simp at hu; subst hu; rfl
          case qc2 => unfold maxLen; omega
          case qc3 => omega
          case qc4 => have := HB2.out.size; simp; omega
          intro v3 w3 hown3 hgrow3 _ hat3
          have HB3 : Hid (Below w.heap.size w w3) := (HB2.out.alloc HB2.out.size _).grown hgrow3 (by have := HB2.out.size; simp; omega) (fun j hj => by cases hj)
          have HO3 : Hid (w3.ownsRow w.heap.size 9 1 v3 1 [.string nm]) := hown3
          clear hown3 hgrow3 hat3
          go_wp2_with (at_builtin; refine wpList_append_own_none rfl _ _ 23 rfl w.heap.size 9 i0 1 Tryd.underlying23 hi0 _ 1 _ rfl HO3.out rfl ?_)
          have HRn := hid_of (refs_new HRf.out HOp.out 0)
          rw [HNm.out] at HRn
          go_wp2_with fail
          go_roundg (n - (i + 1))
          case measure => omega
          case rel => exact ⟨i + 1, [nm], by omega, rfl, by go_num, HO3.out, HRn.out, HB3.out⟩
        · have hlen := hRl
          obtain ⟨m, hm⟩ : ∃ m, R.length = m := ⟨_, rfl⟩
          have HM : Hid (R.length = m) := hm
          have hmi : (m : Int) ≤ 30 := by omega
          rw [hm] at hcp hcell ⊢
          have hcpi : (m : Int) ≤ (cp : Int) := by omega
          have hcmi : (cp : Int) ≤ 9223372036854775807 := by omega
          have HCell := hid_of hcell
          clear hown hcell hm hlen
          go_wp2_with fail
          have X2 := hid_of x2
          clear x2
          obtain ⟨wo, rfl⟩ : ∃ wo : World, wo = wr := ⟨_, rfl⟩
          go_loopg [5] m (fun g' s5 ws => ∃ (k : Nat), k ≤ m ∧ g' = m - k ∧ s5 = .int .i64 k ∧ Below wo.heap.size wo ws)
          case atStart => exact ⟨0, Nat.zero_le _, rfl, rfl, Below.refl _ _⟩
          case round =>
            obtain ⟨k, hk, rfl, rfl, hBs⟩ := hrel
            have HBs : Hid (Below wo.heap.size wo wr) := hBs
            have x2' := (hBs.cell (p := ⟨b, o + i * 5 + 2, none⟩) hbl).trans X2.out
            have hblr := Nat.lt_of_lt_of_le hbl hBs.size
            have hglr := Nat.lt_of_lt_of_le hgl hBs.size
            by_cases hkm : k < m
            · have hki : (k : Int) < (m : Int) := by omega
              have c0 := (hBs.cell (p := ⟨g, k, none⟩) hgl).trans (HCell.out k hkm)
              obtain ⟨y, hy⟩ : ∃ y, R.getD k noS = y := ⟨_, rfl⟩
              have HY := hid_of hy
              rw [hy] at c0
              clear hy hBs
              cases hls : Op.bytesLess y.toList nm.toList
              · go_wp2_with fail
                go_quiet (fail)
                obtain ⟨W1, hW1⟩ : ∃ W1, wr.drewN nq = W1 := ⟨_, rfl⟩
                have hbW1 : Below wr.heap.size wr W1 := by rw [← hW1]; exact below_drewN (Below.refl _ _) _
                have HS1 := hid_of hbW1
                have c1 := (hbW1.cell (p := ⟨g, k, none⟩) hglr).trans c0
                have x3 := (hbW1.cell (p := ⟨b, o + i * 5 + 2, none⟩) hblr).trans x2'
                rw [hW1]
                clear hW1 hbW1 c0 x2' hls
                by_cases hyx : y = nm
                · have HMem : Hid ((l.getD i noN).name ∈ R) := by
                    show _ ∈ R
                    rw [HNm.out, ← hyx, ← HY.out, List.getD_eq_getElem?_getD, List.getElem?_eq_getElem (by rw [HM.out]; exact hkm)]
                    exact List.getElem_mem _
                  subst hyx
                  go_wp2_with fail
                  go_quiet (fail)
                  have HBq : Hid (Below w.heap.size w (W1.drewN nq)) := below_drewN (onB HW.out (onB HBs.out HS1.out)) _
                  have HOq := hid_of (own_later HO.out (below_drewN (onB HBs.out HS1.out) nq))
                  rw [HM.out] at HOq
                  go_wp2_with fail
                  go_roundg (n - (i + 1))
                  case measure => omega
                  case rel => exact ⟨i + 1, R, by omega, rfl, by go_num, by rw [HM.out]; exact HOq.out, refs_old HRf.out HOp.out HMem.out, HBq.out⟩
                · have hne := toLs_ne hyx
                  clear hyx
                  go_wp2_with fail
                  go_quiet (fail)
                  obtain ⟨W2, hW2⟩ : ∃ W2, W1.drewN nq = W2 := ⟨_, rfl⟩
                  have hbW2 : Below W1.heap.size W1 W2 := by rw [← hW2]; exact below_drewN (Below.refl _ _) _
                  have HS2 : Hid (Below wr.heap.size wr W2) := onB HS1.out hbW2
                  rw [hW2]
                  clear hW2 hbW2 c1 x3 hne
                  have hck : ¬ cp = k := by omega
                  have KT : Hid (k ≤ m) := hk
                  have H0 : Hid (g < W2.heap.size) := Nat.lt_of_lt_of_le hgl (onB HBs.out HS2.out).size
                  have HS2' := hid_of (onB HBs.out HS2.out)
                  have hcelW : ∀ j, j < R.length → W2.cell? ⟨g, j, none⟩ = some (.string (R.getD j noS)) := fun j hj => (HS2'.out.cell (p := ⟨g, j, none⟩) hgl).trans (HCell.out j (by rw [← HM.out]; exact hj))
                  have HCW := hid_of hcelW
                  have z2 := (HS2'.out.cell (p := ⟨b, o + i * 5 + 2, none⟩) hbl).trans X2.out
                  have HBW2 := hid_of (onB HW.out HS2'.out)
                  have hblW := Nat.lt_of_lt_of_le hbl HS2'.out.size
                  clear hcelW
                  go_wp2_with (at_builtin; refine wpList_append_own_at _ rfl _ _ 23 rfl w.heap.size 9 i0 _ 1 16 Tryd.underlying23 hi0 hz0 hz1 hz2 rfl (by decide) _ 0 [] rfl (World.ownsRow_nil _ _ _ _) ⟨g, 0, none⟩ k cp (rowS (R.take k)) rfl ?qa0 ?qa1 ?qa2 ?qa3 ?qa4 ?qa5 ?_)
                  case qa0 => rw [rowS, List.length_map, List.length_take, HM.out, Nat.mul_one]; exact Nat.min_eq_left KT.out
                  case qa1 => exact row_take HCW.out k
                  case qa2 => exact row_one _
                  case qa3 => unfold maxLen; omega
                  case qa4 => omega
                  case qa5 => exact HBW2.out.size
                  intro v1 w1 hown1 hgrow1 _ hat1
                  have Hat1 := hid_of hat1
                  have hbG1 : Below W2.heap.size W2 w1 := ⟨hgrow1.os, hgrow1.tape, hgrow1.output, hgrow1.size, fun q hq => hgrow1.block q hq (by simp [Value.ownBlock])⟩
                  have HG1 := hid_of hbG1
                  have HB1 := hid_of (onB HBW2.out hbG1)
                  have HO1 : Hid (w1.ownsRow w.heap.size 9 1 v1 k (rowS (R.take k))) := hown1
                  have z3 := (hbG1.cell (p := ⟨b, o + i * 5 + 2, none⟩) hblW).trans z2
                  have hbl3 := Nat.lt_of_lt_of_le hblW hbG1.size
                  clear hown1 hgrow1 hat1 hbG1 z2
                  go_wp2_with (at_builtin; refine wpList_append_own_at _ rfl _ _ 23 rfl w.heap.size 9 i0 _ 1 16 Tryd.underlying23 hi0 hz0 hz1 hz2 rfl (by decide) _ k _ rfl (own_later HO1.out ?qb0) ⟨w1.heap.size, 0, none⟩ 1 1 [.string nm] rfl rfl one_cell ?qb1 ?qb2 ?qb3 ?qb4 ?_)
                  case qb0 => exact (Below.refl _ _).alloc (Nat.le_refl _) _
                  case qb1 => intro u hu; simp at hu; subst hu; rfl
                  case qb2 => unfold maxLen; omega
                  case qb3 => omega
                  case qb4 => have := HB1.out.size; simp; omega
                  intro v2 w2 hown2 hgrow2 _ hat2
                  have hv1 : ∀ j, v1.ownBlock = some j → W2.heap.size ≤ j := fun j hj => by
                    rcases Hat1.out with e | e
                    · rw [e] at hj; cases hj
                    · rw [e] at hj; cases hj; exact Nat.le_refl _
                  have HB2 : Hid (Below w.heap.size w w2) := (HB1.out.alloc HB1.out.size _).grown hgrow2 (by have := HB1.out.size; simp; omega) (fun j hj => by have := hv1 j hj; have := HBW2.out.size; omega)
                  have HG2 : Hid (Below W2.heap.size W2 w2) := (HG1.out.alloc HG1.out.size _).grown hgrow2 (by have := HG1.out.size; simp; omega) (fun j hj => hv1 j hj)
                  have HO2 : Hid (w2.ownsRow w.heap.size 9 1 v2 (k + 1) (rowS (R.take k) ++ [.string nm])) := hown2
                  have hv2 : ∀ j, v2.ownBlock = some j → W2.heap.size ≤ j := fun j hj => by
                    rcases hat2 with e | e
                    · exact hv1 j (by rw [← e]; exact hj)
                    · rw [e] at hj
                      cases hj
                      have := HG1.out.size
                      first | omega | (simp; omega)
                  have Hv2 := hid_of hv2
                  have hcel3 : ∀ j, j < R.length → w2.cell? ⟨g, j, none⟩ = some (.string (R.getD j noS)) := fun j hj => (HG2.out.cell (p := ⟨g, j, none⟩) H0.out).trans (HCW.out j hj)
                  have HC3 := hid_of hcel3
                  clear hown2 hgrow2 hat2 hv1 hv2 hcel3 z3
                  go_wp2_with (at_builtin; refine wpList_append_own_at _ rfl _ _ 23 rfl w.heap.size 9 i0 _ 1 16 Tryd.underlying23 hi0 hz0 hz1 hz2 rfl (by decide) _ (k + 1) _ rfl HO2.out ⟨g, k, none⟩ (m - k) (cp - k) (rowS (R.drop k)) rfl ?qd0 ?qd1 ?qd2 ?qd3 ?qd4 ?qd5 ?_)
                  case qd0 => rw [rowS, List.length_map, List.length_drop, HM.out, Nat.mul_one]
                  case qd1 => exact row_drop HC3.out k
                  case qd2 => exact row_one _
                  case qd3 => unfold maxLen; omega
                  case qd4 => omega
                  case qd5 => exact HB2.out.size
                  intro v4 w4 hown4 hgrow4 _ hat4
                  have HB4 : Hid (Below w.heap.size w w4) := HB2.out.grown hgrow4 HB2.out.size (fun j hj => by have := Hv2.out j hj; have := HBW2.out.size; omega)
                  have HO4 : Hid (w4.ownsRow w.heap.size 9 1 v4 (R.take k ++ [nm] ++ R.drop k).length (rowS (R.take k ++ [nm] ++ R.drop k))) := by
                    have e1 : (R.take k ++ [nm] ++ R.drop k).length = k + 1 + (m - k) := by
                      rw [List.length_append, List.length_append, List.length_take, List.length_drop, HM.out, Nat.min_eq_left KT.out]; rfl
                    have e2 : rowS (R.take k ++ [nm] ++ R.drop k) = rowS (R.take k) ++ .string nm :: rowS (R.drop k) := by simp [rowS]
                    show World.ownsRow ..
                    rw [e1, e2]
                    exact hown4
                  have HRn := hid_of (refs_new HRf.out HOp.out k)
                  rw [HNm.out] at HRn
                  clear hown4 hgrow4 hat4
                  go_wp2_with fail
                  go_roundg (n - (i + 1))
                  case measure => omega
                  case rel => exact ⟨i + 1, _, by omega, rfl, by go_num, HO4.out, HRn.out, HB4.out⟩
              · go_wp2_with fail
                go_quiet (fail)
                have HBq : Hid (Below wo.heap.size wo (wr.drewN nq)) := below_drewN HBs.out _
                go_wp2_with fail
                go_roundg (m - (k + 1))
                case measure => omega
                case rel => exact ⟨k + 1, by omega, rfl, by go_num, HBq.out⟩
            · have hke : k = m := by omega
              subst hke
              clear hBs
              go_wp2_with fail
              go_quiet (fail)
              obtain ⟨W1, hW1⟩ : ∃ W1, wr.drewN nq = W1 := ⟨_, rfl⟩
              have hbW1 : Below wr.heap.size wr W1 := by rw [← hW1]; exact below_drewN (Below.refl _ _) _
              have HS1 := hid_of hbW1
              have x3 := (hbW1.cell (p := ⟨b, o + i * 5 + 2, none⟩) hblr).trans x2'
              rw [hW1]
              clear hW1 hbW1 x2'
              go_wp2_with fail
              go_quiet (fail)
              obtain ⟨W2, hW2⟩ : ∃ W2, W1.drewN nq = W2 := ⟨_, rfl⟩
              have hbW2 : Below W1.heap.size W1 W2 := by rw [← hW2]; exact below_drewN (Below.refl _ _) _
              have HS2 : Hid (Below wr.heap.size wr W2) := onB HS1.out hbW2
              rw [hW2]
              clear hW2 hbW2 x3
              have KT : Hid (k ≤ k) := Nat.le_refl _
              have H0 : Hid (g < W2.heap.size) := Nat.lt_of_lt_of_le hgl (onB HBs.out HS2.out).size
              have HS2' := hid_of (onB HBs.out HS2.out)
              have hcelW : ∀ j, j < R.length → W2.cell? ⟨g, j, none⟩ = some (.string (R.getD j noS)) := fun j hj => (HS2'.out.cell (p := ⟨g, j, none⟩) hgl).trans (HCell.out j (by rw [← HM.out]; exact hj))
              have HCW := hid_of hcelW
              have z2 := (HS2'.out.cell (p := ⟨b, o + i * 5 + 2, none⟩) hbl).trans X2.out
              have HBW2 := hid_of (onB HW.out HS2'.out)
              have hblW := Nat.lt_of_lt_of_le hbl HS2'.out.size
              clear hcelW
              go_wp2_with (at_builtin; refine wpList_append_own_at _ rfl _ _ 23 rfl w.heap.size 9 i0 _ 1 16 Tryd.underlying23 hi0 hz0 hz1 hz2 rfl (by decide) _ 0 [] rfl (World.ownsRow_nil _ _ _ _) ⟨g, 0, none⟩ k cp (rowS (R.take k)) rfl ?qa0 ?qa1 ?qa2 ?qa3 ?qa4 ?qa5 ?_)
              case qa0 => rw [rowS, List.length_map, List.length_take, HM.out, Nat.mul_one]; exact Nat.min_eq_left KT.out
              case qa1 => exact row_take HCW.out k
              case qa2 => exact row_one _
              case qa3 => unfold maxLen; omega
              case qa4 => omega
              case qa5 => exact HBW2.out.size
              intro v1 w1 hown1 hgrow1 _ hat1
              have Hat1 := hid_of hat1
              have hbG1 : Below W2.heap.size W2 w1 := ⟨hgrow1.os, hgrow1.tape, hgrow1.output, hgrow1.size, fun q hq => hgrow1.block q hq (by simp [Value.ownBlock])⟩
              have HG1 := hid_of hbG1
              have HB1 := hid_of (onB HBW2.out hbG1)
              have HO1 : Hid (w1.ownsRow w.heap.size 9 1 v1 k (rowS (R.take k))) := hown1
              have z3 := (hbG1.cell (p := ⟨b, o + i * 5 + 2, none⟩) hblW).trans z2
              have hbl3 := Nat.lt_of_lt_of_le hblW hbG1.size
              clear hown1 hgrow1 hat1 hbG1 z2
              go_wp2_with (at_builtin; refine wpList_append_own_at _ rfl _ _ 23 rfl w.heap.size 9 i0 _ 1 16 Tryd.underlying23 hi0 hz0 hz1 hz2 rfl (by decide) _ k _ rfl (own_later HO1.out ?qb0) ⟨w1.heap.size, 0, none⟩ 1 1 [.string nm] rfl rfl one_cell ?qb1 ?qb2 ?qb3 ?qb4 ?_)
              case qb0 => exact (Below.refl _ _).alloc (Nat.le_refl _) _
              case qb1 => intro u hu; simp at hu; subst hu; rfl
              case qb2 => unfold maxLen; omega
              case qb3 => omega
              case qb4 => have := HB1.out.size; simp; omega
              intro v2 w2 hown2 hgrow2 _ hat2
              have hv1 : ∀ j, v1.ownBlock = some j → W2.heap.size ≤ j := fun j hj => by
                rcases Hat1.out with e | e
                · rw [e] at hj; cases hj
                · rw [e] at hj; cases hj; exact Nat.le_refl _
              have HB2 : Hid (Below w.heap.size w w2) := (HB1.out.alloc HB1.out.size _).grown hgrow2 (by have := HB1.out.size; simp; omega) (fun j hj => by have := hv1 j hj; have := HBW2.out.size; omega)
              have HG2 : Hid (Below W2.heap.size W2 w2) := (HG1.out.alloc HG1.out.size _).grown hgrow2 (by have := HG1.out.size; simp; omega) (fun j hj => hv1 j hj)
              have HO2 : Hid (w2.ownsRow w.heap.size 9 1 v2 (k + 1) (rowS (R.take k) ++ [.string nm])) := hown2
              have hv2 : ∀ j, v2.ownBlock = some j → W2.heap.size ≤ j := fun j hj => by
                rcases hat2 with e | e
                · exact hv1 j (by rw [← e]; exact hj)
                · rw [e] at hj
                  cases hj
                  have := HG1.out.size
                  first | omega | (simp; omega)
              have Hv2 := hid_of hv2
              have hcel3 : ∀ j, j < R.length → w2.cell? ⟨g, j, none⟩ = some (.string (R.getD j noS)) := fun j hj => (HG2.out.cell (p := ⟨g, j, none⟩) H0.out).trans (HCW.out j hj)
              have HC3 := hid_of hcel3
              clear hown2 hgrow2 hat2 hv1 hv2 hcel3 z3
              by_cases hcc : cp = k
              · obtain ⟨A2, c2, hv2e⟩ := own_form HO2.out
                subst hv2e
                go_wp2_with (at_builtin; (refine wpList_append_own_at _ rfl _ _ 23 rfl w.heap.size 9 i0 _ 1 16 Tryd.underlying23 hi0 hz0 hz1 hz2 rfl (by decide) _ (k + 1) _ rfl HO2.out ⟨g, 0, none⟩ 0 0 [] rfl rfl ?qd1 ?qd2 ?qd3 ?qd4 ?qd5 ?_))
                case qd1 => intro j u hj; simp at hj
                case qd2 => intro u hu; simp at hu
                case qd3 => unfold maxLen; omega
                case qd4 => omega
                case qd5 => exact HB2.out.size
                intro v4 w4 hown4 hgrow4 _ hat4
                have HB4 : Hid (Below w.heap.size w w4) := HB2.out.grown hgrow4 HB2.out.size (fun j hj => by have := Hv2.out j hj; have := HBW2.out.size; omega)
                have HO4 : Hid (w4.ownsRow w.heap.size 9 1 v4 (R.take k ++ [nm] ++ R.drop k).length (rowS (R.take k ++ [nm] ++ R.drop k))) := by
                  have e0 : R.drop k = [] := List.drop_eq_nil_of_le (by rw [HM.out]; exact Nat.le_refl _)
                  have e1 : (R.take k ++ [nm] ++ R.drop k).length = k + 1 := by
                    rw [e0, List.append_nil, List.length_append, List.length_take, HM.out, Nat.min_self]; rfl
                  have e2 : rowS (R.take k ++ [nm] ++ R.drop k) = rowS (R.take k) ++ [.string nm] := by rw [e0]; simp [rowS]
                  show World.ownsRow ..
                  rw [e1, e2]
                  exact hown4
                have HRn := hid_of (refs_new HRf.out HOp.out k)
                rw [HNm.out] at HRn
                clear hown4 hgrow4 hat4
                go_wp2_with fail
                go_roundg (n - (i + 1))
                case measure => omega
                case rel => exact ⟨i + 1, _, by omega, rfl, by go_num, HO4.out, HRn.out, HB4.out⟩
              · go_wp2_with (at_builtin; (refine wpList_append_own_at _ rfl _ _ 23 rfl w.heap.size 9 i0 _ 1 16 Tryd.underlying23 hi0 hz0 hz1 hz2 rfl (by decide) _ (k + 1) _ rfl HO2.out ⟨g, k, none⟩ 0 (cp - k) [] rfl rfl ?qd1 ?qd2 ?qd3 ?qd4 ?qd5 ?_))
                case qd1 => intro j u hj; simp at hj
                case qd2 => intro u hu; simp at hu
                case qd3 => unfold maxLen; omega
                case qd4 => omega
                case qd5 => exact HB2.out.size
                intro v4 w4 hown4 hgrow4 _ hat4
                have HB4 : Hid (Below w.heap.size w w4) := HB2.out.grown hgrow4 HB2.out.size (fun j hj => by have := Hv2.out j hj; have := HBW2.out.size; omega)
                have HO4 : Hid (w4.ownsRow w.heap.size 9 1 v4 (R.take k ++ [nm] ++ R.drop k).length (rowS (R.take k ++ [nm] ++ R.drop k))) := by
                  have e0 : R.drop k = [] := List.drop_eq_nil_of_le (by rw [HM.out]; exact Nat.le_refl _)
                  have e1 : (R.take k ++ [nm] ++ R.drop k).length = k + 1 := by
                    rw [e0, List.append_nil, List.length_append, List.length_take, HM.out, Nat.min_self]; rfl
                  have e2 : rowS (R.take k ++ [nm] ++ R.drop k) = rowS (R.take k) ++ [.string nm] := by rw [e0]; simp [rowS]
                  show World.ownsRow ..
                  rw [e1, e2]
                  exact hown4
                have HRn := hid_of (refs_new HRf.out HOp.out k)
                rw [HNm.out] at HRn
                clear hown4 hgrow4 hat4
                go_wp2_with fail
                go_roundg (n - (i + 1))
                case measure => omega
                case rel => exact ⟨i + 1, _, by omega, rfl, by go_num, HO4.out, HRn.out, HB4.out⟩
      · have hne : (x.op != 2) = true := by simpa using hop
        have HOp : Hid ((l.getD i noN).op ≠ 2) := by show _ ≠ _; rw [HX.out]; exact hop
        clear hop hown
        go_wp2_with fail
        go_roundg (n - (i + 1))
        case measure => omega
        case rel => exact ⟨i + 1, R, by omega, rfl, by go_num, HO.out, refs_skip HRf.out HOp.out, HW.out⟩
    · have hie : i = n := by omega
      subst hie
      clear hown
      go_wp2_with fail
      go_ret
      exact ⟨⟨_, R, rfl, HO.out, HRf.out⟩, HW.out⟩
end Go.Proofs.YtklfenojapgmnaeDoor

namespace Go.Proofs.YtklfenojapgmnaeDoor
open Go.ChangeShapes Go.WideShapes Go.ChangeAt Go.RowKit
set_option maxRecDepth 20000

set_option maxHeartbeats 4000000 in
theorem rswp_any (b o cap : Nat) (l : List Nd) (hl : RightL l) (h30 : l.length ≤ 30) : ∀ i, i < l.length → ∀ (base : Nat) (v : Value) (O : List Nd) (w : World), O.length + sizT (treeOf l i) ≤ 60 → b < base → base ≤ w.heap.size → NdsAt w b o l → w.ownsRow base 45 5 v O.length (cellsN O) →
    Calls Tryd.prog 12 #[v, .slice (some ⟨b, o, none⟩) l.length cap, .int .i64 i] w fun e w' => ∃ v', e = .returned v' ∧ Laid w base v (O ++ post (swapT (treeOf l i)) O.length) w' v' := by
  obtain ⟨i1, hj0, hj1, hj2, hj3⟩ := info_parts Tryd.infoNdF
  intro i
  induction i using Nat.strongRecOn with
  | _ i ih =>
    intro hi base v O w hO hbb hbw hN hown
    have HI : Hid (∀ m, m < i → m < l.length → ∀ (base : Nat) (v : Value) (O : List Nd) (w : World), O.length + sizT (treeOf l m) ≤ 60 → b < base → base ≤ w.heap.size → NdsAt w b o l → w.ownsRow base 45 5 v O.length (cellsN O) →
      Calls Tryd.prog 12 #[v, .slice (some ⟨b, o, none⟩) l.length cap, .int .i64 m] w fun e w' => ∃ v', e = .returned v' ∧ Laid w base v (O ++ post (swapT (treeOf l m)) O.length) w' v') := ih
    clear ih
    have hg := hl i hi
    have ho := op_range hg
    obtain ⟨x0, x1, x2, x3, x4⟩ := hN.nd (k := i) hi
    obtain ⟨x, hx⟩ : ∃ x, l.getD i noN = x := ⟨_, rfl⟩
    rw [hx] at x0 x1 x2 x3 x4 hg ho
    have HX : Hid (l.getD i noN = x) := hx
    obtain ⟨f1, f2, f3⟩ := nd_form hg
    have hii : (i : Int) < (l.length : Int) := by omega
    have hli : (l.length : Int) ≤ 30 := by omega
    have hbl : b < w.heap.size := hN.1
    have hOl : O.length ≤ 60 := by omega
    obtain ⟨op, nn, name, left, right⟩ := x
    simp only at x0 x1 x2 x3 x4 ho f1 f2 f3
    by_cases h1 : op = 1
    · subst h1
      have hP : swapT (treeOf l i) = .num nn := by rw [tree_num (by rw [hx]), hx]; rfl
      have hP2 : ∀ k, post (swapT (treeOf l i)) k = [⟨1, nn, name, left, right⟩] := fun k => by rw [hP, f1 rfl]; rfl
      rw [hP2]
      clear hx f1 f2 f3 hP hP2 hg ho
      obtain ⟨A, cO, rfl⟩ := own_form hown
      have HOw : Hid (∀ w', Below w.heap.size w w' → w'.ownsRow base 45 5 (.slice A O.length cO) O.length (cellsN O)) := fun w' hb => own_later hown hb
      clear hown
      go_enter Tryd.func12, Tryd.ntmps12
      go_wp2_with (at_builtin; refine wpList_append_own_at _ rfl _ _ 22 rfl base 45 i1 _ 5 48 Tryd.underlying22 hj0 hj1 hj2 hj3 rfl (by decide) _ O.length (cellsN O) rfl (HOw.out _ (by go_grown)) ⟨w.heap.size + 1, 0, none⟩ 1 1 (cellsNd1 ⟨1, nn, name, left, right⟩) rfl rfl ?qc1 ones5 ?qc2 ?qc3 ?qc4 ?_)
      case qc1 => exact news_top ⟨1, nn, name, left, right⟩
      case qc2 => unfold maxLen; omega
      case qc3 => omega
      case qc4 => simp; omega
      intro v' w2 hown' hgrow _ hat
      have HR := hid_of (laid_one (w := w) (O := O) (x := ⟨1, nn, name, left, right⟩) (by go_grown) hown' hgrow (hat.imp id fun e => ⟨_, e, by omega⟩))
      clear hown' hgrow hat
      go_wp2_with fail
      go_ret
      exact ⟨_, rfl, HR.out⟩
    by_cases h2 : op = 2
    · subst h2
      have hP : swapT (treeOf l i) = .ref name := by rw [tree_ref (by rw [hx]), hx]; rfl
      have hP2 : ∀ k, post (swapT (treeOf l i)) k = [⟨2, nn, name, left, right⟩] := fun k => by rw [hP, (f2 rfl).1]; rfl
      rw [hP2]
      clear hx f1 f2 f3 hP hP2 hg ho
      obtain ⟨A, cO, rfl⟩ := own_form hown
      have HOw : Hid (∀ w', Below w.heap.size w w' → w'.ownsRow base 45 5 (.slice A O.length cO) O.length (cellsN O)) := fun w' hb => own_later hown hb
      clear hown
      go_enter Tryd.func12, Tryd.ntmps12
      go_wp2_with (at_builtin; refine wpList_append_own_at _ rfl _ _ 22 rfl base 45 i1 _ 5 48 Tryd.underlying22 hj0 hj1 hj2 hj3 rfl (by decide) _ O.length (cellsN O) rfl (HOw.out _ (by go_grown)) ⟨w.heap.size + 1, 0, none⟩ 1 1 (cellsNd1 ⟨2, nn, name, left, right⟩) rfl rfl ?qc1 ones5 ?qc2 ?qc3 ?qc4 ?_)
      case qc1 => exact news_top ⟨2, nn, name, left, right⟩
      case qc2 => unfold maxLen; omega
      case qc3 => omega
      case qc4 => simp; omega
      intro v' w2 hown' hgrow _ hat
      have HR := hid_of (laid_one (w := w) (O := O) (x := ⟨2, nn, name, left, right⟩) (by go_grown) hown' hgrow (hat.imp id fun e => ⟨_, e, by omega⟩))
      clear hown' hgrow hat
      go_wp2_with fail
      go_ret
      exact ⟨_, rfl, HR.out⟩
    obtain ⟨a1, a2, a3, a4⟩ := nd_sides hg (show 2 < op by omega)
    simp only at a1 a2 a3 a4
    obtain ⟨a, ha⟩ : ∃ a : Nat, left = a := ⟨left.toNat, by omega⟩
    obtain ⟨c, hc⟩ : ∃ c : Nat, right = c := ⟨right.toNat, by omega⟩
    subst ha hc
    have hnn : nn = 0 ∧ name = noT := by have := f3 (by omega); injection this with _ e1 e2; exact ⟨e1, e2⟩
    obtain ⟨rfl, rfl⟩ := hnn
    have hT : treeOf l i = .bin op (treeOf l a) (treeOf l c) := by
      have := tree_bin hl hi (by rw [hx]; show 2 < op; omega)
      rw [hx] at this
      simpa using this
    have hsz : sizT (treeOf l i) = sizT (treeOf l a) + sizT (treeOf l c) + 1 := by rw [hT]; rfl
    have hvb : v.ownBlock ≠ some w.heap.size := fun e => by have := (own_block hown e).2.1; omega
    have hvB : v.ownBlock ≠ some b := fun e => by have := (own_block hown e).1; omega
    have HN : Hid (NdsAt w b o l) := hN
    have HOw : Hid (w.ownsRow base 45 5 v O.length (cellsN O)) := hown
    have HT : Hid (treeOf l i = .bin op (treeOf l a) (treeOf l c)) := hT
    have HSz : Hid (sizT (treeOf l i) = sizT (treeOf l a) + sizT (treeOf l c) + 1) := hsz
    have HO : Hid (O.length + sizT (treeOf l i) ≤ 60) := hO
    have Hvb : Hid (v.ownBlock ≠ some w.heap.size) := hvb
    have HvB : Hid (v.ownBlock ≠ some b) := hvB
    have hovc : op = 3 ∨ op = 4 ∨ op = 5 ∨ op = 6 := by omega
    clear hx f1 f2 f3 hg ho h1 h2 hT hsz hN hown hO hvb hvB HX
    rcases hovc with rfl | rfl | rfl | rfl
    · have HS : Hid (swapT (treeOf l i) = .bin 3 (swapT (treeOf l c)) (swapT (treeOf l a))) := by show _ = _; rw [HT.out, swap_on (by omega)]
      go_enter Tryd.func12, Tryd.ntmps12
      go_wp2_with fail
      refine (HI.out c (by omega) (by omega) base v O _ (by have := HSz.out; have := HO.out; omega) hbb (by simp; omega) (HN.out.later (by go_grown)) (own_later HOw.out (by go_grown))).mono ?_
      rintro e w1 ⟨v1, rfl, hL1⟩
      have hbx : Box5 w1 w.heap.size ⟨3, 0, noT, (a : Int), (c : Int)⟩ := (Box5.new w ⟨3, 0, noT, (a : Int), (c : Int)⟩).same (hL1.kept.block _ (by simp) Hvb.out)
      have hm1 : (O ++ post (swapT (treeOf l c)) O.length).length = O.length + sizT (treeOf l c) := by rw [List.length_append, post_len, swap_siz]
      have hN1 : NdsAt w1 b o l := nds_same (HN.out.later (w' := w.alloc _) (by go_grown)) hL1.kept.size (hL1.kept.block b (by simp; omega) HvB.out)
      have h11 : v1.ownBlock ≠ some w.heap.size := fun e => by
        rcases hL1.at' with h | ⟨g, h, hg⟩
        · exact Hvb.out (by rw [← h]; exact e)
        · rw [h] at e; cases e; simp at hg; omega
      have h1B : v1.ownBlock ≠ some b := fun e => by have := (own_block hL1.own e).1; omega
      have hs1 := hL1.kept.size
      simp at hs1
      obtain ⟨A1, cc1, hv1⟩ := own_form hL1.own
      rw [hm1] at hv1
      have hp1 := siz_pos (treeOf l c)
      obtain ⟨m1, hmm1⟩ : ∃ m1, O.length + sizT (treeOf l c) = m1 := ⟨_, rfl⟩
      rw [hmm1] at hv1
      have hm1i : (m1 : Int) ≤ 60 := by have := HSz.out; have := HO.out; omega
      have hm1p : 1 ≤ (m1 : Int) := by omega
      subst hv1
      have c3 := hbx.c3
      have c4 := hbx.c4
      have g3 := hbx.fr 3
      simp only at c3 c4
      have HBx : Hid (Box5 w1 w.heap.size ⟨3, 0, noT, (a : Int), (c : Int)⟩) := hbx
      have HL1 := hid_of hL1
      have HN1 : Hid (NdsAt w1 b o l) := hN1
      have Hm1 := hid_of hm1
      have Hmm := hid_of hmm1
      have H11 : Hid ((Value.slice A1 m1 cc1).ownBlock ≠ some w.heap.size) := h11
      have H1B : Hid ((Value.slice A1 m1 cc1).ownBlock ≠ some b) := h1B
      clear hbx hL1 hN1 hm1 hmm1 h11 h1B
      go_wp2_with fail
      have hkeep : ∀ g, (Value.slice A1 m1 cc1).ownBlock = some g → (w1.setCell ⟨w.heap.size, 3, none⟩ (.int .i64 ((m1 : Int) - 1))).heap[g]? = w1.heap[g]? := fun g hg => setCell_off _ _ _ _ _ (fun e => H11.out (by rw [hg, e]))
      refine (HI.out a (by omega) (by omega) base (.slice A1 m1 cc1) (O ++ post (swapT (treeOf l c)) O.length) _ (by rw [Hm1.out]; have := HSz.out; have := HO.out; omega) hbb (by simp; omega) (nds_same HN1.out (by simp) (setCell_off _ _ _ _ _ (by omega))) (own_keep HL1.out.own hkeep)).mono ?_
      rintro e w2 ⟨v2, rfl, hL2⟩
      have hbx2 : Box5 w2 w.heap.size ⟨3, 0, noT, (m1 : Int) - 1, (c : Int)⟩ := (HBx.out.set3 ((m1 : Int) - 1)).same (hL2.kept.block _ (by simp; omega) H11.out)
      have hm2 : (O ++ post (swapT (treeOf l c)) O.length ++ post (swapT (treeOf l a)) (O ++ post (swapT (treeOf l c)) O.length).length).length = m1 + sizT (treeOf l a) := by rw [List.length_append, Hm1.out, post_len, swap_siz, Hmm.out]
      obtain ⟨L2, hL2e⟩ : ∃ L2, O ++ post (swapT (treeOf l c)) O.length ++ post (swapT (treeOf l a)) (O ++ post (swapT (treeOf l c)) O.length).length = L2 := ⟨_, rfl⟩
      rw [hL2e] at hL2 hm2
      have HL2e := hid_of hL2e
      clear hL2e
      have h22 : v2.ownBlock ≠ some w.heap.size := fun e => by
        rcases hL2.at' with h | ⟨g, h, hg⟩
        · exact H11.out (by rw [← h]; exact e)
        · rw [h] at e; cases e; simp at hg; omega
      have hs2 := hL2.kept.size
      simp at hs2
      obtain ⟨A2, cc2, hv2⟩ := own_form hL2.own
      rw [hm2] at hv2
      have hp2 := siz_pos (treeOf l a)
      obtain ⟨m2, hmm2⟩ : ∃ m2, m1 + sizT (treeOf l a) = m2 := ⟨_, rfl⟩
      rw [hmm2] at hv2 hm2
      have hm2i : (m2 : Int) ≤ 60 := by have := HSz.out; have := HO.out; have := Hmm.out; omega
      have hm2p : 1 ≤ (m2 : Int) := by omega
      subst hv2
      have d0 := hbx2.c0
      have d1 := hbx2.c1
      have d2 := hbx2.c2
      have d3 := hbx2.c3
      have d4 := hbx2.c4
      have g4 := hbx2.fr 4
      simp only at d0 d1 d2 d3 d4
      have HL2 := hid_of hL2
      have Hm2 := hid_of hm2
      have Hmm2 := hid_of hmm2
      have hkeep2 : ∀ g, (Value.slice A2 m2 cc2).ownBlock = some g → (w2.setCell ⟨w.heap.size, 4, none⟩ (.int .i64 ((m2 : Int) - 1))).heap[g]? = w2.heap[g]? := fun g hg => setCell_off _ _ _ _ _ (fun e => h22 (by rw [hg, e]))
      have HO2 : Hid ((w2.setCell ⟨w.heap.size, 4, none⟩ (.int .i64 ((m2 : Int) - 1))).ownsRow base 45 5 (.slice A2 m2 cc2) m2 (cellsN L2)) := by
        have h := own_keep hL2.own hkeep2
        rw [hm2] at h
        exact h
      clear hbx2 hL2 hm2 hmm2 h22 hkeep hkeep2
      go_wp2_with (at_builtin; refine wpList_append_own_at _ rfl _ _ 22 rfl base 45 i1 _ 5 48 Tryd.underlying22 hj0 hj1 hj2 hj3 rfl (by decide) _ m2 _ rfl (own_later HO2.out ?qc0) ⟨w2.heap.size, 0, none⟩ 1 1 (cellsNd1 ⟨3, 0, noT, (m1 : Int) - 1, (m2 : Int) - 1⟩) rfl rfl ?qc1 ones5 ?qc2 ?qc3 ?qc4 ?_)
      case qc0 => exact (Below.refl _ _).alloc (Nat.le_refl _) _
      case qc1 => exact news5 (w := w2.setCell ⟨w.heap.size, 4, none⟩ (.int .i64 ((m2 : Int) - 1))) (x := ⟨3, 0, noT, (m1 : Int) - 1, (m2 : Int) - 1⟩) (by simp)
      case qc2 => unfold maxLen; omega
      case qc3 => omega
      case qc4 => simp; omega
      intro v3 w3 hown3 hgrow _ hat
      have HR := hid_of (laid_join (w := w) (W := w.alloc (.cells #[.int .i64 3, .int .i64 0, .string noT, .int .i64 (a : Int), .int .i64 (c : Int)] 45)) (x := ⟨3, 0, noT, (m1 : Int) - 1, (m2 : Int) - 1⟩) (by go_grown) HL1.out rfl HL2.out rfl (by rw [Hm2.out]; exact hown3) hgrow (hat.imp id fun e => ⟨_, e, by first | omega | (simp; omega)⟩))
      clear hown3 hgrow hat
      go_wp2_with fail
      go_ret
      refine ⟨_, rfl, ?_⟩
      have hR := HR.out
      have e1 : O ++ post (swapT (treeOf l i)) O.length = L2 ++ [⟨3, 0, noT, (m1 : Int) - 1, (m2 : Int) - 1⟩] := by
        rw [← HL2e.out, HS.out, post, Hm1.out, swap_siz, swap_siz, Hmm.out, Hmm2.out]
        have q1 : ((m1 - 1 : Nat) : Int) = (m1 : Int) - 1 := by omega
        have q2 : ((m2 - 1 : Nat) : Int) = (m2 : Int) - 1 := by omega
        rw [q1, q2]
        simp only [List.append_assoc]
      rw [e1]
      exact hR
    · have HS : Hid (swapT (treeOf l i) = .bin 4 (swapT (treeOf l a)) (swapT (treeOf l c))) := by show _ = _; rw [HT.out, swap_off (by omega)]
      go_enter Tryd.func12, Tryd.ntmps12
      go_wp2_with fail
      refine (HI.out a (by omega) (by omega) base v O _ (by have := HSz.out; have := HO.out; omega) hbb (by simp; omega) (HN.out.later (by go_grown)) (own_later HOw.out (by go_grown))).mono ?_
      rintro e w1 ⟨v1, rfl, hL1⟩
      have hbx : Box5 w1 w.heap.size ⟨4, 0, noT, (a : Int), (c : Int)⟩ := (Box5.new w ⟨4, 0, noT, (a : Int), (c : Int)⟩).same (hL1.kept.block _ (by simp) Hvb.out)
      have hm1 : (O ++ post (swapT (treeOf l a)) O.length).length = O.length + sizT (treeOf l a) := by rw [List.length_append, post_len, swap_siz]
      have hN1 : NdsAt w1 b o l := nds_same (HN.out.later (w' := w.alloc _) (by go_grown)) hL1.kept.size (hL1.kept.block b (by simp; omega) HvB.out)
      have h11 : v1.ownBlock ≠ some w.heap.size := fun e => by
        rcases hL1.at' with h | ⟨g, h, hg⟩
        · exact Hvb.out (by rw [← h]; exact e)
        · rw [h] at e; cases e; simp at hg; omega
      have h1B : v1.ownBlock ≠ some b := fun e => by have := (own_block hL1.own e).1; omega
      have hs1 := hL1.kept.size
      simp at hs1
      obtain ⟨A1, cc1, hv1⟩ := own_form hL1.own
      rw [hm1] at hv1
      have hp1 := siz_pos (treeOf l a)
      obtain ⟨m1, hmm1⟩ : ∃ m1, O.length + sizT (treeOf l a) = m1 := ⟨_, rfl⟩
      rw [hmm1] at hv1
      have hm1i : (m1 : Int) ≤ 60 := by have := HSz.out; have := HO.out; omega
      have hm1p : 1 ≤ (m1 : Int) := by omega
      subst hv1
      have c3 := hbx.c3
      have c4 := hbx.c4
      have g3 := hbx.fr 3
      simp only at c3 c4
      have HBx : Hid (Box5 w1 w.heap.size ⟨4, 0, noT, (a : Int), (c : Int)⟩) := hbx
      have HL1 := hid_of hL1
      have HN1 : Hid (NdsAt w1 b o l) := hN1
      have Hm1 := hid_of hm1
      have Hmm := hid_of hmm1
      have H11 : Hid ((Value.slice A1 m1 cc1).ownBlock ≠ some w.heap.size) := h11
      have H1B : Hid ((Value.slice A1 m1 cc1).ownBlock ≠ some b) := h1B
      clear hbx hL1 hN1 hm1 hmm1 h11 h1B
      go_wp2_with fail
      have hkeep : ∀ g, (Value.slice A1 m1 cc1).ownBlock = some g → (w1.setCell ⟨w.heap.size, 3, none⟩ (.int .i64 ((m1 : Int) - 1))).heap[g]? = w1.heap[g]? := fun g hg => setCell_off _ _ _ _ _ (fun e => H11.out (by rw [hg, e]))
      refine (HI.out c (by omega) (by omega) base (.slice A1 m1 cc1) (O ++ post (swapT (treeOf l a)) O.length) _ (by rw [Hm1.out]; have := HSz.out; have := HO.out; omega) hbb (by simp; omega) (nds_same HN1.out (by simp) (setCell_off _ _ _ _ _ (by omega))) (own_keep HL1.out.own hkeep)).mono ?_
      rintro e w2 ⟨v2, rfl, hL2⟩
      have hbx2 : Box5 w2 w.heap.size ⟨4, 0, noT, (m1 : Int) - 1, (c : Int)⟩ := (HBx.out.set3 ((m1 : Int) - 1)).same (hL2.kept.block _ (by simp; omega) H11.out)
      have hm2 : (O ++ post (swapT (treeOf l a)) O.length ++ post (swapT (treeOf l c)) (O ++ post (swapT (treeOf l a)) O.length).length).length = m1 + sizT (treeOf l c) := by rw [List.length_append, Hm1.out, post_len, swap_siz, Hmm.out]
      obtain ⟨L2, hL2e⟩ : ∃ L2, O ++ post (swapT (treeOf l a)) O.length ++ post (swapT (treeOf l c)) (O ++ post (swapT (treeOf l a)) O.length).length = L2 := ⟨_, rfl⟩
      rw [hL2e] at hL2 hm2
      have HL2e := hid_of hL2e
      clear hL2e
      have h22 : v2.ownBlock ≠ some w.heap.size := fun e => by
        rcases hL2.at' with h | ⟨g, h, hg⟩
        · exact H11.out (by rw [← h]; exact e)
        · rw [h] at e; cases e; simp at hg; omega
      have hs2 := hL2.kept.size
      simp at hs2
      obtain ⟨A2, cc2, hv2⟩ := own_form hL2.own
      rw [hm2] at hv2
      have hp2 := siz_pos (treeOf l c)
      obtain ⟨m2, hmm2⟩ : ∃ m2, m1 + sizT (treeOf l c) = m2 := ⟨_, rfl⟩
      rw [hmm2] at hv2 hm2
      have hm2i : (m2 : Int) ≤ 60 := by have := HSz.out; have := HO.out; have := Hmm.out; omega
      have hm2p : 1 ≤ (m2 : Int) := by omega
      subst hv2
      have d0 := hbx2.c0
      have d1 := hbx2.c1
      have d2 := hbx2.c2
      have d3 := hbx2.c3
      have d4 := hbx2.c4
      have g4 := hbx2.fr 4
      simp only at d0 d1 d2 d3 d4
      have HL2 := hid_of hL2
      have Hm2 := hid_of hm2
      have Hmm2 := hid_of hmm2
      have hkeep2 : ∀ g, (Value.slice A2 m2 cc2).ownBlock = some g → (w2.setCell ⟨w.heap.size, 4, none⟩ (.int .i64 ((m2 : Int) - 1))).heap[g]? = w2.heap[g]? := fun g hg => setCell_off _ _ _ _ _ (fun e => h22 (by rw [hg, e]))
      have HO2 : Hid ((w2.setCell ⟨w.heap.size, 4, none⟩ (.int .i64 ((m2 : Int) - 1))).ownsRow base 45 5 (.slice A2 m2 cc2) m2 (cellsN L2)) := by
        have h := own_keep hL2.own hkeep2
        rw [hm2] at h
        exact h
      clear hbx2 hL2 hm2 hmm2 h22 hkeep hkeep2
      go_wp2_with (at_builtin; refine wpList_append_own_at _ rfl _ _ 22 rfl base 45 i1 _ 5 48 Tryd.underlying22 hj0 hj1 hj2 hj3 rfl (by decide) _ m2 _ rfl (own_later HO2.out ?qc0) ⟨w2.heap.size, 0, none⟩ 1 1 (cellsNd1 ⟨4, 0, noT, (m1 : Int) - 1, (m2 : Int) - 1⟩) rfl rfl ?qc1 ones5 ?qc2 ?qc3 ?qc4 ?_)
      case qc0 => exact (Below.refl _ _).alloc (Nat.le_refl _) _
      case qc1 => exact news5 (w := w2.setCell ⟨w.heap.size, 4, none⟩ (.int .i64 ((m2 : Int) - 1))) (x := ⟨4, 0, noT, (m1 : Int) - 1, (m2 : Int) - 1⟩) (by simp)
      case qc2 => unfold maxLen; omega
      case qc3 => omega
      case qc4 => simp; omega
      intro v3 w3 hown3 hgrow _ hat
      have HR := hid_of (laid_join (w := w) (W := w.alloc (.cells #[.int .i64 4, .int .i64 0, .string noT, .int .i64 (a : Int), .int .i64 (c : Int)] 45)) (x := ⟨4, 0, noT, (m1 : Int) - 1, (m2 : Int) - 1⟩) (by go_grown) HL1.out rfl HL2.out rfl (by rw [Hm2.out]; exact hown3) hgrow (hat.imp id fun e => ⟨_, e, by first | omega | (simp; omega)⟩))
      clear hown3 hgrow hat
      go_wp2_with fail
      go_ret
      refine ⟨_, rfl, ?_⟩
      have hR := HR.out
      have e1 : O ++ post (swapT (treeOf l i)) O.length = L2 ++ [⟨4, 0, noT, (m1 : Int) - 1, (m2 : Int) - 1⟩] := by
        rw [← HL2e.out, HS.out, post, Hm1.out, swap_siz, swap_siz, Hmm.out, Hmm2.out]
        have q1 : ((m1 - 1 : Nat) : Int) = (m1 : Int) - 1 := by omega
        have q2 : ((m2 - 1 : Nat) : Int) = (m2 : Int) - 1 := by omega
        rw [q1, q2]
        simp only [List.append_assoc]
      rw [e1]
      exact hR
    · have HS : Hid (swapT (treeOf l i) = .bin 5 (swapT (treeOf l c)) (swapT (treeOf l a))) := by show _ = _; rw [HT.out, swap_on (by omega)]
      go_enter Tryd.func12, Tryd.ntmps12
      go_wp2_with fail
      refine (HI.out c (by omega) (by omega) base v O _ (by have := HSz.out; have := HO.out; omega) hbb (by simp; omega) (HN.out.later (by go_grown)) (own_later HOw.out (by go_grown))).mono ?_
      rintro e w1 ⟨v1, rfl, hL1⟩
      have hbx : Box5 w1 w.heap.size ⟨5, 0, noT, (a : Int), (c : Int)⟩ := (Box5.new w ⟨5, 0, noT, (a : Int), (c : Int)⟩).same (hL1.kept.block _ (by simp) Hvb.out)
      have hm1 : (O ++ post (swapT (treeOf l c)) O.length).length = O.length + sizT (treeOf l c) := by rw [List.length_append, post_len, swap_siz]
      have hN1 : NdsAt w1 b o l := nds_same (HN.out.later (w' := w.alloc _) (by go_grown)) hL1.kept.size (hL1.kept.block b (by simp; omega) HvB.out)
      have h11 : v1.ownBlock ≠ some w.heap.size := fun e => by
        rcases hL1.at' with h | ⟨g, h, hg⟩
        · exact Hvb.out (by rw [← h]; exact e)
        · rw [h] at e; cases e; simp at hg; omega
      have h1B : v1.ownBlock ≠ some b := fun e => by have := (own_block hL1.own e).1; omega
      have hs1 := hL1.kept.size
      simp at hs1
      obtain ⟨A1, cc1, hv1⟩ := own_form hL1.own
      rw [hm1] at hv1
      have hp1 := siz_pos (treeOf l c)
      obtain ⟨m1, hmm1⟩ : ∃ m1, O.length + sizT (treeOf l c) = m1 := ⟨_, rfl⟩
      rw [hmm1] at hv1
      have hm1i : (m1 : Int) ≤ 60 := by have := HSz.out; have := HO.out; omega
      have hm1p : 1 ≤ (m1 : Int) := by omega
      subst hv1
      have c3 := hbx.c3
      have c4 := hbx.c4
      have g3 := hbx.fr 3
      simp only at c3 c4
      have HBx : Hid (Box5 w1 w.heap.size ⟨5, 0, noT, (a : Int), (c : Int)⟩) := hbx
      have HL1 := hid_of hL1
      have HN1 : Hid (NdsAt w1 b o l) := hN1
      have Hm1 := hid_of hm1
      have Hmm := hid_of hmm1
      have H11 : Hid ((Value.slice A1 m1 cc1).ownBlock ≠ some w.heap.size) := h11
      have H1B : Hid ((Value.slice A1 m1 cc1).ownBlock ≠ some b) := h1B
      clear hbx hL1 hN1 hm1 hmm1 h11 h1B
      go_wp2_with fail
      have hkeep : ∀ g, (Value.slice A1 m1 cc1).ownBlock = some g → (w1.setCell ⟨w.heap.size, 3, none⟩ (.int .i64 ((m1 : Int) - 1))).heap[g]? = w1.heap[g]? := fun g hg => setCell_off _ _ _ _ _ (fun e => H11.out (by rw [hg, e]))
      refine (HI.out a (by omega) (by omega) base (.slice A1 m1 cc1) (O ++ post (swapT (treeOf l c)) O.length) _ (by rw [Hm1.out]; have := HSz.out; have := HO.out; omega) hbb (by simp; omega) (nds_same HN1.out (by simp) (setCell_off _ _ _ _ _ (by omega))) (own_keep HL1.out.own hkeep)).mono ?_
      rintro e w2 ⟨v2, rfl, hL2⟩
      have hbx2 : Box5 w2 w.heap.size ⟨5, 0, noT, (m1 : Int) - 1, (c : Int)⟩ := (HBx.out.set3 ((m1 : Int) - 1)).same (hL2.kept.block _ (by simp; omega) H11.out)
      have hm2 : (O ++ post (swapT (treeOf l c)) O.length ++ post (swapT (treeOf l a)) (O ++ post (swapT (treeOf l c)) O.length).length).length = m1 + sizT (treeOf l a) := by rw [List.length_append, Hm1.out, post_len, swap_siz, Hmm.out]
      obtain ⟨L2, hL2e⟩ : ∃ L2, O ++ post (swapT (treeOf l c)) O.length ++ post (swapT (treeOf l a)) (O ++ post (swapT (treeOf l c)) O.length).length = L2 := ⟨_, rfl⟩
      rw [hL2e] at hL2 hm2
      have HL2e := hid_of hL2e
      clear hL2e
      have h22 : v2.ownBlock ≠ some w.heap.size := fun e => by
        rcases hL2.at' with h | ⟨g, h, hg⟩
        · exact H11.out (by rw [← h]; exact e)
        · rw [h] at e; cases e; simp at hg; omega
      have hs2 := hL2.kept.size
      simp at hs2
      obtain ⟨A2, cc2, hv2⟩ := own_form hL2.own
      rw [hm2] at hv2
      have hp2 := siz_pos (treeOf l a)
      obtain ⟨m2, hmm2⟩ : ∃ m2, m1 + sizT (treeOf l a) = m2 := ⟨_, rfl⟩
      rw [hmm2] at hv2 hm2
      have hm2i : (m2 : Int) ≤ 60 := by have := HSz.out; have := HO.out; have := Hmm.out; omega
      have hm2p : 1 ≤ (m2 : Int) := by omega
      subst hv2
      have d0 := hbx2.c0
      have d1 := hbx2.c1
      have d2 := hbx2.c2
      have d3 := hbx2.c3
      have d4 := hbx2.c4
      have g4 := hbx2.fr 4
      simp only at d0 d1 d2 d3 d4
      have HL2 := hid_of hL2
      have Hm2 := hid_of hm2
      have Hmm2 := hid_of hmm2
      have hkeep2 : ∀ g, (Value.slice A2 m2 cc2).ownBlock = some g → (w2.setCell ⟨w.heap.size, 4, none⟩ (.int .i64 ((m2 : Int) - 1))).heap[g]? = w2.heap[g]? := fun g hg => setCell_off _ _ _ _ _ (fun e => h22 (by rw [hg, e]))
      have HO2 : Hid ((w2.setCell ⟨w.heap.size, 4, none⟩ (.int .i64 ((m2 : Int) - 1))).ownsRow base 45 5 (.slice A2 m2 cc2) m2 (cellsN L2)) := by
        have h := own_keep hL2.own hkeep2
        rw [hm2] at h
        exact h
      clear hbx2 hL2 hm2 hmm2 h22 hkeep hkeep2
      go_wp2_with (at_builtin; refine wpList_append_own_at _ rfl _ _ 22 rfl base 45 i1 _ 5 48 Tryd.underlying22 hj0 hj1 hj2 hj3 rfl (by decide) _ m2 _ rfl (own_later HO2.out ?qc0) ⟨w2.heap.size, 0, none⟩ 1 1 (cellsNd1 ⟨5, 0, noT, (m1 : Int) - 1, (m2 : Int) - 1⟩) rfl rfl ?qc1 ones5 ?qc2 ?qc3 ?qc4 ?_)
      case qc0 => exact (Below.refl _ _).alloc (Nat.le_refl _) _
      case qc1 => exact news5 (w := w2.setCell ⟨w.heap.size, 4, none⟩ (.int .i64 ((m2 : Int) - 1))) (x := ⟨5, 0, noT, (m1 : Int) - 1, (m2 : Int) - 1⟩) (by simp)
      case qc2 => unfold maxLen; omega
      case qc3 => omega
      case qc4 => simp; omega
      intro v3 w3 hown3 hgrow _ hat
      have HR := hid_of (laid_join (w := w) (W := w.alloc (.cells #[.int .i64 5, .int .i64 0, .string noT, .int .i64 (a : Int), .int .i64 (c : Int)] 45)) (x := ⟨5, 0, noT, (m1 : Int) - 1, (m2 : Int) - 1⟩) (by go_grown) HL1.out rfl HL2.out rfl (by rw [Hm2.out]; exact hown3) hgrow (hat.imp id fun e => ⟨_, e, by first | omega | (simp; omega)⟩))
      clear hown3 hgrow hat
      go_wp2_with fail
      go_ret
      refine ⟨_, rfl, ?_⟩
      have hR := HR.out
      have e1 : O ++ post (swapT (treeOf l i)) O.length = L2 ++ [⟨5, 0, noT, (m1 : Int) - 1, (m2 : Int) - 1⟩] := by
        rw [← HL2e.out, HS.out, post, Hm1.out, swap_siz, swap_siz, Hmm.out, Hmm2.out]
        have q1 : ((m1 - 1 : Nat) : Int) = (m1 : Int) - 1 := by omega
        have q2 : ((m2 - 1 : Nat) : Int) = (m2 : Int) - 1 := by omega
        rw [q1, q2]
        simp only [List.append_assoc]
      rw [e1]
      exact hR
    · have HS : Hid (swapT (treeOf l i) = .bin 6 (swapT (treeOf l a)) (swapT (treeOf l c))) := by show _ = _; rw [HT.out, swap_off (by omega)]
      go_enter Tryd.func12, Tryd.ntmps12
      go_wp2_with fail
      refine (HI.out a (by omega) (by omega) base v O _ (by have := HSz.out; have := HO.out; omega) hbb (by simp; omega) (HN.out.later (by go_grown)) (own_later HOw.out (by go_grown))).mono ?_
      rintro e w1 ⟨v1, rfl, hL1⟩
      have hbx : Box5 w1 w.heap.size ⟨6, 0, noT, (a : Int), (c : Int)⟩ := (Box5.new w ⟨6, 0, noT, (a : Int), (c : Int)⟩).same (hL1.kept.block _ (by simp) Hvb.out)
      have hm1 : (O ++ post (swapT (treeOf l a)) O.length).length = O.length + sizT (treeOf l a) := by rw [List.length_append, post_len, swap_siz]
      have hN1 : NdsAt w1 b o l := nds_same (HN.out.later (w' := w.alloc _) (by go_grown)) hL1.kept.size (hL1.kept.block b (by simp; omega) HvB.out)
      have h11 : v1.ownBlock ≠ some w.heap.size := fun e => by
        rcases hL1.at' with h | ⟨g, h, hg⟩
        · exact Hvb.out (by rw [← h]; exact e)
        · rw [h] at e; cases e; simp at hg; omega
      have h1B : v1.ownBlock ≠ some b := fun e => by have := (own_block hL1.own e).1; omega
      have hs1 := hL1.kept.size
      simp at hs1
      obtain ⟨A1, cc1, hv1⟩ := own_form hL1.own
      rw [hm1] at hv1
      have hp1 := siz_pos (treeOf l a)
      obtain ⟨m1, hmm1⟩ : ∃ m1, O.length + sizT (treeOf l a) = m1 := ⟨_, rfl⟩
      rw [hmm1] at hv1
      have hm1i : (m1 : Int) ≤ 60 := by have := HSz.out; have := HO.out; omega
      have hm1p : 1 ≤ (m1 : Int) := by omega
      subst hv1
      have c3 := hbx.c3
      have c4 := hbx.c4
      have g3 := hbx.fr 3
      simp only at c3 c4
      have HBx : Hid (Box5 w1 w.heap.size ⟨6, 0, noT, (a : Int), (c : Int)⟩) := hbx
      have HL1 := hid_of hL1
      have HN1 : Hid (NdsAt w1 b o l) := hN1
      have Hm1 := hid_of hm1
      have Hmm := hid_of hmm1
      have H11 : Hid ((Value.slice A1 m1 cc1).ownBlock ≠ some w.heap.size) := h11
      have H1B : Hid ((Value.slice A1 m1 cc1).ownBlock ≠ some b) := h1B
      clear hbx hL1 hN1 hm1 hmm1 h11 h1B
      go_wp2_with fail
      have hkeep : ∀ g, (Value.slice A1 m1 cc1).ownBlock = some g → (w1.setCell ⟨w.heap.size, 3, none⟩ (.int .i64 ((m1 : Int) - 1))).heap[g]? = w1.heap[g]? := fun g hg => setCell_off _ _ _ _ _ (fun e => H11.out (by rw [hg, e]))
      refine (HI.out c (by omega) (by omega) base (.slice A1 m1 cc1) (O ++ post (swapT (treeOf l a)) O.length) _ (by rw [Hm1.out]; have := HSz.out; have := HO.out; omega) hbb (by simp; omega) (nds_same HN1.out (by simp) (setCell_off _ _ _ _ _ (by omega))) (own_keep HL1.out.own hkeep)).mono ?_
      rintro e w2 ⟨v2, rfl, hL2⟩
      have hbx2 : Box5 w2 w.heap.size ⟨6, 0, noT, (m1 : Int) - 1, (c : Int)⟩ := (HBx.out.set3 ((m1 : Int) - 1)).same (hL2.kept.block _ (by simp; omega) H11.out)
      have hm2 : (O ++ post (swapT (treeOf l a)) O.length ++ post (swapT (treeOf l c)) (O ++ post (swapT (treeOf l a)) O.length).length).length = m1 + sizT (treeOf l c) := by rw [List.length_append, Hm1.out, post_len, swap_siz, Hmm.out]
      obtain ⟨L2, hL2e⟩ : ∃ L2, O ++ post (swapT (treeOf l a)) O.length ++ post (swapT (treeOf l c)) (O ++ post (swapT (treeOf l a)) O.length).length = L2 := ⟨_, rfl⟩
      rw [hL2e] at hL2 hm2
      have HL2e := hid_of hL2e
      clear hL2e
      have h22 : v2.ownBlock ≠ some w.heap.size := fun e => by
        rcases hL2.at' with h | ⟨g, h, hg⟩
        · exact H11.out (by rw [← h]; exact e)
        · rw [h] at e; cases e; simp at hg; omega
      have hs2 := hL2.kept.size
      simp at hs2
      obtain ⟨A2, cc2, hv2⟩ := own_form hL2.own
      rw [hm2] at hv2
      have hp2 := siz_pos (treeOf l c)
      obtain ⟨m2, hmm2⟩ : ∃ m2, m1 + sizT (treeOf l c) = m2 := ⟨_, rfl⟩
      rw [hmm2] at hv2 hm2
      have hm2i : (m2 : Int) ≤ 60 := by have := HSz.out; have := HO.out; have := Hmm.out; omega
      have hm2p : 1 ≤ (m2 : Int) := by omega
      subst hv2
      have d0 := hbx2.c0
      have d1 := hbx2.c1
      have d2 := hbx2.c2
      have d3 := hbx2.c3
      have d4 := hbx2.c4
      have g4 := hbx2.fr 4
      simp only at d0 d1 d2 d3 d4
      have HL2 := hid_of hL2
      have Hm2 := hid_of hm2
      have Hmm2 := hid_of hmm2
      have hkeep2 : ∀ g, (Value.slice A2 m2 cc2).ownBlock = some g → (w2.setCell ⟨w.heap.size, 4, none⟩ (.int .i64 ((m2 : Int) - 1))).heap[g]? = w2.heap[g]? := fun g hg => setCell_off _ _ _ _ _ (fun e => h22 (by rw [hg, e]))
      have HO2 : Hid ((w2.setCell ⟨w.heap.size, 4, none⟩ (.int .i64 ((m2 : Int) - 1))).ownsRow base 45 5 (.slice A2 m2 cc2) m2 (cellsN L2)) := by
        have h := own_keep hL2.own hkeep2
        rw [hm2] at h
        exact h
      clear hbx2 hL2 hm2 hmm2 h22 hkeep hkeep2
      go_wp2_with (at_builtin; refine wpList_append_own_at _ rfl _ _ 22 rfl base 45 i1 _ 5 48 Tryd.underlying22 hj0 hj1 hj2 hj3 rfl (by decide) _ m2 _ rfl (own_later HO2.out ?qc0) ⟨w2.heap.size, 0, none⟩ 1 1 (cellsNd1 ⟨6, 0, noT, (m1 : Int) - 1, (m2 : Int) - 1⟩) rfl rfl ?qc1 ones5 ?qc2 ?qc3 ?qc4 ?_)
      case qc0 => exact (Below.refl _ _).alloc (Nat.le_refl _) _
      case qc1 => exact news5 (w := w2.setCell ⟨w.heap.size, 4, none⟩ (.int .i64 ((m2 : Int) - 1))) (x := ⟨6, 0, noT, (m1 : Int) - 1, (m2 : Int) - 1⟩) (by simp)
      case qc2 => unfold maxLen; omega
      case qc3 => omega
      case qc4 => simp; omega
      intro v3 w3 hown3 hgrow _ hat
      have HR := hid_of (laid_join (w := w) (W := w.alloc (.cells #[.int .i64 6, .int .i64 0, .string noT, .int .i64 (a : Int), .int .i64 (c : Int)] 45)) (x := ⟨6, 0, noT, (m1 : Int) - 1, (m2 : Int) - 1⟩) (by go_grown) HL1.out rfl HL2.out rfl (by rw [Hm2.out]; exact hown3) hgrow (hat.imp id fun e => ⟨_, e, by first | omega | (simp; omega)⟩))
      clear hown3 hgrow hat
      go_wp2_with fail
      go_ret
      refine ⟨_, rfl, ?_⟩
      have hR := HR.out
      have e1 : O ++ post (swapT (treeOf l i)) O.length = L2 ++ [⟨6, 0, noT, (m1 : Int) - 1, (m2 : Int) - 1⟩] := by
        rw [← HL2e.out, HS.out, post, Hm1.out, swap_siz, swap_siz, Hmm.out, Hmm2.out]
        have q1 : ((m1 - 1 : Nat) : Int) = (m1 : Int) - 1 := by omega
        have q2 : ((m2 - 1 : Nat) : Int) = (m2 : Int) - 1 := by omega
        rw [q1, q2]
        simp only [List.append_assoc]
      rw [e1]
      exact hR
end Go.Proofs.YtklfenojapgmnaeDoor

namespace Go.Proofs.YtklfenojapgmnaeDoor
open Go.ChangeShapes Go.WideShapes Go.ChangeAt Go.RowKit
set_option maxRecDepth 20000

set_option maxHeartbeats 4000000 in
theorem samends_any (A B : Option Addr) (ca cb : Nat) (L : List Nd) (w : World) (hn : L.length ≤ 60) (hA : NdsV w A ca L) (hB : NdsV w B cb L) : Calls Tryd.prog 14 #[.slice A L.length ca, .slice B L.length cb] w fun e w' => e = .returned (.bool true) ∧ Below w.heap.size w w' := by
  have HA : Hid (NdsV w A ca L) := hA
  have HB : Hid (NdsV w B cb L) := hB
  obtain ⟨n, hn'⟩ : ∃ n, L.length = n := ⟨_, rfl⟩
  have HL : Hid (L.length = n) := hn'
  rw [hn'] at hn ⊢
  have hni : (n : Int) ≤ 60 := by omega
  clear hA hB hn'
  go_enter Tryd.func14, Tryd.ntmps14
  go_wp2_with fail
  go_loopg [5] n (fun g s5 wr => ∃ (k : Nat), k ≤ n ∧ g = n - k ∧ s5 = .int .i64 k ∧ Below w.heap.size w wr)
  case atStart => exact ⟨0, Nat.zero_le _, rfl, rfl, Below.refl _ _⟩
  case round =>
    obtain ⟨k, hk, rfl, rfl, hBw⟩ := hrel
    have HW : Hid (Below w.heap.size w wr) := hBw
    clear hBw
    by_cases hlt : k < n
    · have hki : (k : Int) < (n : Int) := by omega
      obtain ⟨-, -, h0 | ⟨b, o, rfl, hN1⟩⟩ := HA.out.later HW.out
      · have := HL.out; rw [h0] at this; simp at this; omega
      obtain ⟨-, -, h0 | ⟨b', o', rfl, hN2⟩⟩ := HB.out.later HW.out
      · have := HL.out; rw [h0] at this; simp at this; omega
      obtain ⟨x0, x1, x2, x3, x4⟩ := hN1.nd (k := k) (by rw [HL.out]; exact hlt)
      obtain ⟨y0, y1, y2, y3, y4⟩ := hN2.nd (k := k) (by rw [HL.out]; exact hlt)
      obtain ⟨x, hx⟩ : ∃ x, L.getD k noN = x := ⟨_, rfl⟩
      rw [hx] at x0 x1 x2 x3 x4 y0 y1 y2 y3 y4
      clear hN1 hN2 hx
      go_wp2_with fail
      go_quiet (fail)
      have HB2 : Hid (Below w.heap.size w (wr.drewN nq)) := below_drewN HW.out _
      go_wp2_with fail
      go_roundg (n - (k + 1))
      case measure => omega
      case rel => exact ⟨k + 1, by omega, rfl, by go_num, HB2.out⟩
    · have hke : k = n := by omega
      subst hke
      go_wp2_with fail
      go_ret
      exact ⟨rfl, HW.out⟩
end Go.Proofs.YtklfenojapgmnaeDoor
