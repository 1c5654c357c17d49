/-
  What lay of package reckon does: behind what there is it lays the nodes of a tree, swapped.
  What Swap and Const of package reckon answer, called in whatever memory.
  What tallylaw2.ReckonSwaps answers, called in whatever memory: true.
-/
import Derived.Test.YtklfenojapgmnaeDoorFRM
import Derived.Maps.AppendAt
namespace Go.Proofs.YtklfenojapgmnaeDoor
open Go.ChangeShapes Go.WideShapes Go.ChangeAt Go.RowKit
set_option maxRecDepth 20000

theorem kept_sub {N N' : Nat} {X Y : Nat → Prop} {w w' : World} (h : Kept N X w w') (hN : N' ≤ N) (hx : ∀ k, k < N' → X k → Y k) : Kept N' Y w w' :=
  ⟨h.os, h.tape, h.output, h.size, fun k hk hy => h.block k (by omega) fun e => hy (hx k hk e)⟩
theorem kept_grownO {w w' : World} {r : Option Nat} (h : w.grownBy w' r) : Kept w.heap.size (fun k => r = some k) w w' :=
  ⟨h.os, h.tape, h.output, h.size, fun k hk hx => h.block k hk fun e => hx e.symm⟩
theorem kept_setF {N : Nat} {X : Nat → Prop} {w : World} {p j : Nat} {v : Value} (hp : N ≤ p) : Kept N X w (w.setCell ⟨p, j, none⟩ v) :=
  ⟨rfl, rfl, rfl, by simp, fun k hk _ => setCell_off w p j k v (by omega)⟩
/-- nodes laid behind a row of one's own -/
structure Laid (w : World) (base : Nat) (v : Value) (L : List Nd) (w' : World) (v' : Value) : Prop where
  own : w'.ownsRow base 45 5 v' L.length (cellsN L)
  kept : Kept w.heap.size (fun k => v.ownBlock = some k) w w'
  at' : v'.ownBlock = v.ownBlock ∨ ∃ g, v'.ownBlock = some g ∧ w.heap.size ≤ g
/-- a node in a box -/
def Box5 (w : World) (p : Nat) (x : Nd) : Prop := w.heap[p]? = some (.cells #[.int .i64 x.op, .int .i64 x.n, .string x.name, .int .i64 x.left, .int .i64 x.right] 45 (0, 0))
section
variable {w w' : World} {p : Nat} {x : Nd}
theorem Box5.lt (h : Box5 w p x) : p < w.heap.size := (Array.getElem?_eq_some_iff.1 h).1
theorem Box5.c0 (h : Box5 w p x) : w.cell? ⟨p, 0, none⟩ = some (.int .i64 x.op) := by unfold Box5 at h; simp [World.cell?, h]
theorem Box5.c1 (h : Box5 w p x) : w.cell? ⟨p, 1, none⟩ = some (.int .i64 x.n) := by unfold Box5 at h; simp [World.cell?, h]
theorem Box5.c2 (h : Box5 w p x) : w.cell? ⟨p, 2, none⟩ = some (.string x.name) := by unfold Box5 at h; simp [World.cell?, h]
theorem Box5.c3 (h : Box5 w p x) : w.cell? ⟨p, 3, none⟩ = some (.int .i64 x.left) := by unfold Box5 at h; simp [World.cell?, h]
theorem Box5.c4 (h : Box5 w p x) : w.cell? ⟨p, 4, none⟩ = some (.int .i64 x.right) := by unfold Box5 at h; simp [World.cell?, h]
theorem Box5.fr (h : Box5 w p x) (j : Nat) : w.frozen? ⟨p, j, none⟩ = false := by unfold Box5 at h; simp [World.frozen?, h]
theorem Box5.same (h : Box5 w p x) (hb : w'.heap[p]? = w.heap[p]?) : Box5 w' p x := hb.trans h
theorem Box5.new (w : World) (x : Nd) : Box5 (w.alloc (.cells #[.int .i64 x.op, .int .i64 x.n, .string x.name, .int .i64 x.left, .int .i64 x.right] 45)) w.heap.size x := heap_alloc_new _ _
theorem Box5.set3 (h : Box5 w p x) (m : Int) : Box5 (w.setCell ⟨p, 3, none⟩ (.int .i64 m)) p ⟨x.op, x.n, x.name, m, x.right⟩ := by
  unfold Box5 at *
  rw [setCell_eq_setRow w p 3 _ _ (0, 0) _ h, setRow_heap w p _ _ _ _ h]
  rfl
theorem Box5.set4 (h : Box5 w p x) (m : Int) : Box5 (w.setCell ⟨p, 4, none⟩ (.int .i64 m)) p ⟨x.op, x.n, x.name, x.left, m⟩ := by
  unfold Box5 at *
  rw [setCell_eq_setRow w p 4 _ _ (0, 0) _ h, setRow_heap w p _ _ _ _ h]
  rfl
end
theorem news5 {w : World} {x : Nd} {n : Nat} (hn : w.heap.size = n) : ∀ j u, (cellsNd1 x)[j]? = some u → (w.alloc (.cells #[.int .i64 x.op, .int .i64 x.n, .string x.name, .int .i64 x.left, .int .i64 x.right] 45)).cell? ((⟨n, 0, none⟩ : Addr).add j) = some u := by
  subst hn
  exact World.news_of_block (cs := #[.int .i64 x.op, .int .i64 x.n, .string x.name, .int .i64 x.left, .int .i64 x.right]) (t := 45) (fr := (0, 0)) (heap_alloc_new _ _)
theorem news_top {w : World} {o : Obj} (x : Nd) : ∀ j u, (cellsNd1 x)[j]? = some u → ((w.alloc o).alloc (.cells #[.int .i64 x.op, .int .i64 x.n, .string x.name, .int .i64 x.left, .int .i64 x.right] 45)).cell? ((⟨w.heap.size + 1, 0, none⟩ : Addr).add j) = some u := World.news_of_block (cs := #[.int .i64 x.op, .int .i64 x.n, .string x.name, .int .i64 x.left, .int .i64 x.right]) (t := 45) (fr := (0, 0)) (topF1 w _ _)
theorem ones5 {x : Nd} : ∀ u ∈ cellsNd1 x, u.oneCell' = true := by intro u hu; simp [cellsNd1] at hu; rcases hu with rfl | rfl | rfl | rfl | rfl <;> rfl
theorem name_empty {s : ByteArray} (h : s.size = 0) : s = noT := by
  obtain ⟨d⟩ := s
  have : d = #[] := Array.eq_empty_of_size_eq_zero h
  subst this
  rfl
/-- what a node that is right looks like -/
theorem nd_form {x : Nd} {i : Nat} (h : ndErr x i = 0) : (x.op = 1 → x = ⟨1, x.n, noT, 0, 0⟩) ∧ (x.op = 2 → x = ⟨2, 0, x.name, 0, 0⟩ ∧ x.name.size ≤ 8) ∧ (2 < x.op → x = ⟨x.op, 0, noT, x.left, x.right⟩) := by
  obtain ⟨op, n, name, left, right⟩ := x
  unfold ndErr at h
  simp only at h ⊢
  split at h
  · cases h
  refine ⟨fun e => ?_, fun e => ?_, fun e => ?_⟩
  · subst e
    rw [if_pos rfl] at h
    split at h
    · cases h
    · split at h
      · cases h
      · rename_i h2
        have h3 : name.size = 0 := by omega
        have h4 : left = 0 := by omega
        have h5 : right = 0 := by omega
        rw [name_empty h3, h4, h5]
  · subst e
    rw [if_neg (by omega), if_pos rfl] at h
    split at h
    · cases h
    · rename_i h0
      split at h
      · cases h
      · rename_i h2
        have h3 : n = 0 := by omega
        have h4 : left = 0 := by omega
        have h5 : right = 0 := by omega
        refine ⟨by rw [h3, h4, h5], (name_first (by simpa using h0)).2.1⟩
  · rw [if_neg (by omega), if_neg (by omega)] at h
    split at h
    · cases h
    · split at h
      · cases h
      · rename_i h2
        have h3 : n = 0 := by omega
        have h4 : name.size = 0 := by omega
        rw [name_empty h4, h3]
/-- behind an append of one node -/
theorem laid_one {w W w' : World} {base : Nat} {v v' : Value} {O : List Nd} {x : Nd} (hb : Below w.heap.size w W) (hown : w'.ownsRow base 45 5 v' (O.length + 1) (cellsN O ++ cellsNd1 x)) (hg : W.grownBy w' v.ownBlock) (hat : v'.ownBlock = v.ownBlock ∨ ∃ g, v'.ownBlock = some g ∧ w.heap.size ≤ g) : Laid w base v (O ++ [x]) w' v' := by
  refine ⟨by rw [cellsN_snoc, List.length_append]; exact hown, ?_, hat⟩
  have k1 : Kept w.heap.size (fun k => v.ownBlock = some k) w W := kept_below hb (Nat.le_refl _)
  exact k1.trans (kept_sub (kept_grownO hg) hb.size (fun k _ e => e))

theorem at_low {S k : Nat} {r r1 : Option Nat} (h : r1 = r ∨ ∃ g, r1 = some g ∧ S ≤ g) (hk : k < S) (e : r1 = some k) : r = some k := by
  rcases h with h | ⟨g, h, hg⟩
  · rw [← h]; exact e
  · rw [h] at e; cases e; omega
theorem laid_join {w W w1 V w2 V2 w3 : World} {base : Nat} {v v1 v2 v3 y1 y2 : Value} {L1 L2 : List Nd} {x : Nd} {ob : Obj} (hW : Below w.heap.size w W) (h1 : Laid W base v L1 w1 v1) (hV : V = w1.setCell ⟨w.heap.size, 3, none⟩ y1) (h2 : Laid V base v1 L2 w2 v2) (hV2 : V2 = (w2.setCell ⟨w.heap.size, 4, none⟩ y2).alloc ob)
    (hown : w3.ownsRow base 45 5 v3 (L2.length + 1) (cellsN L2 ++ cellsNd1 x)) (hg : V2.grownBy w3 v2.ownBlock) (hat : v3.ownBlock = v2.ownBlock ∨ ∃ g, v3.ownBlock = some g ∧ w.heap.size ≤ g) : Laid w base v (L2 ++ [x]) w3 v3 := by
  have s1 := h1.kept.size
  have s2 := h2.kept.size
  have sV : V.heap.size = w1.heap.size := by rw [hV]; simp
  have sW := hW.size
  have sV2 : V2.heap.size = w2.heap.size + 1 := by rw [hV2]; simp
  have low1 : ∀ k, k < w.heap.size → v1.ownBlock = some k → v.ownBlock = some k := fun k hk e => at_low h1.at' (by omega) e
  have low2 : ∀ k, k < w.heap.size → v2.ownBlock = some k → v.ownBlock = some k := fun k hk e => low1 k hk (at_low h2.at' (by omega) e)
  refine ⟨by rw [cellsN_snoc, List.length_append]; exact hown, ?_, ?_⟩
  · have k1 : Kept w.heap.size (fun k => v.ownBlock = some k) w W := kept_below hW (Nat.le_refl _)
    have k2 : Kept w.heap.size (fun k => v.ownBlock = some k) W w1 := kept_sub h1.kept sW (fun k _ e => e)
    have k3 : Kept w.heap.size (fun k => v.ownBlock = some k) w1 V := by rw [hV]; exact kept_setF (Nat.le_refl _)
    have k4 : Kept w.heap.size (fun k => v.ownBlock = some k) V w2 := kept_sub h2.kept (by omega) low1
    have k5 : Kept w.heap.size (fun k => v.ownBlock = some k) w2 V2 := by
      rw [hV2]
      exact (kept_setF (Nat.le_refl _)).trans (kept_below ((Below.refl _ _).alloc (Nat.le_refl _) _) (by simp; omega))
    have k6 : Kept w.heap.size (fun k => v.ownBlock = some k) V2 w3 := kept_sub (kept_grownO hg) (by omega) low2
    exact ((((k1.trans k2).trans k3).trans k4).trans k5).trans k6
  · have a1 : v1.ownBlock = v.ownBlock ∨ ∃ g, v1.ownBlock = some g ∧ w.heap.size ≤ g := h1.at'.imp id fun ⟨g, e, h⟩ => ⟨g, e, by omega⟩
    have a2 : v2.ownBlock = v1.ownBlock ∨ ∃ g, v2.ownBlock = some g ∧ w.heap.size ≤ g := h2.at'.imp id fun ⟨g, e, h⟩ => ⟨g, e, by omega⟩
    have j : ∀ {r r1 r2 : Option Nat}, (r1 = r ∨ ∃ g, r1 = some g ∧ w.heap.size ≤ g) → (r2 = r1 ∨ ∃ g, r2 = some g ∧ w.heap.size ≤ g) → (r2 = r ∨ ∃ g, r2 = some g ∧ w.heap.size ≤ g) := fun h h' => by
      rcases h' with e | h'
      · rw [e]; exact h
      · exact Or.inr h'
    exact j (j a1 a2) hat
theorem nds_same {w w' : World} {b o : Nat} {l : List Nd} (h : NdsAt w b o l) (hs : w.heap.size ≤ w'.heap.size) (hb : w'.heap[b]? = w.heap[b]?) : NdsAt w' b o l := by
  refine ⟨Nat.lt_of_lt_of_le h.1 hs, fun k hk => ?_⟩
  have e : ∀ j, w'.cell? ⟨b, j, none⟩ = w.cell? ⟨b, j, none⟩ := fun j => by simp [World.cell?, hb]
  rw [e, e, e, e, e]
  exact h.2 k hk

set_option maxHeartbeats 4000000 in
theorem lay_any (b o cap : Nat) (l : List Nd) (hl : RightL l) (h30 : l.length ≤ 30) : ∀ i, i < l.length → ∀ (base : Nat) (v : Value) (O : List Nd) (w : World), O.length + sizT (treeOf l i) ≤ 60 → b < base → base ≤ w.heap.size → NdsAt w b o l → w.ownsRow base 45 5 v O.length (cellsN O) →
    Calls Tryd.prog 28 #[v, .slice (some ⟨b, o, none⟩) l.length cap, .int .i64 i] w fun e w' => ∃ v', e = .returned v' ∧ Laid w base v (O ++ post (swapT (treeOf l i)) O.length) w' v' := by
  obtain ⟨i1, hj0, hj1, hj2, hj3⟩ := info_parts Tryd.infoNdF
  intro i
  induction i using Nat.strongRecOn with
  | _ i ih =>
    intro hi base v O w hO hbb hbw hN hown
    have HI : Hid (∀ m, m < i → m < l.length → ∀ (base : Nat) (v : Value) (O : List Nd) (w : World), O.length + sizT (treeOf l m) ≤ 60 → b < base → base ≤ w.heap.size → NdsAt w b o l → w.ownsRow base 45 5 v O.length (cellsN O) →
      Calls Tryd.prog 28 #[v, .slice (some ⟨b, o, none⟩) l.length cap, .int .i64 m] w fun e w' => ∃ v', e = .returned v' ∧ Laid w base v (O ++ post (swapT (treeOf l m)) O.length) w' v') := ih
    clear ih
    have hg := hl i hi
    have ho := op_range hg
    obtain ⟨x0, x1, x2, x3, x4⟩ := hN.nd (k := i) hi
    obtain ⟨x, hx⟩ : ∃ x, l.getD i noN = x := ⟨_, rfl⟩
    rw [hx] at x0 x1 x2 x3 x4 hg ho
    have HX : Hid (l.getD i noN = x) := hx
    obtain ⟨f1, f2, f3⟩ := nd_form hg
    have hii : (i : Int) < (l.length : Int) := by omega
    have hli : (l.length : Int) ≤ 30 := by omega
    have hbl : b < w.heap.size := hN.1
    have hOl : O.length ≤ 60 := by omega
    obtain ⟨op, nn, name, left, right⟩ := x
    simp only at x0 x1 x2 x3 x4 ho f1 f2 f3
    by_cases h1 : op = 1
    · subst h1
      have hP : swapT (treeOf l i) = .num nn := by rw [tree_num (by rw [hx]), hx]; rfl
      have hP2 : ∀ k, post (swapT (treeOf l i)) k = [⟨1, nn, name, left, right⟩] := fun k => by rw [hP, f1 rfl]; rfl
      rw [hP2]
      clear hx f1 f2 f3 hP hP2 hg ho
      obtain ⟨A, cO, rfl⟩ := own_form hown
      have HOw : Hid (∀ w', Below w.heap.size w w' → w'.ownsRow base 45 5 (.slice A O.length cO) O.length (cellsN O)) := fun w' hb => own_later hown hb
      clear hown
      go_enter Tryd.func28, Tryd.ntmps28
      go_wp2_with (at_builtin; refine wpList_append_own_at _ rfl _ _ 22 rfl base 45 i1 _ 5 48 Tryd.underlying22 hj0 hj1 hj2 hj3 rfl (by decide) _ O.length (cellsN O) rfl (HOw.out _ (by go_grown)) ⟨w.heap.size + 1, 0, none⟩ 1 1 (cellsNd1 ⟨1, nn, name, left, right⟩) rfl rfl ?qc1 ones5 ?qc2 ?qc3 ?qc4 ?_)
      case qc1 => exact news_top ⟨1, nn, name, left, right⟩
      case qc2 => unfold maxLen; omega
      case qc3 => omega
      case qc4 => simp; omega
      intro v' w2 hown' hgrow _ hat
      have HR := hid_of (laid_one (w := w) (O := O) (x := ⟨1, nn, name, left, right⟩) (by go_grown) hown' hgrow (hat.imp id fun e => ⟨_, e, by omega⟩))
      clear hown' hgrow hat
      go_wp2_with fail
      go_ret
      exact ⟨_, rfl, HR.out⟩
    by_cases h2 : op = 2
    · subst h2
      have hP : swapT (treeOf l i) = .ref name := by rw [tree_ref (by rw [hx]), hx]; rfl
      have hP2 : ∀ k, post (swapT (treeOf l i)) k = [⟨2, nn, name, left, right⟩] := fun k => by rw [hP, (f2 rfl).1]; rfl
      have hnm := (f2 rfl).2
      rw [hP2]
      have hcl := fun w => sclone_any name w (by omega)
      clear hx f1 f2 f3 hP hP2 hg ho
      obtain ⟨A, cO, rfl⟩ := own_form hown
      have HOw : Hid (∀ w', Below w.heap.size w w' → w'.ownsRow base 45 5 (.slice A O.length cO) O.length (cellsN O)) := fun w' hb => own_later hown hb
      clear hown
      go_enter Tryd.func28, Tryd.ntmps28
      go_wp2_with fail
      refine (hcl _).mono ?_
      rintro e w1 ⟨rfl, hb⟩
      have hbx : Box5 w1 w.heap.size ⟨2, nn, name, left, right⟩ := (Box5.new w ⟨2, nn, name, left, right⟩).same (hb.block _ (by simp))
      have hb1 : Below w.heap.size w w1 := onB (by go_grown) hb
      have HB1 : Hid (Below w.heap.size w w1) := hb1
      have c0 := hbx.c0
      have c1 := hbx.c1
      have c2 := hbx.c2
      have c3 := hbx.c3
      have c4 := hbx.c4
      have g2 := hbx.fr 2
      have hz := hbx.lt
      simp only at c0 c1 c2 c3 c4
      clear hb hb1 hcl hbx
      go_wp2_with (at_builtin; refine wpList_append_own_at _ rfl _ _ 22 rfl base 45 i1 _ 5 48 Tryd.underlying22 hj0 hj1 hj2 hj3 rfl (by decide) _ O.length (cellsN O) rfl (HOw.out _ ?qc0) ⟨w1.heap.size, 0, none⟩ 1 1 (cellsNd1 ⟨2, nn, name, left, right⟩) rfl rfl ?qc1 ones5 ?qc2 ?qc3 ?qc4 ?_)
      case qc0 => exact (HB1.out.setCell (Nat.le_refl _) _).alloc (by simpa using HB1.out.size) _
      case qc1 => exact news5 (w := w1.setCell ⟨w.heap.size, 2, none⟩ (.string name)) (x := ⟨2, nn, name, left, right⟩) (by simp)
      case qc2 => unfold maxLen; omega
      case qc3 => omega
      case qc4 => have := HB1.out.size; simp; omega
      intro v' w2 hown' hgrow _ hat
      have HR := hid_of (laid_one (w := w) (O := O) (x := ⟨2, nn, name, left, right⟩) ((HB1.out.setCell (Nat.le_refl _) _).alloc (by simpa using HB1.out.size) _) hown' hgrow (hat.imp id fun e => ⟨_, e, by have := HB1.out.size; simp; omega⟩))
      clear hown' hgrow hat
      go_wp2_with fail
      go_ret
      exact ⟨_, rfl, HR.out⟩
    obtain ⟨a1, a2, a3, a4⟩ := nd_sides hg (show 2 < op by omega)
    simp only at a1 a2 a3 a4
    obtain ⟨a, ha⟩ : ∃ a : Nat, left = a := ⟨left.toNat, by omega⟩
    obtain ⟨c, hc⟩ : ∃ c : Nat, right = c := ⟨right.toNat, by omega⟩
    subst ha hc
    have hnn : nn = 0 ∧ name = noT := by have := f3 (by omega); injection this with _ e1 e2; exact ⟨e1, e2⟩
    obtain ⟨rfl, rfl⟩ := hnn
    have hT : treeOf l i = .bin op (treeOf l a) (treeOf l c) := by
      have := tree_bin hl hi (by rw [hx]; show 2 < op; omega)
      rw [hx] at this
      simpa using this
    have hsz : sizT (treeOf l i) = sizT (treeOf l a) + sizT (treeOf l c) + 1 := by rw [hT]; rfl
    have hvb : v.ownBlock ≠ some w.heap.size := fun e => by have := (own_block hown e).2.1; omega
    have hvB : v.ownBlock ≠ some b := fun e => by have := (own_block hown e).1; omega
    have HN : Hid (NdsAt w b o l) := hN
    have HOw : Hid (w.ownsRow base 45 5 v O.length (cellsN O)) := hown
    have HT : Hid (treeOf l i = .bin op (treeOf l a) (treeOf l c)) := hT
    have HSz : Hid (sizT (treeOf l i) = sizT (treeOf l a) + sizT (treeOf l c) + 1) := hsz
    have HO : Hid (O.length + sizT (treeOf l i) ≤ 60) := hO
    have Hvb : Hid (v.ownBlock ≠ some w.heap.size) := hvb
    have HvB : Hid (v.ownBlock ≠ some b) := hvB
    have hovc : op = 3 ∨ op = 4 ∨ op = 5 ∨ op = 6 := by omega
    clear hx f1 f2 f3 hg ho h1 h2 hT hsz hN hown hO hvb hvB HX
    rcases hovc with rfl | rfl | rfl | rfl
    · have HS : Hid (swapT (treeOf l i) = .bin 3 (swapT (treeOf l c)) (swapT (treeOf l a))) := by show _ = _; rw [HT.out, swap_on (by omega)]
      go_enter Tryd.func28, Tryd.ntmps28
      go_wp2_with fail
      refine (HI.out c (by omega) (by omega) base v O _ (by have := HSz.out; have := HO.out; omega) hbb (by simp; omega) (HN.out.later (by go_grown)) (own_later HOw.out (by go_grown))).mono ?_
      rintro e w1 ⟨v1, rfl, hL1⟩
      have hbx : Box5 w1 w.heap.size ⟨3, 0, noT, (c : Int), (a : Int)⟩ := (Box5.new w ⟨3, 0, noT, (c : Int), (a : Int)⟩).same (hL1.kept.block _ (by simp) Hvb.out)
      have hm1 : (O ++ post (swapT (treeOf l c)) O.length).length = O.length + sizT (treeOf l c) := by rw [List.length_append, post_len, swap_siz]
      have hN1 : NdsAt w1 b o l := nds_same (HN.out.later (w' := w.alloc _) (by go_grown)) hL1.kept.size (hL1.kept.block b (by simp; omega) HvB.out)
      have h11 : v1.ownBlock ≠ some w.heap.size := fun e => by
        rcases hL1.at' with h | ⟨g, h, hg⟩
        · exact Hvb.out (by rw [← h]; exact e)
        · rw [h] at e; cases e; simp at hg; omega
      have h1B : v1.ownBlock ≠ some b := fun e => by have := (own_block hL1.own e).1; omega
      have hs1 := hL1.kept.size
      simp at hs1
      obtain ⟨A1, cc1, hv1⟩ := own_form hL1.own
      rw [hm1] at hv1
      have hp1 := siz_pos (treeOf l c)
      obtain ⟨m1, hmm1⟩ : ∃ m1, O.length + sizT (treeOf l c) = m1 := ⟨_, rfl⟩
      rw [hmm1] at hv1
      have hm1i : (m1 : Int) ≤ 60 := by have := HSz.out; have := HO.out; omega
      have hm1p : 1 ≤ (m1 : Int) := by omega
      subst hv1
      have c3 := hbx.c3
      have c4 := hbx.c4
      have g3 := hbx.fr 3
      simp only at c3 c4
      have HBx : Hid (Box5 w1 w.heap.size ⟨3, 0, noT, (c : Int), (a : Int)⟩) := hbx
      have HL1 := hid_of hL1
      have HN1 : Hid (NdsAt w1 b o l) := hN1
      have Hm1 := hid_of hm1
      have Hmm := hid_of hmm1
      have H11 : Hid ((Value.slice A1 m1 cc1).ownBlock ≠ some w.heap.size) := h11
      have H1B : Hid ((Value.slice A1 m1 cc1).ownBlock ≠ some b) := h1B
      clear hbx hL1 hN1 hm1 hmm1 h11 h1B
      go_wp2_with fail
      have hkeep : ∀ g, (Value.slice A1 m1 cc1).ownBlock = some g → (w1.setCell ⟨w.heap.size, 3, none⟩ (.int .i64 ((m1 : Int) - 1))).heap[g]? = w1.heap[g]? := fun g hg => setCell_off _ _ _ _ _ (fun e => H11.out (by rw [hg, e]))
      refine (HI.out a (by omega) (by omega) base (.slice A1 m1 cc1) (O ++ post (swapT (treeOf l c)) O.length) _ (by rw [Hm1.out]; have := HSz.out; have := HO.out; omega) hbb (by simp; omega) (nds_same HN1.out (by simp) (setCell_off _ _ _ _ _ (by omega))) (own_keep HL1.out.own hkeep)).mono ?_
      rintro e w2 ⟨v2, rfl, hL2⟩
      have hbx2 : Box5 w2 w.heap.size ⟨3, 0, noT, (m1 : Int) - 1, (a : Int)⟩ := (HBx.out.set3 ((m1 : Int) - 1)).same (hL2.kept.block _ (by simp; omega) H11.out)
      have hm2 : (O ++ post (swapT (treeOf l c)) O.length ++ post (swapT (treeOf l a)) (O ++ post (swapT (treeOf l c)) O.length).length).length = m1 + sizT (treeOf l a) := by rw [List.length_append, Hm1.out, post_len, swap_siz, Hmm.out]
      obtain ⟨L2, hL2e⟩ : ∃ L2, O ++ post (swapT (treeOf l c)) O.length ++ post (swapT (treeOf l a)) (O ++ post (swapT (treeOf l c)) O.length).length = L2 := ⟨_, rfl⟩
      rw [hL2e] at hL2 hm2
      have HL2e := hid_of hL2e
      clear hL2e
      have h22 : v2.ownBlock ≠ some w.heap.size := fun e => by
        rcases hL2.at' with h | ⟨g, h, hg⟩
        · exact H11.out (by rw [← h]; exact e)
        · rw [h] at e; cases e; simp at hg; omega
      have hs2 := hL2.kept.size
      simp at hs2
      obtain ⟨A2, cc2, hv2⟩ := own_form hL2.own
      rw [hm2] at hv2
      have hp2 := siz_pos (treeOf l a)
      obtain ⟨m2, hmm2⟩ : ∃ m2, m1 + sizT (treeOf l a) = m2 := ⟨_, rfl⟩
      rw [hmm2] at hv2 hm2
      have hm2i : (m2 : Int) ≤ 60 := by have := HSz.out; have := HO.out; have := Hmm.out; omega
      have hm2p : 1 ≤ (m2 : Int) := by omega
      subst hv2
      have d0 := hbx2.c0
      have d1 := hbx2.c1
      have d2 := hbx2.c2
      have d3 := hbx2.c3
      have d4 := hbx2.c4
      have g4 := hbx2.fr 4
      simp only at d0 d1 d2 d3 d4
      have HL2 := hid_of hL2
      have Hm2 := hid_of hm2
      have Hmm2 := hid_of hmm2
      have hkeep2 : ∀ g, (Value.slice A2 m2 cc2).ownBlock = some g → (w2.setCell ⟨w.heap.size, 4, none⟩ (.int .i64 ((m2 : Int) - 1))).heap[g]? = w2.heap[g]? := fun g hg => setCell_off _ _ _ _ _ (fun e => h22 (by rw [hg, e]))
      have HO2 : Hid ((w2.setCell ⟨w.heap.size, 4, none⟩ (.int .i64 ((m2 : Int) - 1))).ownsRow base 45 5 (.slice A2 m2 cc2) m2 (cellsN L2)) := by
        have h := own_keep hL2.own hkeep2
        rw [hm2] at h
        exact h
      clear hbx2 hL2 hm2 hmm2 h22 hkeep hkeep2
      go_wp2_with (at_builtin; refine wpList_append_own_at _ rfl _ _ 22 rfl base 45 i1 _ 5 48 Tryd.underlying22 hj0 hj1 hj2 hj3 rfl (by decide) _ m2 _ rfl (own_later HO2.out ?qc0) ⟨w2.heap.size, 0, none⟩ 1 1 (cellsNd1 ⟨3, 0, noT, (m1 : Int) - 1, (m2 : Int) - 1⟩) rfl rfl ?qc1 ones5 ?qc2 ?qc3 ?qc4 ?_)
      case qc0 => exact (Below.refl _ _).alloc (Nat.le_refl _) _
      case qc1 => exact news5 (w := w2.setCell ⟨w.heap.size, 4, none⟩ (.int .i64 ((m2 : Int) - 1))) (x := ⟨3, 0, noT, (m1 : Int) - 1, (m2 : Int) - 1⟩) (by simp)
      case qc2 => unfold maxLen; omega
      case qc3 => omega
      case qc4 => simp; omega
      intro v3 w3 hown3 hgrow _ hat
      have HR := hid_of (laid_join (w := w) (W := w.alloc (.cells #[.int .i64 3, .int .i64 0, .string noT, .int .i64 (c : Int), .int .i64 (a : Int)] 45)) (x := ⟨3, 0, noT, (m1 : Int) - 1, (m2 : Int) - 1⟩) (by go_grown) HL1.out rfl HL2.out rfl (by rw [Hm2.out]; exact hown3) hgrow (hat.imp id fun e => ⟨_, e, by first | omega | (simp; omega)⟩))
      clear hown3 hgrow hat
      go_wp2_with fail
      go_ret
      refine ⟨_, rfl, ?_⟩
      have hR := HR.out
      have e1 : O ++ post (swapT (treeOf l i)) O.length = L2 ++ [⟨3, 0, noT, (m1 : Int) - 1, (m2 : Int) - 1⟩] := by
        rw [← HL2e.out, HS.out, post, Hm1.out, swap_siz, swap_siz, Hmm.out, Hmm2.out]
        have q1 : ((m1 - 1 : Nat) : Int) = (m1 : Int) - 1 := by omega
        have q2 : ((m2 - 1 : Nat) : Int) = (m2 : Int) - 1 := by omega
        rw [q1, q2]
        simp only [List.append_assoc]
      rw [e1]
      exact hR
    · have HS : Hid (swapT (treeOf l i) = .bin 4 (swapT (treeOf l a)) (swapT (treeOf l c))) := by show _ = _; rw [HT.out, swap_off (by omega)]
      go_enter Tryd.func28, Tryd.ntmps28
      go_wp2_with fail
      refine (HI.out a (by omega) (by omega) base v O _ (by have := HSz.out; have := HO.out; omega) hbb (by simp; omega) (HN.out.later (by go_grown)) (own_later HOw.out (by go_grown))).mono ?_
      rintro e w1 ⟨v1, rfl, hL1⟩
      have hbx : Box5 w1 w.heap.size ⟨4, 0, noT, (a : Int), (c : Int)⟩ := (Box5.new w ⟨4, 0, noT, (a : Int), (c : Int)⟩).same (hL1.kept.block _ (by simp) Hvb.out)
      have hm1 : (O ++ post (swapT (treeOf l a)) O.length).length = O.length + sizT (treeOf l a) := by rw [List.length_append, post_len, swap_siz]
      have hN1 : NdsAt w1 b o l := nds_same (HN.out.later (w' := w.alloc _) (by go_grown)) hL1.kept.size (hL1.kept.block b (by simp; omega) HvB.out)
      have h11 : v1.ownBlock ≠ some w.heap.size := fun e => by
        rcases hL1.at' with h | ⟨g, h, hg⟩
        · exact Hvb.out (by rw [← h]; exact e)
        · rw [h] at e; cases e; simp at hg; omega
      have h1B : v1.ownBlock ≠ some b := fun e => by have := (own_block hL1.own e).1; omega
      have hs1 := hL1.kept.size
      simp at hs1
      obtain ⟨A1, cc1, hv1⟩ := own_form hL1.own
      rw [hm1] at hv1
      have hp1 := siz_pos (treeOf l a)
      obtain ⟨m1, hmm1⟩ : ∃ m1, O.length + sizT (treeOf l a) = m1 := ⟨_, rfl⟩
      rw [hmm1] at hv1
      have hm1i : (m1 : Int) ≤ 60 := by have := HSz.out; have := HO.out; omega
      have hm1p : 1 ≤ (m1 : Int) := by omega
      subst hv1
      have c3 := hbx.c3
      have c4 := hbx.c4
      have g3 := hbx.fr 3
      simp only at c3 c4
      have HBx : Hid (Box5 w1 w.heap.size ⟨4, 0, noT, (a : Int), (c : Int)⟩) := hbx
      have HL1 := hid_of hL1
      have HN1 : Hid (NdsAt w1 b o l) := hN1
      have Hm1 := hid_of hm1
      have Hmm := hid_of hmm1
      have H11 : Hid ((Value.slice A1 m1 cc1).ownBlock ≠ some w.heap.size) := h11
      have H1B : Hid ((Value.slice A1 m1 cc1).ownBlock ≠ some b) := h1B
      clear hbx hL1 hN1 hm1 hmm1 h11 h1B
      go_wp2_with fail
      have hkeep : ∀ g, (Value.slice A1 m1 cc1).ownBlock = some g → (w1.setCell ⟨w.heap.size, 3, none⟩ (.int .i64 ((m1 : Int) - 1))).heap[g]? = w1.heap[g]? := fun g hg => setCell_off _ _ _ _ _ (fun e => H11.out (by rw [hg, e]))
      refine (HI.out c (by omega) (by omega) base (.slice A1 m1 cc1) (O ++ post (swapT (treeOf l a)) O.length) _ (by rw [Hm1.out]; have := HSz.out; have := HO.out; omega) hbb (by simp; omega) (nds_same HN1.out (by simp) (setCell_off _ _ _ _ _ (by omega))) (own_keep HL1.out.own hkeep)).mono ?_
      rintro e w2 ⟨v2, rfl, hL2⟩
      have hbx2 : Box5 w2 w.heap.size ⟨4, 0, noT, (m1 : Int) - 1, (c : Int)⟩ := (HBx.out.set3 ((m1 : Int) - 1)).same (hL2.kept.block _ (by simp; omega) H11.out)
      have hm2 : (O ++ post (swapT (treeOf l a)) O.length ++ post (swapT (treeOf l c)) (O ++ post (swapT (treeOf l a)) O.length).length).length = m1 + sizT (treeOf l c) := by rw [List.length_append, Hm1.out, post_len, swap_siz, Hmm.out]
      obtain ⟨L2, hL2e⟩ : ∃ L2, O ++ post (swapT (treeOf l a)) O.length ++ post (swapT (treeOf l c)) (O ++ post (swapT (treeOf l a)) O.length).length = L2 := ⟨_, rfl⟩
      rw [hL2e] at hL2 hm2
      have HL2e := hid_of hL2e
      clear hL2e
      have h22 : v2.ownBlock ≠ some w.heap.size := fun e => by
        rcases hL2.at' with h | ⟨g, h, hg⟩
        · exact H11.out (by rw [← h]; exact e)
        · rw [h] at e; cases e; simp at hg; omega
      have hs2 := hL2.kept.size
      simp at hs2
      obtain ⟨A2, cc2, hv2⟩ := own_form hL2.own
      rw [hm2] at hv2
      have hp2 := siz_pos (treeOf l c)
      obtain ⟨m2, hmm2⟩ : ∃ m2, m1 + sizT (treeOf l c) = m2 := ⟨_, rfl⟩
      rw [hmm2] at hv2 hm2
      have hm2i : (m2 : Int) ≤ 60 := by have := HSz.out; have := HO.out; have := Hmm.out; omega
      have hm2p : 1 ≤ (m2 : Int) := by omega
      subst hv2
      have d0 := hbx2.c0
      have d1 := hbx2.c1
      have d2 := hbx2.c2
      have d3 := hbx2.c3
      have d4 := hbx2.c4
      have g4 := hbx2.fr 4
      simp only at d0 d1 d2 d3 d4
      have HL2 := hid_of hL2
      have Hm2 := hid_of hm2
      have Hmm2 := hid_of hmm2
      have hkeep2 : ∀ g, (Value.slice A2 m2 cc2).ownBlock = some g → (w2.setCell ⟨w.heap.size, 4, none⟩ (.int .i64 ((m2 : Int) - 1))).heap[g]? = w2.heap[g]? := fun g hg => setCell_off _ _ _ _ _ (fun e => h22 (by rw [hg, e]))
      have HO2 : Hid ((w2.setCell ⟨w.heap.size, 4, none⟩ (.int .i64 ((m2 : Int) - 1))).ownsRow base 45 5 (.slice A2 m2 cc2) m2 (cellsN L2)) := by
        have h := own_keep hL2.own hkeep2
        rw [hm2] at h
        exact h
      clear hbx2 hL2 hm2 hmm2 h22 hkeep hkeep2
      go_wp2_with (at_builtin; refine wpList_append_own_at _ rfl _ _ 22 rfl base 45 i1 _ 5 48 Tryd.underlying22 hj0 hj1 hj2 hj3 rfl (by decide) _ m2 _ rfl (own_later HO2.out ?qc0) ⟨w2.heap.size, 0, none⟩ 1 1 (cellsNd1 ⟨4, 0, noT, (m1 : Int) - 1, (m2 : Int) - 1⟩) rfl rfl ?qc1 ones5 ?qc2 ?qc3 ?qc4 ?_)
      case qc0 => exact (Below.refl _ _).alloc (Nat.le_refl _) _
      case qc1 => exact news5 (w := w2.setCell ⟨w.heap.size, 4, none⟩ (.int .i64 ((m2 : Int) - 1))) (x := ⟨4, 0, noT, (m1 : Int) - 1, (m2 : Int) - 1⟩) (by simp)
      case qc2 => unfold maxLen; omega
      case qc3 => omega
      case qc4 => simp; omega
      intro v3 w3 hown3 hgrow _ hat
      have HR := hid_of (laid_join (w := w) (W := w.alloc (.cells #[.int .i64 4, .int .i64 0, .string noT, .int .i64 (a : Int), .int .i64 (c : Int)] 45)) (x := ⟨4, 0, noT, (m1 : Int) - 1, (m2 : Int) - 1⟩) (by go_grown) HL1.out rfl HL2.out rfl (by rw [Hm2.out]; exact hown3) hgrow (hat.imp id fun e => ⟨_, e, by first | omega | (simp; omega)⟩))
      clear hown3 hgrow hat
      go_wp2_with fail
      go_ret
      refine ⟨_, rfl, ?_⟩
      have hR := HR.out
      have e1 : O ++ post (swapT (treeOf l i)) O.length = L2 ++ [⟨4, 0, noT, (m1 : Int) - 1, (m2 : Int) - 1⟩] := by
        rw [← HL2e.out, HS.out, post, Hm1.out, swap_siz, swap_siz, Hmm.out, Hmm2.out]
        have q1 : ((m1 - 1 : Nat) : Int) = (m1 : Int) - 1 := by omega
        have q2 : ((m2 - 1 : Nat) : Int) = (m2 : Int) - 1 := by omega
        rw [q1, q2]
        simp only [List.append_assoc]
      rw [e1]
      exact hR
    · have HS : Hid (swapT (treeOf l i) = .bin 5 (swapT (treeOf l c)) (swapT (treeOf l a))) := by show _ = _; rw [HT.out, swap_on (by omega)]
      go_enter Tryd.func28, Tryd.ntmps28
      go_wp2_with fail
      refine (HI.out c (by omega) (by omega) base v O _ (by have := HSz.out; have := HO.out; omega) hbb (by simp; omega) (HN.out.later (by go_grown)) (own_later HOw.out (by go_grown))).mono ?_
      rintro e w1 ⟨v1, rfl, hL1⟩
      have hbx : Box5 w1 w.heap.size ⟨5, 0, noT, (c : Int), (a : Int)⟩ := (Box5.new w ⟨5, 0, noT, (c : Int), (a : Int)⟩).same (hL1.kept.block _ (by simp) Hvb.out)
      have hm1 : (O ++ post (swapT (treeOf l c)) O.length).length = O.length + sizT (treeOf l c) := by rw [List.length_append, post_len, swap_siz]
      have hN1 : NdsAt w1 b o l := nds_same (HN.out.later (w' := w.alloc _) (by go_grown)) hL1.kept.size (hL1.kept.block b (by simp; omega) HvB.out)
      have h11 : v1.ownBlock ≠ some w.heap.size := fun e => by
        rcases hL1.at' with h | ⟨g, h, hg⟩
        · exact Hvb.out (by rw [← h]; exact e)
        · rw [h] at e; cases e; simp at hg; omega
      have h1B : v1.ownBlock ≠ some b := fun e => by have := (own_block hL1.own e).1; omega
      have hs1 := hL1.kept.size
      simp at hs1
      obtain ⟨A1, cc1, hv1⟩ := own_form hL1.own
      rw [hm1] at hv1
      have hp1 := siz_pos (treeOf l c)
      obtain ⟨m1, hmm1⟩ : ∃ m1, O.length + sizT (treeOf l c) = m1 := ⟨_, rfl⟩
      rw [hmm1] at hv1
      have hm1i : (m1 : Int) ≤ 60 := by have := HSz.out; have := HO.out; omega
      have hm1p : 1 ≤ (m1 : Int) := by omega
      subst hv1
      have c3 := hbx.c3
      have c4 := hbx.c4
      have g3 := hbx.fr 3
      simp only at c3 c4
      have HBx : Hid (Box5 w1 w.heap.size ⟨5, 0, noT, (c : Int), (a : Int)⟩) := hbx
      have HL1 := hid_of hL1
      have HN1 : Hid (NdsAt w1 b o l) := hN1
      have Hm1 := hid_of hm1
      have Hmm := hid_of hmm1
      have H11 : Hid ((Value.slice A1 m1 cc1).ownBlock ≠ some w.heap.size) := h11
      have H1B : Hid ((Value.slice A1 m1 cc1).ownBlock ≠ some b) := h1B
      clear hbx hL1 hN1 hm1 hmm1 h11 h1B
      go_wp2_with fail
      have hkeep : ∀ g, (Value.slice A1 m1 cc1).ownBlock = some g → (w1.setCell ⟨w.heap.size, 3, none⟩ (.int .i64 ((m1 : Int) - 1))).heap[g]? = w1.heap[g]? := fun g hg => setCell_off _ _ _ _ _ (fun e => H11.out (by rw [hg, e]))
      refine (HI.out a (by omega) (by omega) base (.slice A1 m1 cc1) (O ++ post (swapT (treeOf l c)) O.length) _ (by rw [Hm1.out]; have := HSz.out; have := HO.out; omega) hbb (by simp; omega) (nds_same HN1.out (by simp) (setCell_off _ _ _ _ _ (by omega))) (own_keep HL1.out.own hkeep)).mono ?_
      rintro e w2 ⟨v2, rfl, hL2⟩
      have hbx2 : Box5 w2 w.heap.size ⟨5, 0, noT, (m1 : Int) - 1, (a : Int)⟩ := (HBx.out.set3 ((m1 : Int) - 1)).same (hL2.kept.block _ (by simp; omega) H11.out)
      have hm2 : (O ++ post (swapT (treeOf l c)) O.length ++ post (swapT (treeOf l a)) (O ++ post (swapT (treeOf l c)) O.length).length).length = m1 + sizT (treeOf l a) := by rw [List.length_append, Hm1.out, post_len, swap_siz, Hmm.out]
      obtain ⟨L2, hL2e⟩ : ∃ L2, O ++ post (swapT (treeOf l c)) O.length ++ post (swapT (treeOf l a)) (O ++ post (swapT (treeOf l c)) O.length).length = L2 := ⟨_, rfl⟩
      rw [hL2e] at hL2 hm2
      have HL2e := hid_of hL2e
      clear hL2e
      have h22 : v2.ownBlock ≠ some w.heap.size := fun e => by
        rcases hL2.at' with h | ⟨g, h, hg⟩
        · exact H11.out (by rw [← h]; exact e)
        · rw [h] at e; cases e; simp at hg; omega
      have hs2 := hL2.kept.size
      simp at hs2
      obtain ⟨A2, cc2, hv2⟩ := own_form hL2.own
      rw [hm2] at hv2
      have hp2 := siz_pos (treeOf l a)
      obtain ⟨m2, hmm2⟩ : ∃ m2, m1 + sizT (treeOf l a) = m2 := ⟨_, rfl⟩
      rw [hmm2] at hv2 hm2
      have hm2i : (m2 : Int) ≤ 60 := by have := HSz.out; have := HO.out; have := Hmm.out; omega
      have hm2p : 1 ≤ (m2 : Int) := by omega
      subst hv2
      have d0 := hbx2.c0
      have d1 := hbx2.c1
      have d2 := hbx2.c2
      have d3 := hbx2.c3
      have d4 := hbx2.c4
      have g4 := hbx2.fr 4
      simp only at d0 d1 d2 d3 d4
      have HL2 := hid_of hL2
      have Hm2 := hid_of hm2
      have Hmm2 := hid_of hmm2
      have hkeep2 : ∀ g, (Value.slice A2 m2 cc2).ownBlock = some g → (w2.setCell ⟨w.heap.size, 4, none⟩ (.int .i64 ((m2 : Int) - 1))).heap[g]? = w2.heap[g]? := fun g hg => setCell_off _ _ _ _ _ (fun e => h22 (by rw [hg, e]))
      have HO2 : Hid ((w2.setCell ⟨w.heap.size, 4, none⟩ (.int .i64 ((m2 : Int) - 1))).ownsRow base 45 5 (.slice A2 m2 cc2) m2 (cellsN L2)) := by
        have h := own_keep hL2.own hkeep2
        rw [hm2] at h
        exact h
      clear hbx2 hL2 hm2 hmm2 h22 hkeep hkeep2
      go_wp2_with (at_builtin; refine wpList_append_own_at _ rfl _ _ 22 rfl base 45 i1 _ 5 48 Tryd.underlying22 hj0 hj1 hj2 hj3 rfl (by decide) _ m2 _ rfl (own_later HO2.out ?qc0) ⟨w2.heap.size, 0, none⟩ 1 1 (cellsNd1 ⟨5, 0, noT, (m1 : Int) - 1, (m2 : Int) - 1⟩) rfl rfl ?qc1 ones5 ?qc2 ?qc3 ?qc4 ?_)
      case qc0 => exact (Below.refl _ _).alloc (Nat.le_refl _) _
      case qc1 => exact news5 (w := w2.setCell ⟨w.heap.size, 4, none⟩ (.int .i64 ((m2 : Int) - 1))) (x := ⟨5, 0, noT, (m1 : Int) - 1, (m2 : Int) - 1⟩) (by simp)
      case qc2 => unfold maxLen; omega
      case qc3 => omega
      case qc4 => simp; omega
      intro v3 w3 hown3 hgrow _ hat
      have HR := hid_of (laid_join (w := w) (W := w.alloc (.cells #[.int .i64 5, .int .i64 0, .string noT, .int .i64 (c : Int), .int .i64 (a : Int)] 45)) (x := ⟨5, 0, noT, (m1 : Int) - 1, (m2 : Int) - 1⟩) (by go_grown) HL1.out rfl HL2.out rfl (by rw [Hm2.out]; exact hown3) hgrow (hat.imp id fun e => ⟨_, e, by first | omega | (simp; omega)⟩))
      clear hown3 hgrow hat
      go_wp2_with fail
      go_ret
      refine ⟨_, rfl, ?_⟩
      have hR := HR.out
      have e1 : O ++ post (swapT (treeOf l i)) O.length = L2 ++ [⟨5, 0, noT, (m1 : Int) - 1, (m2 : Int) - 1⟩] := by
        rw [← HL2e.out, HS.out, post, Hm1.out, swap_siz, swap_siz, Hmm.out, Hmm2.out]
        have q1 : ((m1 - 1 : Nat) : Int) = (m1 : Int) - 1 := by omega
        have q2 : ((m2 - 1 : Nat) : Int) = (m2 : Int) - 1 := by omega
        rw [q1, q2]
        simp only [List.append_assoc]
      rw [e1]
      exact hR
    · have HS : Hid (swapT (treeOf l i) = .bin 6 (swapT (treeOf l a)) (swapT (treeOf l c))) := by show _ = _; rw [HT.out, swap_off (by omega)]
      go_enter Tryd.func28, Tryd.ntmps28
      go_wp2_with fail
      refine (HI.out a (by omega) (by omega) base v O _ (by have := HSz.out; have := HO.out; omega) hbb (by simp; omega) (HN.out.later (by go_grown)) (own_later HOw.out (by go_grown))).mono ?_
      rintro e w1 ⟨v1, rfl, hL1⟩
      have hbx : Box5 w1 w.heap.size ⟨6, 0, noT, (a : Int), (c : Int)⟩ := (Box5.new w ⟨6, 0, noT, (a : Int), (c : Int)⟩).same (hL1.kept.block _ (by simp) Hvb.out)
      have hm1 : (O ++ post (swapT (treeOf l a)) O.length).length = O.length + sizT (treeOf l a) := by rw [List.length_append, post_len, swap_siz]
      have hN1 : NdsAt w1 b o l := nds_same (HN.out.later (w' := w.alloc _) (by go_grown)) hL1.kept.size (hL1.kept.block b (by simp; omega) HvB.out)
      have h11 : v1.ownBlock ≠ some w.heap.size := fun e => by
        rcases hL1.at' with h | ⟨g, h, hg⟩
        · exact Hvb.out (by rw [← h]; exact e)
        · rw [h] at e; cases e; simp at hg; omega
      have h1B : v1.ownBlock ≠ some b := fun e => by have := (own_block hL1.own e).1; omega
      have hs1 := hL1.kept.size
      simp at hs1
      obtain ⟨A1, cc1, hv1⟩ := own_form hL1.own
      rw [hm1] at hv1
      have hp1 := siz_pos (treeOf l a)
      obtain ⟨m1, hmm1⟩ : ∃ m1, O.length + sizT (treeOf l a) = m1 := ⟨_, rfl⟩
      rw [hmm1] at hv1
      have hm1i : (m1 : Int) ≤ 60 := by have := HSz.out; have := HO.out; omega
      have hm1p : 1 ≤ (m1 : Int) := by omega
      subst hv1
      have c3 := hbx.c3
      have c4 := hbx.c4
      have g3 := hbx.fr 3
      simp only at c3 c4
      have HBx : Hid (Box5 w1 w.heap.size ⟨6, 0, noT, (a : Int), (c : Int)⟩) := hbx
      have HL1 := hid_of hL1
      have HN1 : Hid (NdsAt w1 b o l) := hN1
      have Hm1 := hid_of hm1
      have Hmm := hid_of hmm1
      have H11 : Hid ((Value.slice A1 m1 cc1).ownBlock ≠ some w.heap.size) := h11
      have H1B : Hid ((Value.slice A1 m1 cc1).ownBlock ≠ some b) := h1B
      clear hbx hL1 hN1 hm1 hmm1 h11 h1B
      go_wp2_with fail
      have hkeep : ∀ g, (Value.slice A1 m1 cc1).ownBlock = some g → (w1.setCell ⟨w.heap.size, 3, none⟩ (.int .i64 ((m1 : Int) - 1))).heap[g]? = w1.heap[g]? := fun g hg => setCell_off _ _ _ _ _ (fun e => H11.out (by rw [hg, e]))
      refine (HI.out c (by omega) (by omega) base (.slice A1 m1 cc1) (O ++ post (swapT (treeOf l a)) O.length) _ (by rw [Hm1.out]; have := HSz.out; have := HO.out; omega) hbb (by simp; omega) (nds_same HN1.out (by simp) (setCell_off _ _ _ _ _ (by omega))) (own_keep HL1.out.own hkeep)).mono ?_
      rintro e w2 ⟨v2, rfl, hL2⟩
      have hbx2 : Box5 w2 w.heap.size ⟨6, 0, noT, (m1 : Int) - 1, (c : Int)⟩ := (HBx.out.set3 ((m1 : Int) - 1)).same (hL2.kept.block _ (by simp; omega) H11.out)
      have hm2 : (O ++ post (swapT (treeOf l a)) O.length ++ post (swapT (treeOf l c)) (O ++ post (swapT (treeOf l a)) O.length).length).length = m1 + sizT (treeOf l c) := by rw [List.length_append, Hm1.out, post_len, swap_siz, Hmm.out]
      obtain ⟨L2, hL2e⟩ : ∃ L2, O ++ post (swapT (treeOf l a)) O.length ++ post (swapT (treeOf l c)) (O ++ post (swapT (treeOf l a)) O.length).length = L2 := ⟨_, rfl⟩
      rw [hL2e] at hL2 hm2
      have HL2e := hid_of hL2e
      clear hL2e
      have h22 : v2.ownBlock ≠ some w.heap.size := fun e => by
        rcases hL2.at' with h | ⟨g, h, hg⟩
        · exact H11.out (by rw [← h]; exact e)
        · rw [h] at e; cases e; simp at hg; omega
      have hs2 := hL2.kept.size
      simp at hs2
      obtain ⟨A2, cc2, hv2⟩ := own_form hL2.own
      rw [hm2] at hv2
      have hp2 := siz_pos (treeOf l c)
      obtain ⟨m2, hmm2⟩ : ∃ m2, m1 + sizT (treeOf l c) = m2 := ⟨_, rfl⟩
      rw [hmm2] at hv2 hm2
      have hm2i : (m2 : Int) ≤ 60 := by have := HSz.out; have := HO.out; have := Hmm.out; omega
      have hm2p : 1 ≤ (m2 : Int) := by omega
      subst hv2
      have d0 := hbx2.c0
      have d1 := hbx2.c1
      have d2 := hbx2.c2
      have d3 := hbx2.c3
      have d4 := hbx2.c4
      have g4 := hbx2.fr 4
      simp only at d0 d1 d2 d3 d4
      have HL2 := hid_of hL2
      have Hm2 := hid_of hm2
      have Hmm2 := hid_of hmm2
      have hkeep2 : ∀ g, (Value.slice A2 m2 cc2).ownBlock = some g → (w2.setCell ⟨w.heap.size, 4, none⟩ (.int .i64 ((m2 : Int) - 1))).heap[g]? = w2.heap[g]? := fun g hg => setCell_off _ _ _ _ _ (fun e => h22 (by rw [hg, e]))
      have HO2 : Hid ((w2.setCell ⟨w.heap.size, 4, none⟩ (.int .i64 ((m2 : Int) - 1))).ownsRow base 45 5 (.slice A2 m2 cc2) m2 (cellsN L2)) := by
        have h := own_keep hL2.own hkeep2
        rw [hm2] at h
        exact h
      clear hbx2 hL2 hm2 hmm2 h22 hkeep hkeep2
      go_wp2_with (at_builtin; refine wpList_append_own_at _ rfl _ _ 22 rfl base 45 i1 _ 5 48 Tryd.underlying22 hj0 hj1 hj2 hj3 rfl (by decide) _ m2 _ rfl (own_later HO2.out ?qc0) ⟨w2.heap.size, 0, none⟩ 1 1 (cellsNd1 ⟨6, 0, noT, (m1 : Int) - 1, (m2 : Int) - 1⟩) rfl rfl ?qc1 ones5 ?qc2 ?qc3 ?qc4 ?_)
      case qc0 => exact (Below.refl _ _).alloc (Nat.le_refl _) _
      case qc1 => exact news5 (w := w2.setCell ⟨w.heap.size, 4, none⟩ (.int .i64 ((m2 : Int) - 1))) (x := ⟨6, 0, noT, (m1 : Int) - 1, (m2 : Int) - 1⟩) (by simp)
      case qc2 => unfold maxLen; omega
      case qc3 => omega
      case qc4 => simp; omega
      intro v3 w3 hown3 hgrow _ hat
      have HR := hid_of (laid_join (w := w) (W := w.alloc (.cells #[.int .i64 6, .int .i64 0, .string noT, .int .i64 (a : Int), .int .i64 (c : Int)] 45)) (x := ⟨6, 0, noT, (m1 : Int) - 1, (m2 : Int) - 1⟩) (by go_grown) HL1.out rfl HL2.out rfl (by rw [Hm2.out]; exact hown3) hgrow (hat.imp id fun e => ⟨_, e, by first | omega | (simp; omega)⟩))
      clear hown3 hgrow hat
      go_wp2_with fail
      go_ret
      refine ⟨_, rfl, ?_⟩
      have hR := HR.out
      have e1 : O ++ post (swapT (treeOf l i)) O.length = L2 ++ [⟨6, 0, noT, (m1 : Int) - 1, (m2 : Int) - 1⟩] := by
        rw [← HL2e.out, HS.out, post, Hm1.out, swap_siz, swap_siz, Hmm.out, Hmm2.out]
        have q1 : ((m1 - 1 : Nat) : Int) = (m1 : Int) - 1 := by omega
        have q2 : ((m2 - 1 : Nat) : Int) = (m2 : Int) - 1 := by omega
        rw [q1, q2]
        simp only [List.append_assoc]
      rw [e1]
      exact hR
end Go.Proofs.YtklfenojapgmnaeDoor

namespace Go.Proofs.YtklfenojapgmnaeDoor
open Go.ChangeShapes Go.WideShapes Go.ChangeAt Go.RowKit
set_option maxRecDepth 20000

theorem nds_own {w : World} {base : Nat} {v : Value} {L : List Nd} (h : w.ownsRow base 45 5 v L.length (cellsN L)) : ∃ A c, v = .slice A L.length c ∧ NdsV w A c L := by
  rcases h.2 with ⟨rfl, h0⟩ | ⟨g, cap, cur, rfl, hb, hg, h4, h5, h6, h7⟩
  · have hL : L = [] := List.eq_nil_of_length_eq_zero h0
    subst hL
    exact ⟨none, 0, rfl, NdsV.nil _ _ _ (by omega)⟩
  · refine ⟨_, _, rfl, h4, by unfold maxLen at h5; omega, Or.inr ⟨g, 0, rfl, (Array.getElem?_eq_some_iff.1 hg).1, fun k hk => ?_⟩⟩
    obtain ⟨x0, x1, x2, x3, x4⟩ := cellsN_at L k hk
    rw [← h7, List.getElem?_take, if_pos (by omega), Array.getElem?_toList] at x0 x1 x2 x3 x4
    rw [Nat.zero_add]
    exact ⟨by simp [World.cell?, hg, x0], by simp [World.cell?, hg, x1], by simp [World.cell?, hg, x2], by simp [World.cell?, hg, x3], by simp [World.cell?, hg, x4]⟩

set_option maxHeartbeats 2000000 in
theorem swap_any (A : Option Addr) (cap : Nat) (l : List Nd) (w : World) (hL : NdsV w A cap l) :
    Calls Tryd.prog 13 #[.slice A l.length cap] w fun e w' => (∃ A' c', e = .returned (.tuple #[.slice A' (swpL l).length c', errV (formErr l)]) ∧ NdsV w' A' c' (swpL l)) ∧ Below w.heap.size w w' := by
  have hck := fchk_any A cap l w hL
  by_cases h0 : formErr l = 0
  case neg =>
    have hs : swpL l = [] := by unfold swpL; rw [if_neg h0]
    rw [hs]
    rw [errV_some h0] at hck ⊢
    clear h0 hs hL
    go_enter Tryd.func13, Tryd.ntmps13
    go_wp2_with fail
    refine hck.mono ?_
    rintro e w1 ⟨rfl, hb1⟩
    go_wp2_with fail
    go_ret2
    exact ⟨⟨none, 0, rfl, NdsV.nil _ _ _ (by omega)⟩, hb1⟩
  obtain ⟨hp, h30, hg, -⟩ := form_right h0
  have hsz := siz_tree h0
  have hsl : swpL l = post (swapT (treeOf l (l.length - 1))) 0 := by unfold swpL; rw [if_pos h0]
  rw [h0, errV_zero] at hck ⊢
  obtain ⟨-, -, h1 | ⟨b, o, rfl, hNA⟩⟩ := hL
  · rw [h1] at hp; simp at hp
  have HLay : Hid (∀ w', Below w.heap.size w w' → Calls Tryd.prog 28 #[.slice none 0 0, .slice (some ⟨b, o, none⟩) l.length cap, .int .i64 ((l.length - 1 : Nat) : Int)] w' fun e w'' => (∃ A' c', e = .returned (.slice A' (swpL l).length c') ∧ NdsV w'' A' c' (swpL l)) ∧ Below w'.heap.size w' w'') := by
    intro w' hb
    refine (lay_any b o cap l hg h30 (l.length - 1) (by omega) w'.heap.size (.slice none 0 0) [] w' (by simp; omega) (Nat.lt_of_lt_of_le hNA.1 hb.size) (Nat.le_refl _) (hNA.later hb) (World.ownsRow_nil _ _ _ _)).mono ?_
    rintro e w'' ⟨v', rfl, hLd⟩
    have ho := hLd.own
    rw [List.nil_append, List.length_nil, ← hsl] at ho
    obtain ⟨A', c', rfl, hV⟩ := nds_own ho
    refine ⟨⟨A', c', rfl, hV⟩, ⟨hLd.kept.os, hLd.kept.tape, hLd.kept.output, hLd.kept.size, fun k hk => hLd.kept.block k hk (by simp [Value.ownBlock])⟩⟩
  have hli : (l.length : Int) ≤ 30 := by omega
  have hl1 : 1 ≤ (l.length : Int) := by omega
  have hsub : (l.length : Int) - 1 = ((l.length - 1 : Nat) : Int) := by omega
  obtain ⟨m, hm⟩ : ∃ m, l.length - 1 = m := ⟨_, rfl⟩
  rw [hm] at HLay hsub
  clear hsl hsz hg hNA hp hm h0
  go_enter Tryd.func13, Tryd.ntmps13
  go_wp2_with fail
  refine hck.mono ?_
  rintro e w1 ⟨rfl, hb1⟩
  have HB1 : Hid (Below w.heap.size w w1) := hb1
  clear hb1 hck
  go_wp2_with fail
  refine (HLay.out _ HB1.out).mono ?_
  rintro e w2 ⟨⟨A', c', rfl, hV⟩, hb2⟩
  have HV := hid_of hV
  have HB2 := hid_of (onB HB1.out hb2)
  clear hV hb2
  go_wp2_with fail
  go_ret2
  exact ⟨⟨A', c', rfl, HV.out⟩, HB2.out⟩

theorem const1_any (x : Nd) (w : World) : Calls Tryd.prog 30 #[ndV x] w fun e w' => e = .returned (.bool (decide (x.op = 2))) ∧ Below w.heap.size w w' := by
  rw [ndV_def]
  go_enter Tryd.func30, Tryd.ntmps30
  go_wp2_with fail
  go_ret
  exact ⟨rfl, by go_grown⟩
theorem ent_const1 (args : Array Value) (w : World) : (callFunc 30 args).run Tryd.prog w = .ok (.enter 30 args) w := by simp [go_sem]
theorem index_nds (b o cap : Nat) (l : List Nd) (w : World) (hn : l.length ≤ 30) (hN : NdsAt w b o l) :
    Calls Tryd.prog 45 #[.slice (some ⟨b, o, none⟩) l.length cap, .func (.func 30) #[] #[]] w fun e w' => e = .returned (.int .i64 (findFrom (refB l) l.length 0)) ∧ Below w.heap.size w w' := by
  have HN : Hid (NdsAt w b o l) := hN
  obtain ⟨n, hn'⟩ : ∃ n, l.length = n := ⟨_, rfl⟩
  have HL : Hid (l.length = n) := hn'
  rw [hn'] at hn ⊢
  have he := ent_const1
  clear hN hn'
  go_enter Tryd.func45, Tryd.ntmps45
  go_wp2_with fail
  go_loopg [8] n (fun g s8 wr => ∃ (k : Nat), k ≤ n ∧ g = n - k ∧ s8 = .int .i64 k ∧ findFrom (refB l) (n - k) k = findFrom (refB l) n 0 ∧ Below w.heap.size w wr)
  case atStart => exact ⟨0, Nat.zero_le _, rfl, rfl, rfl, Below.refl _ _⟩
  case round =>
    obtain ⟨k, hk, rfl, rfl, hf, hBw⟩ := hrel
    by_cases hlt : k < n
    · obtain ⟨x0, x1, x2, x3, x4⟩ := (HN.out.later hBw).nd (k := k) (by rw [HL.out]; exact hlt)
      have hki : (k : Int) < (n : Int) := by omega
      have HF : Hid (findFrom (refB l) (n - k) k = findFrom (refB l) n 0) := hf
      have HW : Hid (Below w.heap.size w wr) := hBw
      have hsk : n - k = (n - (k + 1)) + 1 := by omega
      have hbd := const1_any (l.getD k noN)
      have hs8 : (n : Int) ≤ 30 := by omega
      obtain ⟨x, hx⟩ : ∃ x, l.getD k noN = x := ⟨_, rfl⟩
      have HX : Hid (refB l k = decide (x.op = 2)) := by show _ = _; unfold refB; rw [hx]
      rw [hx] at x0 x1 x2 x3 x4 hbd
      rw [ndV_def] at hbd
      clear hf hBw hx
      cases hb : decide (x.op = 2)
      · rw [hb] at hbd
        have HK : Hid (refB l k = false) := by show _ = _; rw [HX.out, hb]
        clear hb
        go_wp2_with fail
        refine (hbd _).mono ?_
        rintro e w1 ⟨rfl, hb1⟩
        go_wp2_with fail
        go_roundg (n - (k + 1))
        case measure => omega
        case rel => exact ⟨k + 1, by omega, rfl, by go_num, by rw [← HF.out, hsk, findFrom_miss _ HK.out], onB HW.out hb1⟩
      · rw [hb] at hbd
        have HK : Hid (refB l k = true) := by show _ = _; rw [HX.out, hb]
        clear hb
        go_wp2_with fail
        refine (hbd _).mono ?_
        rintro e w1 ⟨rfl, hb1⟩
        go_wp2_with fail
        go_ret
        exact ⟨by rw [← HF.out, hsk, findFrom_hit _ HK.out]; rfl, onB HW.out hb1⟩
    · have hke : k = n := by omega
      subst hke
      go_wp2_with fail
      go_ret
      exact ⟨by rw [← hf, Nat.sub_self]; rfl, hBw⟩
theorem contains_nds (b o cap : Nat) (l : List Nd) (w : World) (hn : l.length ≤ 30) (hN : NdsAt w b o l) :
    Calls Tryd.prog 29 #[.slice (some ⟨b, o, none⟩) l.length cap, .func (.func 30) #[] #[]] w fun e w' => e = .returned (.bool (decide (0 ≤ findFrom (refB l) l.length 0))) ∧ Below w.heap.size w w' := by
  have h := index_nds b o cap l w hn hN
  clear hN
  go_enter Tryd.func29, Tryd.ntmps29
  go_wp2_with fail
  refine h.mono ?_
  rintro e w1 ⟨rfl, hb1⟩
  go_wp2_with fail
  go_ret
  exact ⟨rfl, hb1⟩

set_option maxHeartbeats 2000000 in
theorem const_any (A : Option Addr) (cap : Nat) (l : List Nd) (w : World) (hL : NdsV w A cap l) :
    Calls Tryd.prog 15 #[.slice A l.length cap] w fun e w' => e = .returned (.tuple #[.bool (cstB l), errV (formErr l)]) ∧ Below w.heap.size w w' := by
  have hck := fchk_any A cap l w hL
  by_cases h0 : formErr l = 0
  case neg =>
    have hs : cstB l = false := by unfold cstB; rw [decide_eq_false h0]; rfl
    rw [hs]
    rw [errV_some h0] at hck ⊢
    clear h0 hs hL
    go_enter Tryd.func15, Tryd.ntmps15
    go_wp2_with fail
    refine hck.mono ?_
    rintro e w1 ⟨rfl, hb1⟩
    go_wp2_with fail
    go_ret2
    exact ⟨rfl, hb1⟩
  obtain ⟨hp, h30, hg, -⟩ := form_right h0
  obtain ⟨-, -, h1 | ⟨b, o, rfl, hNA⟩⟩ := hL
  · rw [h1] at hp; simp at hp
  have hcb : cstB l = !(decide (0 ≤ findFrom (refB l) l.length 0)) := by
    unfold cstB
    rw [decide_eq_true h0, Bool.true_and]
    rcases findFrom_cases (refB l) l.length 0 with ⟨e, h5⟩ | ⟨m, e, h2, h3, h4, h5⟩
    · rw [e, const_yes h0 (fun i hi => h5 i (Nat.zero_le _) (by omega))]; rfl
    · rw [e, const_no h0 (i := m) (by omega) h4, decide_eq_true (by omega)]; rfl
  rw [hcb]
  rw [h0, errV_zero] at hck ⊢
  have hct := fun w' (hb : Below w.heap.size w w') => contains_nds b o cap l w' h30 (hNA.later hb)
  generalize decide (0 ≤ findFrom (refB l) l.length 0) = t at hct ⊢
  clear h0 hNA hcb hg hp
  go_enter Tryd.func15, Tryd.ntmps15
  go_wp2_with fail
  refine hck.mono ?_
  rintro e w1 ⟨rfl, hb1⟩
  have HB1 : Hid (Below w.heap.size w w1) := hb1
  clear hb1 hck
  go_wp2_with fail
  refine (hct _ HB1.out).mono ?_
  rintro e w2 ⟨rfl, hb2⟩
  have HB2 := hid_of (onB HB1.out hb2)
  clear hb2 hct
  go_wp2_with fail
  go_ret2
  exact ⟨rfl, HB2.out⟩
end Go.Proofs.YtklfenojapgmnaeDoor

namespace Go.Proofs.YtklfenojapgmnaeDoor
open Go.ChangeShapes Go.WideShapes Go.ChangeAt Go.RowKit
set_option maxRecDepth 20000

def oneL : List Nd := [⟨1, 2, ⟨#[]⟩, 0, 0⟩, ⟨1, 3, ⟨#[]⟩, 0, 0⟩, ⟨5, 0, ⟨#[]⟩, 0, 1⟩]
theorem one_E : valE oneL [] [] = 0 := by decide +kernel
theorem one_C : valC oneL [] [] = (1, 6) := by decide +kernel
theorem one_nds {W : World} {g : Nat} (h : W.heap[g]? = some (.cells #[.int .i64 1, .int .i64 2, .string ⟨#[]⟩, .int .i64 0, .int .i64 0, .int .i64 1, .int .i64 3, .string ⟨#[]⟩, .int .i64 0, .int .i64 0, .int .i64 5, .int .i64 0, .string ⟨#[]⟩, .int .i64 0, .int .i64 1] 45 (0, 0))) : NdsV W (some ⟨g, 0, none⟩) 3 oneL := by
  refine ⟨Nat.le_refl _, by decide, Or.inr ⟨g, 0, rfl, (Array.getElem?_eq_some_iff.1 h).1, fun k hk => ?_⟩⟩
  have hk3 : k < 3 := hk
  match k, hk3 with
  | 0, _ => exact ⟨by simp [World.cell?, h, oneL], by simp [World.cell?, h, oneL], by simp [World.cell?, h, oneL], by simp [World.cell?, h, oneL], by simp [World.cell?, h, oneL]⟩
  | 1, _ => exact ⟨by simp [World.cell?, h, oneL], by simp [World.cell?, h, oneL], by simp [World.cell?, h, oneL], by simp [World.cell?, h, oneL], by simp [World.cell?, h, oneL]⟩
  | 2, _ => exact ⟨by simp [World.cell?, h, oneL], by simp [World.cell?, h, oneL], by simp [World.cell?, h, oneL], by simp [World.cell?, h, oneL], by simp [World.cell?, h, oneL]⟩
theorem value_nil (A : Option Addr) (cap : Nat) (l : List Nd) (w : World) (hL : NdsV w A cap l) : Calls Tryd.prog 10 #[.slice A l.length cap, .slice none 0 0, .slice none 0 0] w fun e w' => e = .returned (.tuple #[.agg #[.int .i64 (valC l [] []).1, .int .i64 (valC l [] []).2], errV (valE l [] [])]) ∧ Below w.heap.size w w' :=
  value_any A cap l none 0 [] none 0 [] w hL (NmV.nil _ _ _ (by decide)) (CelV.nil _ _ _ (by decide))

set_option maxHeartbeats 8000000 in
theorem rswaps_any (A : Option Addr) (cap : Nat) (l : List Nd) (An : Option Addr) (cn : Nat) (N : List ByteArray) (Ac : Option Addr) (cc : Nat) (C : List (Int × Int)) (w : World) (hE : TabE w) (hL : NdsV w A cap l) (hN : NmV w An cn N) (hC : CelV w Ac cc C) :
    Calls Tryd.prog 4 #[.slice A l.length cap, .slice An N.length cn, .slice Ac C.length cc] w fun e w' => e = .returned (.bool true) ∧ Below w.heap.size w w' := by
  have HE : Hid (TabE w) := hE
  have HL : Hid (NdsV w A cap l) := hL
  have HN : Hid (NmV w An cn N) := hN
  have HC : Hid (CelV w Ac cc C) := hC
  obtain ⟨W, hW⟩ : ∃ W, w.alloc (.cells #[.int .i64 1, .int .i64 2, .string ⟨#[]⟩, .int .i64 0, .int .i64 0, .int .i64 1, .int .i64 3, .string ⟨#[]⟩, .int .i64 0, .int .i64 0, .int .i64 5, .int .i64 0, .string ⟨#[]⟩, .int .i64 0, .int .i64 1] 45) = W := ⟨_, rfl⟩
  have hblk : W.heap[w.heap.size]? = some (.cells #[.int .i64 1, .int .i64 2, .string ⟨#[]⟩, .int .i64 0, .int .i64 0, .int .i64 1, .int .i64 3, .string ⟨#[]⟩, .int .i64 0, .int .i64 0, .int .i64 5, .int .i64 0, .string ⟨#[]⟩, .int .i64 0, .int .i64 1] 45 (0, 0)) := by rw [← hW]; exact heap_alloc_new _ _
  have HBW : Hid (Below w.heap.size w W) := by show Below w.heap.size w W; rw [← hW]; exact (Below.refl _ _).alloc (Nat.le_refl _) _
  have hv0 := value_nil _ _ oneL W (one_nds hblk)
  rw [one_E, one_C, errV_zero] at hv0
  have hol : oneL.length = 3 := rfl
  rw [hol] at hv0
  clear hE hL hN hC hblk hol
  by_cases h0 : formErr l = 0
  case neg =>
    go_enter Tryd.func4, Tryd.ntmps4
    go_wp2_with fail
    refine hv0.mono ?_
    rintro e w1 ⟨rfl, hb1⟩
    have HB1 := hid_of (onB HBW.out hb1)
    clear hb1 hv0 hW
    obtain ⟨V1, hV1⟩ : ∃ V1, w1.alloc (.cells #[.int .i64 1, .int .i64 6] 28) = V1 := ⟨_, rfl⟩
    have HV1 : Hid (Below w.heap.size w V1) := by show Below w.heap.size w V1; rw [← hV1]; exact HB1.out.alloc HB1.out.size _
    have hg1 : V1.heap[w1.heap.size]? = some (.cells #[.int .i64 1, .int .i64 6] 28 (0, 0)) := by rw [← hV1]; exact heap_alloc_new _ _
    have u0 : V1.cell? ⟨w1.heap.size, 0, none⟩ = some (.int .i64 1) := by simp [World.cell?, hg1]
    have u1 : V1.cell? ⟨w1.heap.size, 1, none⟩ = some (.int .i64 6) := by simp [World.cell?, hg1]
    clear hg1
    have hs1 := swap_any A cap l V1 (HL.out.later HV1.out)
    rw [errV_some h0] at hs1
    clear h0
    go_wp2_with fail
    refine hs1.mono ?_
    rintro e w2 ⟨⟨A2, c2, rfl, hN2⟩, hb2⟩
    have HB2 := hid_of (onB HV1.out hb2)
    clear hb2 hs1 hN2
    go_wp2_with fail
    go_ret
    exact ⟨rfl, HB2.out⟩
  by_cases hve : valE l N C = 0
  · cases hcb : cstB l
    · go_enter Tryd.func4, Tryd.ntmps4
      go_wp2_with fail
      refine hv0.mono ?_
      rintro e w1 ⟨rfl, hb1⟩
      have HB1 := hid_of (onB HBW.out hb1)
      clear hb1 hv0 hW
      obtain ⟨V1, hV1⟩ : ∃ V1, w1.alloc (.cells #[.int .i64 1, .int .i64 6] 28) = V1 := ⟨_, rfl⟩
      have HV1 : Hid (Below w.heap.size w V1) := by show Below w.heap.size w V1; rw [← hV1]; exact HB1.out.alloc HB1.out.size _
      have hg1 : V1.heap[w1.heap.size]? = some (.cells #[.int .i64 1, .int .i64 6] 28 (0, 0)) := by rw [← hV1]; exact heap_alloc_new _ _
      have u0 : V1.cell? ⟨w1.heap.size, 0, none⟩ = some (.int .i64 1) := by simp [World.cell?, hg1]
      have u1 : V1.cell? ⟨w1.heap.size, 1, none⟩ = some (.int .i64 6) := by simp [World.cell?, hg1]
      clear hg1
      have hs1 := swap_any A cap l V1 (HL.out.later HV1.out)
      rw [h0, errV_zero] at hs1
      obtain ⟨f1, f2, f3⟩ := swp_form h0
      obtain ⟨k1, k2⟩ := swp_val h0 N C
      obtain ⟨t1, t2⟩ := swp_twice h0
      obtain ⟨X, hX⟩ : ∃ X, swpL l = X := ⟨_, rfl⟩
      rw [hX] at hs1 f1 f3 k1 k2 t1 t2
      obtain ⟨Y, hY⟩ : ∃ Y, swpL X = Y := ⟨_, rfl⟩
      rw [hY] at t1 t2
      obtain ⟨T, hT⟩ : ∃ T, printT l = T := ⟨_, rfl⟩
      rw [hT] at t2
      have HX := hid_of f1
      have HK1 := hid_of k1
      have HK2 := hid_of k2
      have HT1 := hid_of t1
      have HT2 := hid_of t2
      have HT := hid_of hT
      have HY := hid_of hY
      have H0 := hid_of h0
      obtain ⟨R, hR⟩ : ∃ R, valC l N C = R := ⟨_, rfl⟩
      have HR := hid_of hR
      have HV : Hid (errV (valE l N C) = .nilIface) := by show _ = _; rw [hve, errV_zero]
      have HCB := hid_of hcb
      clear hve hcb
      clear f1 f2 f3 k1 k2 t1 t2 hX hY hT h0 hR
      go_wp2_with fail
      refine hs1.mono ?_
      rintro e w2 ⟨⟨A2, c2, rfl, hN2⟩, hb2⟩
      have HB2 := hid_of (onB HV1.out hb2)
      have HN2 := hid_of hN2
      have hs2 := swap_any A2 c2 X w2 hN2
      rw [HX.out, HY.out, errV_zero] at hs2
      clear hb2 hs1 hN2 u0 u1 hV1
      go_wp2_with fail
      refine hs2.mono ?_
      rintro e w3 ⟨⟨A3, c3, rfl, hN3⟩, hb3⟩
      have HB3 := hid_of (onB HB2.out hb3)
      have HN3 := hid_of hN3
      have HM3 := hid_of (HN2.out.later hb3)
      have hp3 := fprint_any A cap l w3 (HE.out.later HB3.out) (HL.out.later HB3.out)
      rw [H0.out, HT.out, errV_zero] at hp3
      clear hb3 hs2 hN3
      go_wp2_with fail
      refine hp3.mono ?_
      rintro e w4 ⟨rfl, hb4⟩
      have HB4 := hid_of (onB HB3.out hb4)
      have HM4 := hid_of (HM3.out.later hb4)
      have hp4 := fprint_any A3 c3 Y w4 (HE.out.later HB4.out) (HN3.out.later hb4)
      rw [HT1.out, HT2.out, errV_zero] at hp4
      clear hb4 hp3
      go_wp2_with fail
      refine hp4.mono ?_
      rintro e w5 ⟨rfl, hb5⟩
      have HB5 := hid_of (onB HB4.out hb5)
      have HM5 := hid_of (HM4.out.later hb5)
      have hc5 := const_any A cap l w5 (HL.out.later HB5.out)
      rw [H0.out, HCB.out, errV_zero] at hc5
      clear hb5 hp4
      go_wp2_with fail
      refine hc5.mono ?_
      rintro e w6 ⟨rfl, hb6⟩
      have HB6 := hid_of (onB HB5.out hb6)
      have HM6 := hid_of (HM5.out.later hb6)
      have hv6 := value_any A cap l An cn N Ac cc C w6 (HL.out.later HB6.out) (HN.out.later HB6.out) (HC.out.later HB6.out)
      rw [HR.out, HV.out] at hv6
      clear hb6 hc5
      go_wp2_with fail
      refine hv6.mono ?_
      rintro e w7 ⟨rfl, hb7⟩
      have HB7 := hid_of (onB HB6.out hb7)
      have HM7 := hid_of (HM6.out.later hb7)
      obtain ⟨V7, hV7⟩ : ∃ V7, w7.alloc (.cells #[.int .i64 R.1, .int .i64 R.2] 28) = V7 := ⟨_, rfl⟩
      have hb7' : Below w7.heap.size w7 V7 := by rw [← hV7]; exact (Below.refl _ _).alloc (Nat.le_refl _) _
      have g7 : V7.heap[w7.heap.size]? = some (.cells #[.int .i64 R.1, .int .i64 R.2] 28 (0, 0)) := by rw [← hV7]; exact heap_alloc_new _ _
      have HV7 := hid_of (onB HB7.out hb7')
      have G7 := hid_of g7
      have hv8 := value_any A2 c2 X An cn N Ac cc C V7 (HM7.out.later hb7') (HN.out.later HV7.out) (HC.out.later HV7.out)
      rw [HK2.out, HR.out, HK1.out, HV.out] at hv8
      clear hb7 hv6 hb7' g7
      go_wp2_with fail
      refine hv8.mono ?_
      rintro e w8 ⟨rfl, hb8⟩
      have HB8 := hid_of (onB HV7.out hb8)
      have hg8 := (hb8.block w7.heap.size (Array.getElem?_eq_some_iff.1 G7.out).1).trans G7.out
      clear hb8 hv8 hV7
      obtain ⟨V8, hV8⟩ : ∃ V8, w8.alloc (.cells #[.int .i64 R.1, .int .i64 R.2] 28) = V8 := ⟨_, rfl⟩
      have HV8 : Hid (Below w.heap.size w V8) := by show Below w.heap.size w V8; rw [← hV8]; exact HB8.out.alloc HB8.out.size _
      have hg9 : V8.heap[w7.heap.size]? = some (.cells #[.int .i64 R.1, .int .i64 R.2] 28 (0, 0)) := by rw [← hV8, heap_alloc_old _ _ (Array.getElem?_eq_some_iff.1 hg8).1]; exact hg8
      have hg10 : V8.heap[w8.heap.size]? = some (.cells #[.int .i64 R.1, .int .i64 R.2] 28 (0, 0)) := by rw [← hV8]; exact heap_alloc_new _ _
      have u0 : V8.cell? ⟨w7.heap.size, 0, none⟩ = some (.int .i64 R.1) := by simp [World.cell?, hg9]
      have u1 : V8.cell? ⟨w7.heap.size, 1, none⟩ = some (.int .i64 R.2) := by simp [World.cell?, hg9]
      have u2 : V8.cell? ⟨w8.heap.size, 0, none⟩ = some (.int .i64 R.1) := by simp [World.cell?, hg10]
      have u3 : V8.cell? ⟨w8.heap.size, 1, none⟩ = some (.int .i64 R.2) := by simp [World.cell?, hg10]
      have G9 := hid_of hg9
      clear hg8 hg9 hg10
      go_wp2_with fail
      go_quiet (fail)
      obtain ⟨V9, hV9⟩ : ∃ V9, V8.drewN nq = V9 := ⟨_, rfl⟩
      have hb9 : Below V8.heap.size V8 V9 := by rw [← hV9]; exact below_drewN (Below.refl _ _) _
      have HV9 : Hid (Below w.heap.size w V9) := onB HV8.out hb9
      have g9 := (hb9.block w7.heap.size (Array.getElem?_eq_some_iff.1 G9.out).1).trans G9.out
      have GA := hid_of g9
      have hv9 := value_nil A cap l V9 (HL.out.later HV9.out)
      obtain ⟨S, hS⟩ : ∃ S, valC l [] [] = S := ⟨_, rfl⟩
      obtain ⟨er, her⟩ : ∃ er, errV (valE l [] []) = er := ⟨_, rfl⟩
      rw [hS, her] at hv9
      clear hS her
      rw [hV9]
      clear hV9 u0 u1 u2 u3 hV8 hb9 g9
      go_wp2_with fail
      refine hv9.mono ?_
      rintro e w10 ⟨rfl, hb10⟩
      have HB10 := hid_of (onB HV9.out hb10)
      have g10 := (hb10.block w7.heap.size (Array.getElem?_eq_some_iff.1 GA.out).1).trans GA.out
      clear hb10 hv9
      obtain ⟨V10, hV10⟩ : ∃ V10, w10.alloc (.cells #[.int .i64 S.1, .int .i64 S.2] 28) = V10 := ⟨_, rfl⟩
      have HV10 : Hid (Below w.heap.size w V10) := by show Below w.heap.size w V10; rw [← hV10]; exact HB10.out.alloc HB10.out.size _
      have hg11 : V10.heap[w7.heap.size]? = some (.cells #[.int .i64 R.1, .int .i64 R.2] 28 (0, 0)) := by rw [← hV10, heap_alloc_old _ _ (Array.getElem?_eq_some_iff.1 g10).1]; exact g10
      have hg12 : V10.heap[w10.heap.size]? = some (.cells #[.int .i64 S.1, .int .i64 S.2] 28 (0, 0)) := by rw [← hV10]; exact heap_alloc_new _ _
      have u0 : V10.cell? ⟨w7.heap.size, 0, none⟩ = some (.int .i64 R.1) := by simp [World.cell?, hg11]
      have u1 : V10.cell? ⟨w7.heap.size, 1, none⟩ = some (.int .i64 R.2) := by simp [World.cell?, hg11]
      have u2 : V10.cell? ⟨w10.heap.size, 0, none⟩ = some (.int .i64 S.1) := by simp [World.cell?, hg12]
      have u3 : V10.cell? ⟨w10.heap.size, 1, none⟩ = some (.int .i64 S.2) := by simp [World.cell?, hg12]
      clear g10 hg11 hg12
      go_wp2_with fail
      go_ret
      exact ⟨rfl, HV10.out⟩
    · go_enter Tryd.func4, Tryd.ntmps4
      go_wp2_with fail
      refine hv0.mono ?_
      rintro e w1 ⟨rfl, hb1⟩
      have HB1 := hid_of (onB HBW.out hb1)
      clear hb1 hv0 hW
      obtain ⟨V1, hV1⟩ : ∃ V1, w1.alloc (.cells #[.int .i64 1, .int .i64 6] 28) = V1 := ⟨_, rfl⟩
      have HV1 : Hid (Below w.heap.size w V1) := by show Below w.heap.size w V1; rw [← hV1]; exact HB1.out.alloc HB1.out.size _
      have hg1 : V1.heap[w1.heap.size]? = some (.cells #[.int .i64 1, .int .i64 6] 28 (0, 0)) := by rw [← hV1]; exact heap_alloc_new _ _
      have u0 : V1.cell? ⟨w1.heap.size, 0, none⟩ = some (.int .i64 1) := by simp [World.cell?, hg1]
      have u1 : V1.cell? ⟨w1.heap.size, 1, none⟩ = some (.int .i64 6) := by simp [World.cell?, hg1]
      clear hg1
      have hs1 := swap_any A cap l V1 (HL.out.later HV1.out)
      rw [h0, errV_zero] at hs1
      obtain ⟨f1, f2, f3⟩ := swp_form h0
      obtain ⟨k1, k2⟩ := swp_val h0 N C
      obtain ⟨t1, t2⟩ := swp_twice h0
      obtain ⟨X, hX⟩ : ∃ X, swpL l = X := ⟨_, rfl⟩
      rw [hX] at hs1 f1 f3 k1 k2 t1 t2
      obtain ⟨Y, hY⟩ : ∃ Y, swpL X = Y := ⟨_, rfl⟩
      rw [hY] at t1 t2
      obtain ⟨T, hT⟩ : ∃ T, printT l = T := ⟨_, rfl⟩
      rw [hT] at t2
      have HX := hid_of f1
      have HK1 := hid_of k1
      have HK2 := hid_of k2
      have HT1 := hid_of t1
      have HT2 := hid_of t2
      have HT := hid_of hT
      have HY := hid_of hY
      have H0 := hid_of h0
      obtain ⟨R, hR⟩ : ∃ R, valC l N C = R := ⟨_, rfl⟩
      have HR := hid_of hR
      have HV : Hid (errV (valE l N C) = .nilIface) := by show _ = _; rw [hve, errV_zero]
      have HCB := hid_of hcb
      obtain ⟨z1, z2⟩ := cst_val h0 hcb N C
      have Z1 := hid_of z1
      have Z2 := hid_of ((z2 hve).trans hR)
      clear z1 z2
      clear hve hcb
      clear f1 f2 f3 k1 k2 t1 t2 hX hY hT h0 hR
      go_wp2_with fail
      refine hs1.mono ?_
      rintro e w2 ⟨⟨A2, c2, rfl, hN2⟩, hb2⟩
      have HB2 := hid_of (onB HV1.out hb2)
      have HN2 := hid_of hN2
      have hs2 := swap_any A2 c2 X w2 hN2
      rw [HX.out, HY.out, errV_zero] at hs2
      clear hb2 hs1 hN2 u0 u1 hV1
      go_wp2_with fail
      refine hs2.mono ?_
      rintro e w3 ⟨⟨A3, c3, rfl, hN3⟩, hb3⟩
      have HB3 := hid_of (onB HB2.out hb3)
      have HN3 := hid_of hN3
      have HM3 := hid_of (HN2.out.later hb3)
      have hp3 := fprint_any A cap l w3 (HE.out.later HB3.out) (HL.out.later HB3.out)
      rw [H0.out, HT.out, errV_zero] at hp3
      clear hb3 hs2 hN3
      go_wp2_with fail
      refine hp3.mono ?_
      rintro e w4 ⟨rfl, hb4⟩
      have HB4 := hid_of (onB HB3.out hb4)
      have HM4 := hid_of (HM3.out.later hb4)
      have hp4 := fprint_any A3 c3 Y w4 (HE.out.later HB4.out) (HN3.out.later hb4)
      rw [HT1.out, HT2.out, errV_zero] at hp4
      clear hb4 hp3
      go_wp2_with fail
      refine hp4.mono ?_
      rintro e w5 ⟨rfl, hb5⟩
      have HB5 := hid_of (onB HB4.out hb5)
      have HM5 := hid_of (HM4.out.later hb5)
      have hc5 := const_any A cap l w5 (HL.out.later HB5.out)
      rw [H0.out, HCB.out, errV_zero] at hc5
      clear hb5 hp4
      go_wp2_with fail
      refine hc5.mono ?_
      rintro e w6 ⟨rfl, hb6⟩
      have HB6 := hid_of (onB HB5.out hb6)
      have HM6 := hid_of (HM5.out.later hb6)
      have hv6 := value_any A cap l An cn N Ac cc C w6 (HL.out.later HB6.out) (HN.out.later HB6.out) (HC.out.later HB6.out)
      rw [HR.out, HV.out] at hv6
      clear hb6 hc5
      go_wp2_with fail
      refine hv6.mono ?_
      rintro e w7 ⟨rfl, hb7⟩
      have HB7 := hid_of (onB HB6.out hb7)
      have HM7 := hid_of (HM6.out.later hb7)
      obtain ⟨V7, hV7⟩ : ∃ V7, w7.alloc (.cells #[.int .i64 R.1, .int .i64 R.2] 28) = V7 := ⟨_, rfl⟩
      have hb7' : Below w7.heap.size w7 V7 := by rw [← hV7]; exact (Below.refl _ _).alloc (Nat.le_refl _) _
      have g7 : V7.heap[w7.heap.size]? = some (.cells #[.int .i64 R.1, .int .i64 R.2] 28 (0, 0)) := by rw [← hV7]; exact heap_alloc_new _ _
      have HV7 := hid_of (onB HB7.out hb7')
      have G7 := hid_of g7
      have hv8 := value_any A2 c2 X An cn N Ac cc C V7 (HM7.out.later hb7') (HN.out.later HV7.out) (HC.out.later HV7.out)
      rw [HK2.out, HR.out, HK1.out, HV.out] at hv8
      clear hb7 hv6 hb7' g7
      go_wp2_with fail
      refine hv8.mono ?_
      rintro e w8 ⟨rfl, hb8⟩
      have HB8 := hid_of (onB HV7.out hb8)
      have hg8 := (hb8.block w7.heap.size (Array.getElem?_eq_some_iff.1 G7.out).1).trans G7.out
      clear hb8 hv8 hV7
      obtain ⟨V8, hV8⟩ : ∃ V8, w8.alloc (.cells #[.int .i64 R.1, .int .i64 R.2] 28) = V8 := ⟨_, rfl⟩
      have HV8 : Hid (Below w.heap.size w V8) := by show Below w.heap.size w V8; rw [← hV8]; exact HB8.out.alloc HB8.out.size _
      have hg9 : V8.heap[w7.heap.size]? = some (.cells #[.int .i64 R.1, .int .i64 R.2] 28 (0, 0)) := by rw [← hV8, heap_alloc_old _ _ (Array.getElem?_eq_some_iff.1 hg8).1]; exact hg8
      have hg10 : V8.heap[w8.heap.size]? = some (.cells #[.int .i64 R.1, .int .i64 R.2] 28 (0, 0)) := by rw [← hV8]; exact heap_alloc_new _ _
      have u0 : V8.cell? ⟨w7.heap.size, 0, none⟩ = some (.int .i64 R.1) := by simp [World.cell?, hg9]
      have u1 : V8.cell? ⟨w7.heap.size, 1, none⟩ = some (.int .i64 R.2) := by simp [World.cell?, hg9]
      have u2 : V8.cell? ⟨w8.heap.size, 0, none⟩ = some (.int .i64 R.1) := by simp [World.cell?, hg10]
      have u3 : V8.cell? ⟨w8.heap.size, 1, none⟩ = some (.int .i64 R.2) := by simp [World.cell?, hg10]
      have G9 := hid_of hg9
      clear hg8 hg9 hg10
      go_wp2_with fail
      go_quiet (fail)
      obtain ⟨V9, hV9⟩ : ∃ V9, V8.drewN nq = V9 := ⟨_, rfl⟩
      have hb9 : Below V8.heap.size V8 V9 := by rw [← hV9]; exact below_drewN (Below.refl _ _) _
      have HV9 : Hid (Below w.heap.size w V9) := onB HV8.out hb9
      have g9 := (hb9.block w7.heap.size (Array.getElem?_eq_some_iff.1 G9.out).1).trans G9.out
      have GA := hid_of g9
      have hv9 := value_nil A cap l V9 (HL.out.later HV9.out)
      rw [Z1.out, Z2.out, errV_zero] at hv9
      rw [hV9]
      clear hV9 u0 u1 u2 u3 hV8 hb9 g9
      go_wp2_with fail
      refine hv9.mono ?_
      rintro e w10 ⟨rfl, hb10⟩
      have HB10 := hid_of (onB HV9.out hb10)
      have g10 := (hb10.block w7.heap.size (Array.getElem?_eq_some_iff.1 GA.out).1).trans GA.out
      clear hb10 hv9
      obtain ⟨V10, hV10⟩ : ∃ V10, w10.alloc (.cells #[.int .i64 R.1, .int .i64 R.2] 28) = V10 := ⟨_, rfl⟩
      have HV10 : Hid (Below w.heap.size w V10) := by show Below w.heap.size w V10; rw [← hV10]; exact HB10.out.alloc HB10.out.size _
      have hg11 : V10.heap[w7.heap.size]? = some (.cells #[.int .i64 R.1, .int .i64 R.2] 28 (0, 0)) := by rw [← hV10, heap_alloc_old _ _ (Array.getElem?_eq_some_iff.1 g10).1]; exact g10
      have hg12 : V10.heap[w10.heap.size]? = some (.cells #[.int .i64 R.1, .int .i64 R.2] 28 (0, 0)) := by rw [← hV10]; exact heap_alloc_new _ _
      have u0 : V10.cell? ⟨w7.heap.size, 0, none⟩ = some (.int .i64 R.1) := by simp [World.cell?, hg11]
      have u1 : V10.cell? ⟨w7.heap.size, 1, none⟩ = some (.int .i64 R.2) := by simp [World.cell?, hg11]
      have u2 : V10.cell? ⟨w10.heap.size, 0, none⟩ = some (.int .i64 R.1) := by simp [World.cell?, hg12]
      have u3 : V10.cell? ⟨w10.heap.size, 1, none⟩ = some (.int .i64 R.2) := by simp [World.cell?, hg12]
      clear g10 hg11 hg12
      go_wp2_with fail
      go_ret
      exact ⟨rfl, HV10.out⟩
  · cases hcb : cstB l
    · go_enter Tryd.func4, Tryd.ntmps4
      go_wp2_with fail
      refine hv0.mono ?_
      rintro e w1 ⟨rfl, hb1⟩
      have HB1 := hid_of (onB HBW.out hb1)
      clear hb1 hv0 hW
      obtain ⟨V1, hV1⟩ : ∃ V1, w1.alloc (.cells #[.int .i64 1, .int .i64 6] 28) = V1 := ⟨_, rfl⟩
      have HV1 : Hid (Below w.heap.size w V1) := by show Below w.heap.size w V1; rw [← hV1]; exact HB1.out.alloc HB1.out.size _
      have hg1 : V1.heap[w1.heap.size]? = some (.cells #[.int .i64 1, .int .i64 6] 28 (0, 0)) := by rw [← hV1]; exact heap_alloc_new _ _
      have u0 : V1.cell? ⟨w1.heap.size, 0, none⟩ = some (.int .i64 1) := by simp [World.cell?, hg1]
      have u1 : V1.cell? ⟨w1.heap.size, 1, none⟩ = some (.int .i64 6) := by simp [World.cell?, hg1]
      clear hg1
      have hs1 := swap_any A cap l V1 (HL.out.later HV1.out)
      rw [h0, errV_zero] at hs1
      obtain ⟨f1, f2, f3⟩ := swp_form h0
      obtain ⟨k1, k2⟩ := swp_val h0 N C
      obtain ⟨t1, t2⟩ := swp_twice h0
      obtain ⟨X, hX⟩ : ∃ X, swpL l = X := ⟨_, rfl⟩
      rw [hX] at hs1 f1 f3 k1 k2 t1 t2
      obtain ⟨Y, hY⟩ : ∃ Y, swpL X = Y := ⟨_, rfl⟩
      rw [hY] at t1 t2
      obtain ⟨T, hT⟩ : ∃ T, printT l = T := ⟨_, rfl⟩
      rw [hT] at t2
      have HX := hid_of f1
      have HK1 := hid_of k1
      have HK2 := hid_of k2
      have HT1 := hid_of t1
      have HT2 := hid_of t2
      have HT := hid_of hT
      have HY := hid_of hY
      have H0 := hid_of h0
      obtain ⟨R, hR⟩ : ∃ R, valC l N C = R := ⟨_, rfl⟩
      have HR := hid_of hR
      obtain ⟨ve, hvn⟩ : ∃ ve, valE l N C = ve := ⟨_, rfl⟩
      have HV : Hid (errV (valE l N C) = .iface 58 (.int .i64 ve)) := by show _ = _; rw [errV_some hve, hvn]
      have HCB := hid_of hcb
      clear hve hcb hvn
      clear f1 f2 f3 k1 k2 t1 t2 hX hY hT h0 hR
      go_wp2_with fail
      refine hs1.mono ?_
      rintro e w2 ⟨⟨A2, c2, rfl, hN2⟩, hb2⟩
      have HB2 := hid_of (onB HV1.out hb2)
      have HN2 := hid_of hN2
      have hs2 := swap_any A2 c2 X w2 hN2
      rw [HX.out, HY.out, errV_zero] at hs2
      clear hb2 hs1 hN2 u0 u1 hV1
      go_wp2_with fail
      refine hs2.mono ?_
      rintro e w3 ⟨⟨A3, c3, rfl, hN3⟩, hb3⟩
      have HB3 := hid_of (onB HB2.out hb3)
      have HN3 := hid_of hN3
      have HM3 := hid_of (HN2.out.later hb3)
      have hp3 := fprint_any A cap l w3 (HE.out.later HB3.out) (HL.out.later HB3.out)
      rw [H0.out, HT.out, errV_zero] at hp3
      clear hb3 hs2 hN3
      go_wp2_with fail
      refine hp3.mono ?_
      rintro e w4 ⟨rfl, hb4⟩
      have HB4 := hid_of (onB HB3.out hb4)
      have HM4 := hid_of (HM3.out.later hb4)
      have hp4 := fprint_any A3 c3 Y w4 (HE.out.later HB4.out) (HN3.out.later hb4)
      rw [HT1.out, HT2.out, errV_zero] at hp4
      clear hb4 hp3
      go_wp2_with fail
      refine hp4.mono ?_
      rintro e w5 ⟨rfl, hb5⟩
      have HB5 := hid_of (onB HB4.out hb5)
      have HM5 := hid_of (HM4.out.later hb5)
      have hc5 := const_any A cap l w5 (HL.out.later HB5.out)
      rw [H0.out, HCB.out, errV_zero] at hc5
      clear hb5 hp4
      go_wp2_with fail
      refine hc5.mono ?_
      rintro e w6 ⟨rfl, hb6⟩
      have HB6 := hid_of (onB HB5.out hb6)
      have HM6 := hid_of (HM5.out.later hb6)
      have hv6 := value_any A cap l An cn N Ac cc C w6 (HL.out.later HB6.out) (HN.out.later HB6.out) (HC.out.later HB6.out)
      rw [HR.out, HV.out] at hv6
      clear hb6 hc5
      go_wp2_with fail
      refine hv6.mono ?_
      rintro e w7 ⟨rfl, hb7⟩
      have HB7 := hid_of (onB HB6.out hb7)
      have HM7 := hid_of (HM6.out.later hb7)
      obtain ⟨V7, hV7⟩ : ∃ V7, w7.alloc (.cells #[.int .i64 R.1, .int .i64 R.2] 28) = V7 := ⟨_, rfl⟩
      have hb7' : Below w7.heap.size w7 V7 := by rw [← hV7]; exact (Below.refl _ _).alloc (Nat.le_refl _) _
      have g7 : V7.heap[w7.heap.size]? = some (.cells #[.int .i64 R.1, .int .i64 R.2] 28 (0, 0)) := by rw [← hV7]; exact heap_alloc_new _ _
      have HV7 := hid_of (onB HB7.out hb7')
      have G7 := hid_of g7
      have hv8 := value_any A2 c2 X An cn N Ac cc C V7 (HM7.out.later hb7') (HN.out.later HV7.out) (HC.out.later HV7.out)
      rw [HK2.out, HR.out, HK1.out, HV.out] at hv8
      clear hb7 hv6 hb7' g7
      go_wp2_with fail
      refine hv8.mono ?_
      rintro e w8 ⟨rfl, hb8⟩
      have HB8 := hid_of (onB HV7.out hb8)
      have hg8 := (hb8.block w7.heap.size (Array.getElem?_eq_some_iff.1 G7.out).1).trans G7.out
      clear hb8 hv8 hV7
      obtain ⟨V8, hV8⟩ : ∃ V8, w8.alloc (.cells #[.int .i64 R.1, .int .i64 R.2] 28) = V8 := ⟨_, rfl⟩
      have HV8 : Hid (Below w.heap.size w V8) := by show Below w.heap.size w V8; rw [← hV8]; exact HB8.out.alloc HB8.out.size _
      have hg9 : V8.heap[w7.heap.size]? = some (.cells #[.int .i64 R.1, .int .i64 R.2] 28 (0, 0)) := by rw [← hV8, heap_alloc_old _ _ (Array.getElem?_eq_some_iff.1 hg8).1]; exact hg8
      have hg10 : V8.heap[w8.heap.size]? = some (.cells #[.int .i64 R.1, .int .i64 R.2] 28 (0, 0)) := by rw [← hV8]; exact heap_alloc_new _ _
      have u0 : V8.cell? ⟨w7.heap.size, 0, none⟩ = some (.int .i64 R.1) := by simp [World.cell?, hg9]
      have u1 : V8.cell? ⟨w7.heap.size, 1, none⟩ = some (.int .i64 R.2) := by simp [World.cell?, hg9]
      have u2 : V8.cell? ⟨w8.heap.size, 0, none⟩ = some (.int .i64 R.1) := by simp [World.cell?, hg10]
      have u3 : V8.cell? ⟨w8.heap.size, 1, none⟩ = some (.int .i64 R.2) := by simp [World.cell?, hg10]
      have G9 := hid_of hg9
      clear hg8 hg9 hg10
      go_wp2_with fail
      go_quiet (fail)
      obtain ⟨V9, hV9⟩ : ∃ V9, V8.drewN nq = V9 := ⟨_, rfl⟩
      have hb9 : Below V8.heap.size V8 V9 := by rw [← hV9]; exact below_drewN (Below.refl _ _) _
      have HV9 : Hid (Below w.heap.size w V9) := onB HV8.out hb9
      have g9 := (hb9.block w7.heap.size (Array.getElem?_eq_some_iff.1 G9.out).1).trans G9.out
      have GA := hid_of g9
      have hv9 := value_nil A cap l V9 (HL.out.later HV9.out)
      obtain ⟨S, hS⟩ : ∃ S, valC l [] [] = S := ⟨_, rfl⟩
      obtain ⟨er, her⟩ : ∃ er, errV (valE l [] []) = er := ⟨_, rfl⟩
      rw [hS, her] at hv9
      clear hS her
      rw [hV9]
      clear hV9 u0 u1 u2 u3 hV8 hb9 g9
      go_wp2_with fail
      refine hv9.mono ?_
      rintro e w10 ⟨rfl, hb10⟩
      have HB10 := hid_of (onB HV9.out hb10)
      have g10 := (hb10.block w7.heap.size (Array.getElem?_eq_some_iff.1 GA.out).1).trans GA.out
      clear hb10 hv9
      obtain ⟨V10, hV10⟩ : ∃ V10, w10.alloc (.cells #[.int .i64 S.1, .int .i64 S.2] 28) = V10 := ⟨_, rfl⟩
      have HV10 : Hid (Below w.heap.size w V10) := by show Below w.heap.size w V10; rw [← hV10]; exact HB10.out.alloc HB10.out.size _
      have hg11 : V10.heap[w7.heap.size]? = some (.cells #[.int .i64 R.1, .int .i64 R.2] 28 (0, 0)) := by rw [← hV10, heap_alloc_old _ _ (Array.getElem?_eq_some_iff.1 g10).1]; exact g10
      have hg12 : V10.heap[w10.heap.size]? = some (.cells #[.int .i64 S.1, .int .i64 S.2] 28 (0, 0)) := by rw [← hV10]; exact heap_alloc_new _ _
      have u0 : V10.cell? ⟨w7.heap.size, 0, none⟩ = some (.int .i64 R.1) := by simp [World.cell?, hg11]
      have u1 : V10.cell? ⟨w7.heap.size, 1, none⟩ = some (.int .i64 R.2) := by simp [World.cell?, hg11]
      have u2 : V10.cell? ⟨w10.heap.size, 0, none⟩ = some (.int .i64 S.1) := by simp [World.cell?, hg12]
      have u3 : V10.cell? ⟨w10.heap.size, 1, none⟩ = some (.int .i64 S.2) := by simp [World.cell?, hg12]
      clear g10 hg11 hg12
      go_wp2_with fail
      go_ret
      exact ⟨rfl, HV10.out⟩
    · go_enter Tryd.func4, Tryd.ntmps4
      go_wp2_with fail
      refine hv0.mono ?_
      rintro e w1 ⟨rfl, hb1⟩
      have HB1 := hid_of (onB HBW.out hb1)
      clear hb1 hv0 hW
      obtain ⟨V1, hV1⟩ : ∃ V1, w1.alloc (.cells #[.int .i64 1, .int .i64 6] 28) = V1 := ⟨_, rfl⟩
      have HV1 : Hid (Below w.heap.size w V1) := by show Below w.heap.size w V1; rw [← hV1]; exact HB1.out.alloc HB1.out.size _
      have hg1 : V1.heap[w1.heap.size]? = some (.cells #[.int .i64 1, .int .i64 6] 28 (0, 0)) := by rw [← hV1]; exact heap_alloc_new _ _
      have u0 : V1.cell? ⟨w1.heap.size, 0, none⟩ = some (.int .i64 1) := by simp [World.cell?, hg1]
      have u1 : V1.cell? ⟨w1.heap.size, 1, none⟩ = some (.int .i64 6) := by simp [World.cell?, hg1]
      clear hg1
      have hs1 := swap_any A cap l V1 (HL.out.later HV1.out)
      rw [h0, errV_zero] at hs1
      obtain ⟨f1, f2, f3⟩ := swp_form h0
      obtain ⟨k1, k2⟩ := swp_val h0 N C
      obtain ⟨t1, t2⟩ := swp_twice h0
      obtain ⟨X, hX⟩ : ∃ X, swpL l = X := ⟨_, rfl⟩
      rw [hX] at hs1 f1 f3 k1 k2 t1 t2
      obtain ⟨Y, hY⟩ : ∃ Y, swpL X = Y := ⟨_, rfl⟩
      rw [hY] at t1 t2
      obtain ⟨T, hT⟩ : ∃ T, printT l = T := ⟨_, rfl⟩
      rw [hT] at t2
      have HX := hid_of f1
      have HK1 := hid_of k1
      have HK2 := hid_of k2
      have HT1 := hid_of t1
      have HT2 := hid_of t2
      have HT := hid_of hT
      have HY := hid_of hY
      have H0 := hid_of h0
      obtain ⟨R, hR⟩ : ∃ R, valC l N C = R := ⟨_, rfl⟩
      have HR := hid_of hR
      obtain ⟨ve, hvn⟩ : ∃ ve, valE l N C = ve := ⟨_, rfl⟩
      have HV : Hid (errV (valE l N C) = .iface 58 (.int .i64 ve)) := by show _ = _; rw [errV_some hve, hvn]
      have HCB := hid_of hcb
      obtain ⟨z1, z2⟩ := cst_val h0 hcb N C
      have Z1 := hid_of z1
      clear z1 z2
      clear hve hcb hvn
      clear f1 f2 f3 k1 k2 t1 t2 hX hY hT h0 hR
      go_wp2_with fail
      refine hs1.mono ?_
      rintro e w2 ⟨⟨A2, c2, rfl, hN2⟩, hb2⟩
      have HB2 := hid_of (onB HV1.out hb2)
      have HN2 := hid_of hN2
      have hs2 := swap_any A2 c2 X w2 hN2
      rw [HX.out, HY.out, errV_zero] at hs2
      clear hb2 hs1 hN2 u0 u1 hV1
      go_wp2_with fail
      refine hs2.mono ?_
      rintro e w3 ⟨⟨A3, c3, rfl, hN3⟩, hb3⟩
      have HB3 := hid_of (onB HB2.out hb3)
      have HN3 := hid_of hN3
      have HM3 := hid_of (HN2.out.later hb3)
      have hp3 := fprint_any A cap l w3 (HE.out.later HB3.out) (HL.out.later HB3.out)
      rw [H0.out, HT.out, errV_zero] at hp3
      clear hb3 hs2 hN3
      go_wp2_with fail
      refine hp3.mono ?_
      rintro e w4 ⟨rfl, hb4⟩
      have HB4 := hid_of (onB HB3.out hb4)
      have HM4 := hid_of (HM3.out.later hb4)
      have hp4 := fprint_any A3 c3 Y w4 (HE.out.later HB4.out) (HN3.out.later hb4)
      rw [HT1.out, HT2.out, errV_zero] at hp4
      clear hb4 hp3
      go_wp2_with fail
      refine hp4.mono ?_
      rintro e w5 ⟨rfl, hb5⟩
      have HB5 := hid_of (onB HB4.out hb5)
      have HM5 := hid_of (HM4.out.later hb5)
      have hc5 := const_any A cap l w5 (HL.out.later HB5.out)
      rw [H0.out, HCB.out, errV_zero] at hc5
      clear hb5 hp4
      go_wp2_with fail
      refine hc5.mono ?_
      rintro e w6 ⟨rfl, hb6⟩
      have HB6 := hid_of (onB HB5.out hb6)
      have HM6 := hid_of (HM5.out.later hb6)
      have hv6 := value_any A cap l An cn N Ac cc C w6 (HL.out.later HB6.out) (HN.out.later HB6.out) (HC.out.later HB6.out)
      rw [HR.out, HV.out] at hv6
      clear hb6 hc5
      go_wp2_with fail
      refine hv6.mono ?_
      rintro e w7 ⟨rfl, hb7⟩
      have HB7 := hid_of (onB HB6.out hb7)
      have HM7 := hid_of (HM6.out.later hb7)
      obtain ⟨V7, hV7⟩ : ∃ V7, w7.alloc (.cells #[.int .i64 R.1, .int .i64 R.2] 28) = V7 := ⟨_, rfl⟩
      have hb7' : Below w7.heap.size w7 V7 := by rw [← hV7]; exact (Below.refl _ _).alloc (Nat.le_refl _) _
      have g7 : V7.heap[w7.heap.size]? = some (.cells #[.int .i64 R.1, .int .i64 R.2] 28 (0, 0)) := by rw [← hV7]; exact heap_alloc_new _ _
      have HV7 := hid_of (onB HB7.out hb7')
      have G7 := hid_of g7
      have hv8 := value_any A2 c2 X An cn N Ac cc C V7 (HM7.out.later hb7') (HN.out.later HV7.out) (HC.out.later HV7.out)
      rw [HK2.out, HR.out, HK1.out, HV.out] at hv8
      clear hb7 hv6 hb7' g7
      go_wp2_with fail
      refine hv8.mono ?_
      rintro e w8 ⟨rfl, hb8⟩
      have HB8 := hid_of (onB HV7.out hb8)
      have hg8 := (hb8.block w7.heap.size (Array.getElem?_eq_some_iff.1 G7.out).1).trans G7.out
      clear hb8 hv8 hV7
      obtain ⟨V8, hV8⟩ : ∃ V8, w8.alloc (.cells #[.int .i64 R.1, .int .i64 R.2] 28) = V8 := ⟨_, rfl⟩
      have HV8 : Hid (Below w.heap.size w V8) := by show Below w.heap.size w V8; rw [← hV8]; exact HB8.out.alloc HB8.out.size _
      have hg9 : V8.heap[w7.heap.size]? = some (.cells #[.int .i64 R.1, .int .i64 R.2] 28 (0, 0)) := by rw [← hV8, heap_alloc_old _ _ (Array.getElem?_eq_some_iff.1 hg8).1]; exact hg8
      have hg10 : V8.heap[w8.heap.size]? = some (.cells #[.int .i64 R.1, .int .i64 R.2] 28 (0, 0)) := by rw [← hV8]; exact heap_alloc_new _ _
      have u0 : V8.cell? ⟨w7.heap.size, 0, none⟩ = some (.int .i64 R.1) := by simp [World.cell?, hg9]
      have u1 : V8.cell? ⟨w7.heap.size, 1, none⟩ = some (.int .i64 R.2) := by simp [World.cell?, hg9]
      have u2 : V8.cell? ⟨w8.heap.size, 0, none⟩ = some (.int .i64 R.1) := by simp [World.cell?, hg10]
      have u3 : V8.cell? ⟨w8.heap.size, 1, none⟩ = some (.int .i64 R.2) := by simp [World.cell?, hg10]
      have G9 := hid_of hg9
      clear hg8 hg9 hg10
      go_wp2_with fail
      go_quiet (fail)
      obtain ⟨V9, hV9⟩ : ∃ V9, V8.drewN nq = V9 := ⟨_, rfl⟩
      have hb9 : Below V8.heap.size V8 V9 := by rw [← hV9]; exact below_drewN (Below.refl _ _) _
      have HV9 : Hid (Below w.heap.size w V9) := onB HV8.out hb9
      have g9 := (hb9.block w7.heap.size (Array.getElem?_eq_some_iff.1 G9.out).1).trans G9.out
      have GA := hid_of g9
      have hv9 := value_nil A cap l V9 (HL.out.later HV9.out)
      obtain ⟨S, hS⟩ : ∃ S, valC l [] [] = S := ⟨_, rfl⟩
      rw [Z1.out, hS, errV_zero] at hv9
      clear hS
      rw [hV9]
      clear hV9 u0 u1 u2 u3 hV8 hb9 g9
      go_wp2_with fail
      refine hv9.mono ?_
      rintro e w10 ⟨rfl, hb10⟩
      have HB10 := hid_of (onB HV9.out hb10)
      have g10 := (hb10.block w7.heap.size (Array.getElem?_eq_some_iff.1 GA.out).1).trans GA.out
      clear hb10 hv9
      obtain ⟨V10, hV10⟩ : ∃ V10, w10.alloc (.cells #[.int .i64 S.1, .int .i64 S.2] 28) = V10 := ⟨_, rfl⟩
      have HV10 : Hid (Below w.heap.size w V10) := by show Below w.heap.size w V10; rw [← hV10]; exact HB10.out.alloc HB10.out.size _
      have hg11 : V10.heap[w7.heap.size]? = some (.cells #[.int .i64 R.1, .int .i64 R.2] 28 (0, 0)) := by rw [← hV10, heap_alloc_old _ _ (Array.getElem?_eq_some_iff.1 g10).1]; exact g10
      have hg12 : V10.heap[w10.heap.size]? = some (.cells #[.int .i64 S.1, .int .i64 S.2] 28 (0, 0)) := by rw [← hV10]; exact heap_alloc_new _ _
      have u0 : V10.cell? ⟨w7.heap.size, 0, none⟩ = some (.int .i64 R.1) := by simp [World.cell?, hg11]
      have u1 : V10.cell? ⟨w7.heap.size, 1, none⟩ = some (.int .i64 R.2) := by simp [World.cell?, hg11]
      have u2 : V10.cell? ⟨w10.heap.size, 0, none⟩ = some (.int .i64 S.1) := by simp [World.cell?, hg12]
      have u3 : V10.cell? ⟨w10.heap.size, 1, none⟩ = some (.int .i64 S.2) := by simp [World.cell?, hg12]
      clear g10 hg11 hg12
      go_wp2_with fail
      go_ret
      exact ⟨rfl, HV10.out⟩
end Go.Proofs.YtklfenojapgmnaeDoor
