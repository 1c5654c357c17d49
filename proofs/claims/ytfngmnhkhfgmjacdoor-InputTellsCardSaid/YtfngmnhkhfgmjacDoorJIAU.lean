/-
  Rows of entries of a call's own: what lies in them, and what lies there behind a store, a copy, a clear.
  The document's own count of an outline's cells (tallyref1.Size).
-/
import Derived.Laws.CopyRow
import Derived.Laws.CopyOwn
import Derived.Laws.IdiomCopy
import Derived.Test.YtfngmnhkhfgmjacDoorJIAS
import Derived.Test.YtfngmnhkhfgmjacDoorJIAT
namespace Go.Proofs.YtfngmnhkhfgmjacDoor
open Go Go.ChangeShapes Go.WideShapes Go.ChangeAt Go.RowKit
set_option maxRecDepth 20000
theorem ent_ne_int : (3 : Nat) ≠ 77 := by decide
theorem grown_trans {w w1 w2 : World} {r : Option Nat} (h : w.grownBy w1 r) (k : w1.grownBy w2 r) : w.grownBy w2 r :=
 ⟨k.os.trans h.os, k.tape.trans h.tape, k.output.trans h.output, Nat.le_trans h.size k.size, fun i hi hr => (k.block i (Nat.lt_of_lt_of_le hi h.size) hr).trans (h.block i hi hr)⟩
theorem grown_below {w w' : World} {r : Option Nat} (h : Below w.heap.size w w') : w.grownBy w' r := ⟨h.os, h.tape, h.output, h.size, fun i hi _ => h.block i hi⟩
theorem grown_drew {w w' : World} {r : Option Nat} (h : w.grownBy w' r) : w.grownBy w'.drew r := ⟨h.os, h.tape, h.output, h.size, h.block⟩
theorem grown_refl (w : World) (r : Option Nat) : w.grownBy w r := ⟨rfl, rfl, rfl, Nat.le_refl _, fun _ _ _ => rfl⟩
theorem grown_setRow (w : World) (g : Nat) (cs : Array Value) : w.grownBy (w.setRow g cs) (some g) :=
 ⟨rfl, rfl, rfl, by rw [setRow_size]; exact Nat.le_refl _, fun i _ hr => setRow_other w g i cs fun e => hr (by rw [e])⟩
theorem below_grown {B : Nat} {w0 w w' : World} {g : Nat} (h : Below B w0 w) (hg : w.grownBy w' (some g)) (hB : B ≤ w.heap.size) (hr : B ≤ g) : Below B w0 w' :=
 h.grown hg hB fun k hk => by cases hk; exact hr
def PlTy (w : World) (A : Option Addr) (c : Nat) (L : List Int) : Prop := L.length ≤ c ∧ (L = [] ∨ ∃ b o cs fr, A = some ⟨b, o, none⟩ ∧ w.heap[b]? = some (.cells cs 3 fr) ∧ ∀ j, j < L.length → w.cell? ⟨b, o + j, none⟩ = some (.int .i64 (L.getD j 0)))
theorem PlTy.pl {w : World} {A : Option Addr} {c : Nat} {L : List Int} (h : PlTy w A c L) : PlAt w A c L := by
 obtain ⟨h1, h2 | ⟨b, o, cs, fr, h2, h3, h4⟩⟩ := h
 ·exact ⟨h1, Or.inl h2⟩
 ·exact ⟨h1, Or.inr ⟨b, o, h2, (Array.getElem?_eq_some_iff.1 h3).1, h4⟩⟩
theorem PlTy.nil (w : World) (A : Option Addr) (c : Nat) : PlTy w A c [] := ⟨Nat.zero_le _, Or.inl rfl⟩
theorem PlTy.grown {w w' : World} {A : Option Addr} {c g : Nat} {L : List Int} {cur : Array Value} {fr : Nat × Nat} (h : PlTy w A c L) (hg : w.heap[g]? = some (.cells cur 77 fr)) (hG : w.grownBy w' (some g)) : PlTy w' A c L := by
 obtain ⟨h1, h2 | ⟨b, o, cs, fr', h2, h3, h4⟩⟩ := h
 ·exact ⟨h1, Or.inl h2⟩
 ·have hne : b ≠ g := fun e => by
   rw [e, hg] at h3
   simp only [Option.some.injEq, Obj.cells.injEq] at h3
   exact ent_ne_int h3.2.1.symm
  have hb : w'.heap[b]? = w.heap[b]? := hG.block b (Array.getElem?_eq_some_iff.1 h3).1 fun e => hne (by simpa using e)
  exact ⟨h1, Or.inr ⟨b, o, cs, fr', h2, hb.trans h3, fun j hj => (World.cell?_of_block (a := ⟨b, o + j, none⟩) hb).trans (h4 j hj)⟩⟩
theorem PlTy.later {w w' : World} {A : Option Addr} {c : Nat} {L : List Int} (h : PlTy w A c L) (hB : Below w.heap.size w w') : PlTy w' A c L := by
 obtain ⟨h1, h2 | ⟨b, o, cs, fr', h2, h3, h4⟩⟩ := h
 ·exact ⟨h1, Or.inl h2⟩
 ·have hb : w'.heap[b]? = w.heap[b]? := hB.block b (Array.getElem?_eq_some_iff.1 h3).1
  exact ⟨h1, Or.inr ⟨b, o, cs, fr', h2, hb.trans h3, fun j hj => (World.cell?_of_block (a := ⟨b, o + j, none⟩) hb).trans (h4 j hj)⟩⟩
theorem plty_own {w : World} {base : Nat} {v : Value} {L : List Int} (h : w.ownsRow base 3 1 v L.length (L.map (Value.int .i64))) : ∃ A c, v = .slice A L.length c ∧ PlTy w A c L := by
 rcases h.2 with ⟨rfl, h0⟩ | ⟨g, cap, cur, rfl, hb, hg, hc, _, _, _⟩
 ·have : L = [] := List.eq_nil_of_length_eq_zero h0
  subst this
  exact ⟨none, 0, rfl, PlTy.nil _ _ _⟩
 ·refine ⟨_, cap, rfl, hc, Or.inr ⟨g, 0, cur, _, rfl, hg, fun j hj => ?_⟩⟩
  have hx := h.cells (g := g) rfl j (.int .i64 (L.getD j 0)) (by simp [List.getD, List.getElem?_eq_getElem hj])
  have hadd : (⟨g, 0, none⟩ : Addr).add j = ⟨g, j, none⟩ := by unfold Addr.add; split <;> simp_all
  rw [hadd] at hx
  rw [Nat.zero_add]
  exact hx
def RowE (w : World) (g cap : Nat) (xs : List EnL) : Prop := (∃ cur : Array Value, w.heap[g]? = some (.cells cur 77 (0, 0)) ∧ cur.size = cap * 2 ∧ cur.toList.take (xs.length * 2) = cellsE xs) ∧ xs.length ≤ cap ∧ cap ≤ maxLen ∧ ∀ x ∈ xs, PlTy w x.A x.c x.e.pl
section
variable {w w' : World} {g cap : Nat} {xs : List EnL}
theorem RowE.lt (h : RowE w g cap xs) : g < w.heap.size := by
 obtain ⟨⟨cur, h1, _⟩, _⟩ := h
 exact (Array.getElem?_eq_some_iff.1 h1).1
theorem RowE.cells (h : RowE w g cap xs) : ∀ j u, (cellsE xs)[j]? = some u → w.cell? ⟨g, j, none⟩ = some u := by
 obtain ⟨⟨cur, h1, h2, h3⟩, _⟩ := h
 intro j u hj
 have hlt := (List.getElem?_eq_some_iff.1 hj).1
 rw [cellsE_len] at hlt
 rw [← h3, List.getElem?_take, if_pos hlt, Array.getElem?_toList] at hj
 simp [World.cell?, h1, hj]
theorem RowE.full (h : RowE w g cap xs) {j : Nat} (hj : j < cap * 2) : (w.cell? ⟨g, j, none⟩).isSome = true := by
 obtain ⟨⟨cur, h1, h2, h3⟩, _⟩ := h
 simp [World.cell?, h1, h2, hj]
theorem RowE.frozen (h : RowE w g cap xs) (j : Nat) : w.frozen? ⟨g, j, none⟩ = false := by
 obtain ⟨⟨cur, h1, _⟩, _⟩ := h
 simp [World.frozen?, h1]
theorem RowE.ens (h : RowE w g cap xs) : EnsAt w g 0 xs := ⟨h.lt, fun j u hj => by rw [Nat.zero_add]; exact h.cells j u hj, fun x hx => (h.2.2.2 x hx).pl⟩
theorem RowE.ensV (h : RowE w g cap xs) : EnsV w (some ⟨g, 0, none⟩) cap xs := ⟨h.2.1, by have := h.2.2.1; unfold maxLen at this; omega, Or.inr ⟨g, 0, rfl, h.ens⟩⟩
theorem RowE.later (h : RowE w g cap xs) (hB : Below w.heap.size w w') : RowE w' g cap xs := by
 have hlt := h.lt
 obtain ⟨⟨cur, h1, h2, h3⟩, h4, h5, h6⟩ := h
 exact ⟨⟨cur, (hB.block g hlt).trans h1, h2, h3⟩, h4, h5, fun x hx => (h6 x hx).later hB⟩
theorem RowE.own (h : RowE w g cap xs) {base : Nat} (hb : base ≤ g) : w.ownsRow base 77 2 (.slice (some ⟨g, 0, none⟩) xs.length cap) xs.length (cellsE xs) := by
 obtain ⟨⟨cur, h1, h2, h3⟩, h4, h5, h6⟩ := h
 exact ⟨cellsE_len xs, Or.inr ⟨g, cap, cur, rfl, hb, h1, h4, h5, h2, h3⟩⟩
theorem row_own {base : Nat} {v : Value} (h : w.ownsRow base 77 2 v xs.length (cellsE xs)) (hv : v ≠ .slice none 0 0) (hp : ∀ x ∈ xs, PlTy w x.A x.c x.e.pl) : ∃ g cap, v = .slice (some ⟨g, 0, none⟩) xs.length cap ∧ base ≤ g ∧ RowE w g cap xs := by
 rcases h.2 with ⟨h0, _⟩ | ⟨g, cap, cur, rfl, hb, hg, h4, h5, h2, h3⟩
 ·exact absurd h0 hv
 ·exact ⟨g, cap, rfl, hb, ⟨cur, hg, h2, h3⟩, h4, h5, hp⟩
theorem RowE.lay (h : RowE w g cap xs) {cs : List Value} {ys : List EnL} (hs : cs.length = cap * 2) (ht : cs.take (ys.length * 2) = cellsE ys) (hl : ys.length ≤ cap) (hp : ∀ y ∈ ys, PlTy w y.A y.c y.e.pl) : RowE (w.setRow g cs.toArray) g cap ys := by
 obtain ⟨⟨cur, h1, h2, h3⟩, h4, h5, h6⟩ := h
 exact ⟨⟨cs.toArray, setRow_heap w g cur _ _ _ h1, by simpa using hs, by simpa using ht⟩, hl, h5, fun y hy => (hp y hy).grown h1 (grown_setRow ..)⟩
end
theorem setCells_row (g : Nat) (t : TypeId) : ∀ (vs : List Value) (o : Nat) (cur : Array Value) (w : World), w.heap[g]? = some (.cells cur t (0, 0)) → o + vs.length ≤ cur.size → w.setCells g o vs = w.setRow g (cur.toList.take o ++ vs ++ cur.toList.drop (o + vs.length)).toArray
 | [], o, cur, w, hg, _ => by
  simp only [World.setCells, List.append_nil, List.length_nil, Nat.add_zero, List.take_append_drop, Array.toArray_toList]
  rw [setRow_self w g cur t (0, 0) hg]
 | v :: r, o, cur, w, hg, hl => by
  simp only [List.length_cons] at hl
  rw [World.setCells, setCell_eq_setRow w g o cur t (0, 0) v hg, setCells_row g t r (o + 1) (cur.setIfInBounds o v) _ (setRow_heap w g cur _ t _ hg) (by simp; omega), setRow_setRow]
  have e := list_seg_step cur.toList o v r (by simp; omega)
  congr 2
  simpa [Array.toList_setIfInBounds, Nat.add_assoc] using e
variable {P : Program}
theorem run_copy_k (k : Nat) (w : World) (dT sT ty elem : TypeId) (g o dLen dCap : Nat) (a : Addr) (sLen sCap : Nat) (cur : Array Value) (t : TypeId) (cs : List Value)
  (hu : P.underlying dT = some (.slice elem)) (hs : (P.info? elem).map (·.size) = some k)
  (hg : w.heap[g]? = some (.cells cur t (0, 0))) (hn : cs.length = Nat.min sLen dLen * k)
  (hsrc : ∀ j v, cs[j]? = some v → w.cell? (a.add j) = some v) (hfit : o + cs.length ≤ cur.size) (h1 : ∀ v ∈ cs, v.oneCell' = true) :
  (Builtin.copy_ #[dT, sT] ty #[.slice (some ⟨g, o, none⟩) dLen dCap, .slice (some a) sLen sCap]).run P w =
   .ok (goInt (Nat.min sLen dLen)) (w.setRow g (cur.toList.take o ++ cs ++ cur.toList.drop (o + cs.length)).toArray) := by
 have hl := run_loadCells_list (P := P) w a cs hsrc
 have hst := run_storeCells_at P g o t cs 0 cur w hg (by simpa using hfit) h1
 rw [hn] at hl
 cases hq : P.info? elem with
 | none => simp [hq] at hs
 | some i =>
  have hi : i.size = k := by simpa [hq] using hs
  simp [Builtin.copy_, run_underlying hu, Builtin.lenOf, Builtin.firstCells, sizeOf, typeInfo, hq, hi, hl, hst]
theorem run_clear_one (w : World) (t e ty : TypeId) (z x y : Value) (ht : P.underlying t = some (.slice e)) (hv : ∀ w, (zeroValue e).run P w = .ok z w) (hz : z.cells = #[x, y]) (hx : x.oneCell' = true) (hy : y.oneCell' = true) (g o c : Nat) (cur : Array Value) (u : TypeId) (hg : w.heap[g]? = some (.cells cur u (0, 0))) (hfit : o + 2 ≤ cur.size) :
  (Builtin.clear_ #[t] ty #[.slice (some ⟨g, o, none⟩) 1 c]).run P w = .ok (.tuple #[]) (w.setRow g (cur.toList.take o ++ [x, y] ++ cur.toList.drop (o + 2)).toArray) := by
 have hzc : (Builtin.zeroCells z.cells 1).toList = [x, y] := by
  rw [hz]
  apply List.ext_getElem
  ·simp [Builtin.zeroCells]
  ·intro i h1 h2
   have h3 : i = 0 ∨ i = 1 := by simp at h2; omega
   rcases h3 with rfl | rfl <;> simp [Builtin.zeroCells]
 have hst := run_storeCells_at P g o u [x, y] 0 cur w hg (by simpa using hfit) (by intro v hv'; simp at hv'; rcases hv' with rfl | rfl <;> assumption)
 simp only [Nat.add_zero] at hst
 simp [Builtin.clear_, run_underlying ht, hv, hzc, hst]
end Go.Proofs.YtfngmnhkhfgmjacDoor
namespace Go.Proofs.YtfngmnhkhfgmjacDoor
open Go.ChangeShapes Go.WideShapes Go.ChangeAt Go.RowKit
set_option maxRecDepth 20000
set_option maxHeartbeats 1000000 in
theorem osize_any (b o n cap : Nat) (D : Nat → Dm) (A : Nat → Option Addr) (C : Nat → Nat) (w : World) (hn : n ≤ 4) (hd : ∀ j, j < n → (D j).n ≤ 12) (hM : DimsAt w b o n D A C) : Calls Tryd.prog 68 #[.agg #[.slice (some ⟨b, o, none⟩) n cap]] w fun e w' => e = .returned (.int .i64 (prodN D n)) ∧ Below w.heap.size w w' := by
 have HB : Hid (DimsAt w b o n D A C) := hM
 have HD : Hid (∀ j, j < n → (D j).n ≤ 12) := hd
 clear hM hd
 have hS := ownOut_size w (some ⟨b, o, none⟩) n cap 24
 have hB0 := ownOut_below w (some ⟨b, o, none⟩) n cap 24
 have hA2 := ownOut_at w (some ⟨b, o, none⟩) n cap 24
 obtain ⟨W, hW⟩ : ∃ W, W = ownOut w (some ⟨b, o, none⟩) n cap 24 := ⟨_, rfl⟩
 rw [← hW] at hB0 hS hA2
 have HW : Hid (W = ownOut w (some ⟨b, o, none⟩) n cap 24) := hW
 have HA : Hid (W.cell? ⟨w.heap.size, 0, none⟩ = some (.slice (some ⟨b, o, none⟩) n cap)) := hA2
 have HB0 : Hid (Below w.heap.size w W) := hB0
 have hs8 : (n : Int) ≤ 4 := by omega
 clear hW hA2 hB0 hS
 go_enter Tryd.func68, Tryd.ntmps68
 go_wp2_with fail
 go_loopg [3, 4] n (fun g s3 s4 wr => ∃ (k : Nat), k ≤ n ∧ g = n - k ∧ s4 = .int .i64 k ∧ s3 = .int .i64 (prodN D k) ∧ wr = W)
 case atStart => exact ⟨0, Nat.zero_le _, rfl, rfl, rfl, by rw [HW.out]; rfl⟩
 case round =>
  obtain ⟨k, hk, rfl, rfl, rfl, rfl⟩ := hrel
  have c0 := HA.out
  by_cases hlt : k < n
  ·obtain ⟨h0, h1, h2, -⟩ := (HB.out.later HB0.out).2 k hlt
   have hki : (k : Int) < (n : Int) := by omega
   have hp1 : prodN D (k + 1) ≤ 20736 := prod_small (fun j hj => HD.out j (by omega)) (by omega)
   have hp2 : (prodN D (k + 1) : Int) = (prodN D k : Int) * ((D k).n : Int) := by rw [prodN]; exact Int.natCast_mul _ _
   have hp3 : 0 ≤ (prodN D k : Int) * ((D k).n : Int) := by omega
   have hp4 : (prodN D k : Int) * ((D k).n : Int) ≤ 20736 := by omega
   have HP : Hid ((prodN D (k + 1) : Int) = (prodN D k : Int) * ((D k).n : Int)) := hp2
   clear hp1 hp2
   go_wp2_with fail
   go_roundg (n - (k + 1))
   case measure => omega
   case rel => exact ⟨k + 1, by omega, rfl, by go_num, by rw [HP.out], rfl⟩
  ·have hke : k = n := by omega
   subst hke
   go_wp2_with fail
   go_ret
   exact ⟨rfl, HB0.out⟩
end Go.Proofs.YtfngmnhkhfgmjacDoor
