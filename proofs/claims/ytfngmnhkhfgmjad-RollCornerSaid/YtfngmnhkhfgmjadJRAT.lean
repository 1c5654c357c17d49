/-
  All parts together, on plain data: how a place counts in another one, what comes of entries at a place, and that a number more is as much more.
  Dims of a whole and so many parts, and outlines of such dims, on plain data: when they are right, how many cells they have.
  Rows of entries of a call's own: what lies in them, and what lies there behind a store, a copy, a clear.
  All parts together, on plain data: how the members of a dim count in one of them, laid out; the leafs of a place, dim by dim, and that these are the places of the outline, in order, that are leafs of it.
-/
import Derived.Laws.CopyRow
import Derived.Laws.CopyOwn
import Derived.Laws.IdiomCopy
import Derived.Test.YtfngmnhkhfgmjadJRAS
namespace Go.Proofs.Ytfngmnhkhfgmjad
def inTo (D : Nat → Dm) (p q : List Int) : Nat → Bool
 | 0 => true
 | k + 1 => inTo D p q k && inB (pathOf (D k).mem (q.getD k 0)) (p.getD k 0)
def pwTo (D : Nat → Dm) (p q : List Int) : Nat → Int
 | 0 => 1
 | k + 1 => pwTo D p q k * weightOf (D k).mem (p.getD k 0) (q.getD k 0)
theorem pwTo_out {D : Nat → Dm} {p q : List Int} {k : Nat} (h : inTo D p q k = false) : pwTo D p q k = 0 := by
 induction k with
 | zero => simp [inTo] at h
 | succ k ih =>
  simp only [inTo, Bool.and_eq_false_iff] at h
  rcases h with h | h
  ·rw [pwTo, ih h, Int.zero_mul]
  ·have h1 : p.getD k 0 ∉ pathOf (D k).mem (q.getD k 0) := by unfold inB at h; exact of_decide_eq_false h
   rw [pwTo, weightOf, wgt_out _ h1, Int.mul_zero]
theorem weight_small {D : Nat → Dm} {n : Nat} {q : List Int} (hq : InO D n q) {k : Nat} (hk : k < n) (i : Int) : -1 ≤ weightOf (D k).mem i (q.getD k 0) ∧ weightOf (D k).mem i (q.getD k 0) ≤ 1 := by
 have hd := (allErr_right hq.right).2 k hk
 have hlo := hq.lo k hk
 have hhi := hq.hi k hk
 have ht : Tr (D k).mem (D k).n := Tr.of hd
 refine wgt_small (Sg.of hd) i _ (fun j hj => ?_) 1 (by omega)
 have := pathOf_mem ht (D k).n (q.getD k 0) hhi hhi j hj
 omega
theorem pwTo_small {D : Nat → Dm} {n : Nat} {q : List Int} (hq : InO D n q) (p : List Int) : ∀ k, k ≤ n → -1 ≤ pwTo D p q k ∧ pwTo D p q k ≤ 1
 | 0, _ => by simp [pwTo]
 | k + 1, hk => by
  rw [pwTo]
  exact small_mul (pwTo_small hq p k (by omega)) (weight_small hq (by omega) _)
def cntR (D : Nat → Dm) (n : Nat) (p : List Int) (e : En) : Bool := inTo D p e.pl n && !(pwTo D p e.pl n == 0)
def valR (D : Nat → Dm) (n : Nat) (p : List Int) (e : En) : Int := pwTo D p e.pl n * e.n
def rollN (D : Nat → Dm) (n : Nat) (p : List Int) : List En → Int
 | [] => 0
 | e :: r => (if cntR D n p e = true then valR D n p e else 0) + rollN D n p r
def rollK (D : Nat → Dm) (n : Nat) (p : List Int) (l : List En) : Int := if l.any (cntR D n p) = true then 1 else 0
def rollV (D : Nat → Dm) (n : Nat) (l : List En) (p : List Int) : Int × Int := (rollK D n p l, rollN D n p l)
def rollStep (D : Nat → Dm) (n : Nat) (p : List Int) (c : Int × Int) (e : En) : Int × Int := if cntR D n p e = true then (1, c.2 + valR D n p e) else c
theorem roll_steps (D : Nat → Dm) (n : Nat) (p : List Int) (l : List En) : ∀ c : Int × Int, l.foldl (rollStep D n p) c = (if l.any (cntR D n p) = true then 1 else c.1, c.2 + rollN D n p l) := by
 induction l with
 | nil => intro c; simp [rollN]
 | cons e r ih =>
  intro c
  rw [List.foldl_cons, ih, rollStep, rollN, List.any_cons]
  by_cases h : cntR D n p e = true
  ·simp only [h, Bool.true_or, if_true]
   refine Prod.ext ?_ (by simp only; omega)
   simp only
   split <;> rfl
  ·simp only [h, Bool.false_eq_true, if_false] at *
   simp
theorem roll_fold (D : Nat → Dm) (n : Nat) (l : List En) (p : List Int) : l.foldl (rollStep D n p) (0, 0) = rollV D n l p := by
 rw [roll_steps]
 unfold rollV rollK
 simp
theorem rollN_append (D : Nat → Dm) (n : Nat) (p : List Int) (a b : List En) : rollN D n p (a ++ b) = rollN D n p a + rollN D n p b := by
 induction a with
 | nil => simp [rollN]
 | cons e r ih => rw [List.cons_append, rollN, rollN, ih]; omega
theorem roll_bound {D : Nat → Dm} {n : Nat} (p : List Int) : ∀ l : List En, (∀ e ∈ l, InO D n e.pl ∧ leafV D n e.pl = true ∧ numOk e.n = true) → -1000000 * (l.length : Int) ≤ rollN D n p l ∧ rollN D n p l ≤ 1000000 * (l.length : Int)
 | [], _ => by simp [rollN]
 | e :: r, h => by
  obtain ⟨h1, -, h2⟩ := h e (List.mem_cons_self ..)
  have ih := roll_bound p r fun x hx => h x (List.mem_cons_of_mem _ hx)
  have hw := pwTo_small h1 p n (Nat.le_refl _)
  have hn : -1000000 ≤ e.n ∧ e.n ≤ 1000000 := by simpa [numOk] using h2
  have hv : -1000000 ≤ valR D n p e ∧ valR D n p e ≤ 1000000 := by
   unfold valR
   have h3 : pwTo D p e.pl n = -1 ∨ pwTo D p e.pl n = 0 ∨ pwTo D p e.pl n = 1 := by omega
   rcases h3 with h3 | h3 | h3 <;> rw [h3] <;> omega
  rw [rollN, List.length_cons]
  split <;> omega
end Go.Proofs.Ytfngmnhkhfgmjad
namespace Go.Proofs.Ytfngmnhkhfgmjad
def lettF (k : Nat) : ByteArray := ⟨#[97, (97 + k).toUInt8]⟩
def flatM (k : Nat) : Mem := match k with
 | 0 => ⟨⟨#[97, 108, 108]⟩, -1, 0, ⟨#[]⟩⟩
 | k + 1 => ⟨lettF k, 0, 1, ⟨#[]⟩⟩
def flatD (name : ByteArray) (n : Nat) : Dm := ⟨name, 0, n + 1, flatM⟩
def squareD (n : Nat) (i : Nat) : Dm := flatD (if i = 0 then ⟨#[120]⟩ else ⟨#[121]⟩) n
theorem square_all : ∀ n : Fin 11, (allErr (squareD n.val) 2).2.2 = 0 ∧ prodN (squareD n.val) 2 = (n.val + 1) * (n.val + 1) := by decide +kernel
end Go.Proofs.Ytfngmnhkhfgmjad
namespace Go.Proofs.Ytfngmnhkhfgmjad
open Go Go.ChangeShapes Go.WideShapes Go.ChangeAt Go.RowKit
set_option maxRecDepth 20000
theorem ent_ne_int : (3 : Nat) ≠ 40 := by decide
theorem grown_trans {w w1 w2 : World} {r : Option Nat} (h : w.grownBy w1 r) (k : w1.grownBy w2 r) : w.grownBy w2 r :=
 ⟨k.os.trans h.os, k.tape.trans h.tape, k.output.trans h.output, Nat.le_trans h.size k.size, fun i hi hr => (k.block i (Nat.lt_of_lt_of_le hi h.size) hr).trans (h.block i hi hr)⟩
theorem grown_below {w w' : World} {r : Option Nat} (h : Below w.heap.size w w') : w.grownBy w' r := ⟨h.os, h.tape, h.output, h.size, fun i hi _ => h.block i hi⟩
theorem grown_drew {w w' : World} {r : Option Nat} (h : w.grownBy w' r) : w.grownBy w'.drew r := ⟨h.os, h.tape, h.output, h.size, h.block⟩
theorem grown_refl (w : World) (r : Option Nat) : w.grownBy w r := ⟨rfl, rfl, rfl, Nat.le_refl _, fun _ _ _ => rfl⟩
theorem grown_setRow (w : World) (g : Nat) (cs : Array Value) : w.grownBy (w.setRow g cs) (some g) :=
 ⟨rfl, rfl, rfl, by rw [setRow_size]; exact Nat.le_refl _, fun i _ hr => setRow_other w g i cs fun e => hr (by rw [e])⟩
theorem below_grown {B : Nat} {w0 w w' : World} {g : Nat} (h : Below B w0 w) (hg : w.grownBy w' (some g)) (hB : B ≤ w.heap.size) (hr : B ≤ g) : Below B w0 w' :=
 h.grown hg hB fun k hk => by cases hk; exact hr
def PlTy (w : World) (A : Option Addr) (c : Nat) (L : List Int) : Prop := L.length ≤ c ∧ (L = [] ∨ ∃ b o cs fr, A = some ⟨b, o, none⟩ ∧ w.heap[b]? = some (.cells cs 3 fr) ∧ ∀ j, j < L.length → w.cell? ⟨b, o + j, none⟩ = some (.int .i64 (L.getD j 0)))
theorem PlTy.pl {w : World} {A : Option Addr} {c : Nat} {L : List Int} (h : PlTy w A c L) : PlAt w A c L := by
 obtain ⟨h1, h2 | ⟨b, o, cs, fr, h2, h3, h4⟩⟩ := h
 ·exact ⟨h1, Or.inl h2⟩
 ·exact ⟨h1, Or.inr ⟨b, o, h2, (Array.getElem?_eq_some_iff.1 h3).1, h4⟩⟩
theorem PlTy.nil (w : World) (A : Option Addr) (c : Nat) : PlTy w A c [] := ⟨Nat.zero_le _, Or.inl rfl⟩
theorem PlTy.grown {w w' : World} {A : Option Addr} {c g : Nat} {L : List Int} {cur : Array Value} {fr : Nat × Nat} (h : PlTy w A c L) (hg : w.heap[g]? = some (.cells cur 40 fr)) (hG : w.grownBy w' (some g)) : PlTy w' A c L := by
 obtain ⟨h1, h2 | ⟨b, o, cs, fr', h2, h3, h4⟩⟩ := h
 ·exact ⟨h1, Or.inl h2⟩
 ·have hne : b ≠ g := fun e => by
   rw [e, hg] at h3
   simp only [Option.some.injEq, Obj.cells.injEq] at h3
   exact ent_ne_int h3.2.1.symm
  have hb : w'.heap[b]? = w.heap[b]? := hG.block b (Array.getElem?_eq_some_iff.1 h3).1 fun e => hne (by simpa using e)
  exact ⟨h1, Or.inr ⟨b, o, cs, fr', h2, hb.trans h3, fun j hj => (World.cell?_of_block (a := ⟨b, o + j, none⟩) hb).trans (h4 j hj)⟩⟩
theorem PlTy.later {w w' : World} {A : Option Addr} {c : Nat} {L : List Int} (h : PlTy w A c L) (hB : Below w.heap.size w w') : PlTy w' A c L := by
 obtain ⟨h1, h2 | ⟨b, o, cs, fr', h2, h3, h4⟩⟩ := h
 ·exact ⟨h1, Or.inl h2⟩
 ·have hb : w'.heap[b]? = w.heap[b]? := hB.block b (Array.getElem?_eq_some_iff.1 h3).1
  exact ⟨h1, Or.inr ⟨b, o, cs, fr', h2, hb.trans h3, fun j hj => (World.cell?_of_block (a := ⟨b, o + j, none⟩) hb).trans (h4 j hj)⟩⟩
theorem plty_own {w : World} {base : Nat} {v : Value} {L : List Int} (h : w.ownsRow base 3 1 v L.length (L.map (Value.int .i64))) : ∃ A c, v = .slice A L.length c ∧ PlTy w A c L := by
 rcases h.2 with ⟨rfl, h0⟩ | ⟨g, cap, cur, rfl, hb, hg, hc, _, _, _⟩
 ·have : L = [] := List.eq_nil_of_length_eq_zero h0
  subst this
  exact ⟨none, 0, rfl, PlTy.nil _ _ _⟩
 ·refine ⟨_, cap, rfl, hc, Or.inr ⟨g, 0, cur, _, rfl, hg, fun j hj => ?_⟩⟩
  have hx := h.cells (g := g) rfl j (.int .i64 (L.getD j 0)) (by simp [List.getD, List.getElem?_eq_getElem hj])
  have hadd : (⟨g, 0, none⟩ : Addr).add j = ⟨g, j, none⟩ := by unfold Addr.add; split <;> simp_all
  rw [hadd] at hx
  rw [Nat.zero_add]
  exact hx
def RowE (w : World) (g cap : Nat) (xs : List EnL) : Prop := (∃ cur : Array Value, w.heap[g]? = some (.cells cur 40 (0, 0)) ∧ cur.size = cap * 2 ∧ cur.toList.take (xs.length * 2) = cellsE xs) ∧ xs.length ≤ cap ∧ cap ≤ maxLen ∧ ∀ x ∈ xs, PlTy w x.A x.c x.e.pl
section
variable {w w' : World} {g cap : Nat} {xs : List EnL}
theorem RowE.lt (h : RowE w g cap xs) : g < w.heap.size := by
 obtain ⟨⟨cur, h1, _⟩, _⟩ := h
 exact (Array.getElem?_eq_some_iff.1 h1).1
theorem RowE.cells (h : RowE w g cap xs) : ∀ j u, (cellsE xs)[j]? = some u → w.cell? ⟨g, j, none⟩ = some u := by
 obtain ⟨⟨cur, h1, h2, h3⟩, _⟩ := h
 intro j u hj
 have hlt := (List.getElem?_eq_some_iff.1 hj).1
 rw [cellsE_len] at hlt
 rw [← h3, List.getElem?_take, if_pos hlt, Array.getElem?_toList] at hj
 simp [World.cell?, h1, hj]
theorem RowE.full (h : RowE w g cap xs) {j : Nat} (hj : j < cap * 2) : (w.cell? ⟨g, j, none⟩).isSome = true := by
 obtain ⟨⟨cur, h1, h2, h3⟩, _⟩ := h
 simp [World.cell?, h1, h2, hj]
theorem RowE.frozen (h : RowE w g cap xs) (j : Nat) : w.frozen? ⟨g, j, none⟩ = false := by
 obtain ⟨⟨cur, h1, _⟩, _⟩ := h
 simp [World.frozen?, h1]
theorem RowE.ens (h : RowE w g cap xs) : EnsAt w g 0 xs := ⟨h.lt, fun j u hj => by rw [Nat.zero_add]; exact h.cells j u hj, fun x hx => (h.2.2.2 x hx).pl⟩
theorem RowE.ensV (h : RowE w g cap xs) : EnsV w (some ⟨g, 0, none⟩) cap xs := ⟨h.2.1, by have := h.2.2.1; unfold maxLen at this; omega, Or.inr ⟨g, 0, rfl, h.ens⟩⟩
theorem RowE.later (h : RowE w g cap xs) (hB : Below w.heap.size w w') : RowE w' g cap xs := by
 have hlt := h.lt
 obtain ⟨⟨cur, h1, h2, h3⟩, h4, h5, h6⟩ := h
 exact ⟨⟨cur, (hB.block g hlt).trans h1, h2, h3⟩, h4, h5, fun x hx => (h6 x hx).later hB⟩
theorem RowE.own (h : RowE w g cap xs) {base : Nat} (hb : base ≤ g) : w.ownsRow base 40 2 (.slice (some ⟨g, 0, none⟩) xs.length cap) xs.length (cellsE xs) := by
 obtain ⟨⟨cur, h1, h2, h3⟩, h4, h5, h6⟩ := h
 exact ⟨cellsE_len xs, Or.inr ⟨g, cap, cur, rfl, hb, h1, h4, h5, h2, h3⟩⟩
theorem row_own {base : Nat} {v : Value} (h : w.ownsRow base 40 2 v xs.length (cellsE xs)) (hv : v ≠ .slice none 0 0) (hp : ∀ x ∈ xs, PlTy w x.A x.c x.e.pl) : ∃ g cap, v = .slice (some ⟨g, 0, none⟩) xs.length cap ∧ base ≤ g ∧ RowE w g cap xs := by
 rcases h.2 with ⟨h0, _⟩ | ⟨g, cap, cur, rfl, hb, hg, h4, h5, h2, h3⟩
 ·exact absurd h0 hv
 ·exact ⟨g, cap, rfl, hb, ⟨cur, hg, h2, h3⟩, h4, h5, hp⟩
theorem RowE.lay (h : RowE w g cap xs) {cs : List Value} {ys : List EnL} (hs : cs.length = cap * 2) (ht : cs.take (ys.length * 2) = cellsE ys) (hl : ys.length ≤ cap) (hp : ∀ y ∈ ys, PlTy w y.A y.c y.e.pl) : RowE (w.setRow g cs.toArray) g cap ys := by
 obtain ⟨⟨cur, h1, h2, h3⟩, h4, h5, h6⟩ := h
 exact ⟨⟨cs.toArray, setRow_heap w g cur _ _ _ h1, by simpa using hs, by simpa using ht⟩, hl, h5, fun y hy => (hp y hy).grown h1 (grown_setRow ..)⟩
end
theorem setCells_row (g : Nat) (t : TypeId) : ∀ (vs : List Value) (o : Nat) (cur : Array Value) (w : World), w.heap[g]? = some (.cells cur t (0, 0)) → o + vs.length ≤ cur.size → w.setCells g o vs = w.setRow g (cur.toList.take o ++ vs ++ cur.toList.drop (o + vs.length)).toArray
 | [], o, cur, w, hg, _ => by
  simp only [World.setCells, List.append_nil, List.length_nil, Nat.add_zero, List.take_append_drop, Array.toArray_toList]
  rw [setRow_self w g cur t (0, 0) hg]
 | v :: r, o, cur, w, hg, hl => by
  simp only [List.length_cons] at hl
  rw [World.setCells, setCell_eq_setRow w g o cur t (0, 0) v hg, setCells_row g t r (o + 1) (cur.setIfInBounds o v) _ (setRow_heap w g cur _ t _ hg) (by simp; omega), setRow_setRow]
  have e := list_seg_step cur.toList o v r (by simp; omega)
  congr 2
  simpa [Array.toList_setIfInBounds, Nat.add_assoc] using e
variable {P : Program}
theorem run_copy_k (k : Nat) (w : World) (dT sT ty elem : TypeId) (g o dLen dCap : Nat) (a : Addr) (sLen sCap : Nat) (cur : Array Value) (t : TypeId) (cs : List Value)
  (hu : P.underlying dT = some (.slice elem)) (hs : (P.info? elem).map (·.size) = some k)
  (hg : w.heap[g]? = some (.cells cur t (0, 0))) (hn : cs.length = Nat.min sLen dLen * k)
  (hsrc : ∀ j v, cs[j]? = some v → w.cell? (a.add j) = some v) (hfit : o + cs.length ≤ cur.size) (h1 : ∀ v ∈ cs, v.oneCell' = true) :
  (Builtin.copy_ #[dT, sT] ty #[.slice (some ⟨g, o, none⟩) dLen dCap, .slice (some a) sLen sCap]).run P w =
   .ok (goInt (Nat.min sLen dLen)) (w.setRow g (cur.toList.take o ++ cs ++ cur.toList.drop (o + cs.length)).toArray) := by
 have hl := run_loadCells_list (P := P) w a cs hsrc
 have hst := run_storeCells_at P g o t cs 0 cur w hg (by simpa using hfit) h1
 rw [hn] at hl
 cases hq : P.info? elem with
 | none => simp [hq] at hs
 | some i =>
  have hi : i.size = k := by simpa [hq] using hs
  simp [Builtin.copy_, run_underlying hu, Builtin.lenOf, Builtin.firstCells, sizeOf, typeInfo, hq, hi, hl, hst]
theorem run_clear_one (w : World) (t e ty : TypeId) (z x y : Value) (ht : P.underlying t = some (.slice e)) (hv : ∀ w, (zeroValue e).run P w = .ok z w) (hz : z.cells = #[x, y]) (hx : x.oneCell' = true) (hy : y.oneCell' = true) (g o c : Nat) (cur : Array Value) (u : TypeId) (hg : w.heap[g]? = some (.cells cur u (0, 0))) (hfit : o + 2 ≤ cur.size) :
  (Builtin.clear_ #[t] ty #[.slice (some ⟨g, o, none⟩) 1 c]).run P w = .ok (.tuple #[]) (w.setRow g (cur.toList.take o ++ [x, y] ++ cur.toList.drop (o + 2)).toArray) := by
 have hzc : (Builtin.zeroCells z.cells 1).toList = [x, y] := by
  rw [hz]
  apply List.ext_getElem
  ·simp [Builtin.zeroCells]
  ·intro i h1 h2
   have h3 : i = 0 ∨ i = 1 := by simp at h2; omega
   rcases h3 with rfl | rfl <;> simp [Builtin.zeroCells]
 have hst := run_storeCells_at P g o u [x, y] 0 cur w hg (by simpa using hfit) (by intro v hv'; simp at hv'; rcases hv' with rfl | rfl <;> assumption)
 simp only [Nat.add_zero] at hst
 simp [Builtin.clear_, run_underlying ht, hv, hzc, hst]
end Go.Proofs.Ytfngmnhkhfgmjad
namespace Go.Proofs.Ytfngmnhkhfgmjad
def lfs (D : Nat → Dm) (p : List Int) (i : Nat) : List Int := leafsOf (D i).mem (D i).n (p.getD i 0)
def cnts (d : Dm) (i : Int) (X : List Int) : List Int := (List.range d.n).map fun (k : Nat) => if (k : Int) ∈ X then weightOf d.mem i (k : Int) else 0
theorem cnts_len (d : Dm) (i : Int) (X : List Int) : (cnts d i X).length = d.n := by simp [cnts]
theorem cnts_nil (d : Dm) (i : Int) : cnts d i [] = List.replicate d.n 0 := by
 apply List.ext_getElem
 ·simp [cnts]
 ·intro j h1 h2; simp [cnts]
theorem cnts_at {d : Dm} {i : Int} {X : List Int} {k : Nat} (hk : k < d.n) : (cnts d i X).getD k 0 = if (k : Int) ∈ X then weightOf d.mem i k else 0 := by
 simp [cnts, List.getD, hk]
theorem cnts_set {d : Dm} {i : Int} {X : List Int} {k : Nat} : (cnts d i X).set k (weightOf d.mem i k) = cnts d i (X ++ [(k : Int)]) := by
 apply List.ext_getElem
 ·simp [cnts]
 ·intro j h1 h2
  rw [List.getElem_set]
  by_cases e : k = j
  ·subst e; simp [cnts]
  ·have e' : ¬ ((j : Int) = (k : Int)) := by omega
   rw [if_neg e]; simp [cnts, e']
theorem sel_in {p : Nat → Bool} {k m : Nat} (hm : m < k) (hp : p m = true) : (m : Int) ∈ selTo p k := by
 induction k with
 | zero => omega
 | succ k ih =>
  by_cases e : m = k
  ·subst e; rw [selTo_hit hp]; simp
  ·have h1 := ih (by omega)
   cases hk : p k
   ·rw [selTo_miss hk]; exact h1
   ·rw [selTo_hit hk]; simp [h1]
theorem lfs_mem {D : Nat → Dm} {p : List Int} {i : Nat} : ∀ j ∈ lfs D p i, ∃ m : Nat, j = m ∧ m < (D i).n ∧ leafIn (D i).mem (D i).n (p.getD i 0) m = true := selTo_mem
theorem lfs_len (D : Nat → Dm) (p : List Int) (i : Nat) : (lfs D p i).length ≤ (D i).n := selTo_len _ _
def wts (D : Nat → Dm) (p : List Int) (i : Nat) : List Int := cnts (D i) (p.getD i 0) (lfs D p i)
theorem wts_at {D : Nat → Dm} {p : List Int} {i k : Nat} (hk : k < (D i).n) (hl : leafB (D i).mem (D i).n k = true) : (wts D p i).getD k 0 = weightOf (D i).mem (p.getD i 0) k := by
 unfold wts
 rw [cnts_at hk]
 by_cases h : (k : Int) ∈ lfs D p i
 ·rw [if_pos h]
 ·rw [if_neg h]
  have h1 : inB (pathOf (D i).mem k) (p.getD i 0) = false := by
   cases hb : inB (pathOf (D i).mem k) (p.getD i 0)
   ·rfl
   ·exact absurd (sel_in hk (by unfold leafIn; rw [hl, hb]; rfl)) h
  have h2 : p.getD i 0 ∉ pathOf (D i).mem k := by unfold inB at h1; exact of_decide_eq_false h1
  rw [weightOf, wgt_out _ h2]
theorem wts_small {D : Nat → Dm} {n : Nat} (hR : (allErr D n).2.2 = 0) (p : List Int) {i : Nat} (hi : i < n) (k : Nat) : -1 ≤ (wts D p i).getD k 0 ∧ (wts D p i).getD k 0 ≤ 1 := by
 by_cases hk : k < (D i).n
 ·unfold wts
  rw [cnts_at hk]
  split
  ·have hd := (allErr_right hR).2 i hi
   refine wgt_small (Sg.of hd) _ _ (fun j hj => ?_) 1 (by omega)
   have := pathOf_mem (Tr.of hd) (D i).n k (by omega) (by omega) j hj
   omega
  ·omega
 ·have : (wts D p i).getD k 0 = 0 := by unfold wts; rw [List.getD_eq_getElem?_getD, List.getElem?_eq_none (by rw [cnts_len]; omega)]; rfl
  rw [this]; omega
def prTo (R : Nat → List Int) (q : List Int) : Nat → Int
 | 0 => 1
 | k + 1 => prTo R q k * (R k).getD (q.getD k 0).toNat 0
theorem leaf_each {D : Nat → Dm} {n : Nat} {q : List Int} (h : leafV D n q = true) : ∀ k, k < n → leafB (D k).mem (D k).n (q.getD k 0).toNat = true := by
 unfold leafV at h
 split at h
 ·intro k hk
  cases hb : leafB (D k).mem (D k).n (q.getD k 0).toNat
  ·have h1 : ∀ m i, i ≤ k → k < i + m → 0 ≤ findFrom (notLeaf D q) m i := by
    intro m
    induction m with
    | zero => intro i h1 h2; omega
    | succ m ih =>
     intro i h1 h2
     cases hn : notLeaf D q i
     ·rw [findFrom_miss _ hn]
      refine ih (i + 1) ?_ (by omega)
      rcases Nat.lt_or_ge i k with h3 | h3
      ·omega
      ·have : i = k := by omega
       subst this
       unfold notLeaf at hn
       rw [hb] at hn
       cases hn
     ·rw [findFrom_hit _ hn]; omega
   have := h1 n 0 (by omega) (by omega)
   rw [decide_eq_true this] at h
   cases h
  ·rfl
 ·cases h
theorem pr_wts {D : Nat → Dm} {n : Nat} {q : List Int} (hq : InO D n q) (hl : leafV D n q = true) (p : List Int) : ∀ k, k ≤ n → prTo (wts D p) q k = pwTo D p q k
 | 0, _ => rfl
 | k + 1, hk => by
  have hlo := hq.lo k (by omega)
  have hhi := hq.hi k (by omega)
  rw [prTo, pwTo, pr_wts hq hl p k (by omega), wts_at (by omega) (leaf_each hl k (by omega)), show ((q.getD k 0).toNat : Int) = q.getD k 0 by omega]
theorem prTo_small {D : Nat → Dm} {n : Nat} (hR : (allErr D n).2.2 = 0) (p q : List Int) : ∀ k, k ≤ n → -1 ≤ prTo (wts D p) q k ∧ prTo (wts D p) q k ≤ 1
 | 0, _ => by simp [prTo]
 | k + 1, hk => by
  rw [prTo]
  exact small_mul (prTo_small hR p q k (by omega)) (wts_small hR p (by omega) _)
theorem cnt_pw {D : Nat → Dm} {n : Nat} {p : List Int} {e : En} : cntR D n p e = !(pwTo D p e.pl n == 0) := by
 unfold cntR
 cases h : inTo D p e.pl n
 ·rw [pwTo_out h]; rfl
 ·rfl
theorem roll_none {D : Nat → Dm} {n : Nat} {p : List Int} : ∀ {l : List En}, l.any (cntR D n p) = false → rollN D n p l = 0
 | [], _ => rfl
 | e :: r, h => by
  rw [List.any_cons, Bool.or_eq_false_iff] at h
  rw [rollN, roll_none h.2, if_neg (by rw [h.1]; simp)]
  rfl
end Go.Proofs.Ytfngmnhkhfgmjad
