/-
 What the document's own Right, Cube, Size, Members answer, in whatever memory.
 All dims folded in an order: what eachOnce and All of package fold answer, called in whatever memory.
 A place with another member, what is written, and whether an order names each dim once, as the document reckons them: what its With, Written and Each answer, called in whatever memory.
 What the document's own Told answers, in whatever memory: the numbers of the places that a place needs, rising.
 Cells folded by a dim, as the document reckons it: what its Parts, Each and Fold answer, called in whatever memory.
-/
import Derived.Test.YtjffbmejobjmjafGreatDoorJTAZ
import Derived.Test.YtjffbmejobjmjafGreatDoorJTBK
import Derived.Test.YtjffbmejobjmjafGreatDoorJTBL
import Derived.Test.YtjffbmejobjmjafGreatDoorJTBJ
import Derived.Test.YtjffbmejobjmjafGreatDoorJTAQ
import Derived.Test.YtjffbmejobjmjafGreatDoorJTAY
import Derived.Test.YtjffbmejobjmjafGreatDoorJTAM
import Derived.Test.YtjffbmejobjmjafGreatDoorJTAS
import Derived.Deep.QuietTactic
import Derived.BigQuiet
import Derived.Test.YtjffbmejobjmjafGreatDoorJTBN
import Derived.Test.YtjffbmejobjmjafGreatDoorJTAT
import Derived.Deep.RegionLaw
import Derived.Deep.RegionHeld3
import Derived.Deep.DeepCutAuto
namespace Go.Proofs.YtjffbmejobjmjafGreatDoor
open Go.ChangeShapes Go.WideShapes Go.ChangeAt Go.RowKit
set_option maxRecDepth 20000

theorem sright_any (A0 : Option Addr) (cap n : Nat) (D : Nat → Dm) (A : Nat → Option Addr) (C : Nat → Nat) (w : World) (hM : DimsV w A0 cap n D A C) : Calls Tryz.prog 18 #[.agg #[.slice A0 n cap]] w fun e w' => e = .returned (.int .i64 (ruErr D n).2.2) ∧ Below w.heap.size w w' := by
 have hB0 := ownOut_below w A0 n cap 42
 have hA := ownOut_at w A0 n cap 42
 have h := srules_any A0 cap n D A C (ownOut w A0 n cap 42) (hM.later hB0)
 obtain ⟨W, hW⟩ : ∃ W, ownOut w A0 n cap 42 = W := ⟨_, rfl⟩
 rw [hW] at hB0 hA h
 unfold ownOut at hW
 have HB0 : Hid (Below w.heap.size w W) := hB0
 generalize (ruErr D n).1 = x at h
 generalize (ruErr D n).2.1 = y at h
 generalize (ruErr D n).2.2 = z at h ⊢
 clear hM hB0
 go_enter Tryz.func18, Tryz.ntmps18
 go_wp2_with fail
 refine h.mono ?_
 rintro e w1 ⟨rfl, hb1⟩
 go_wp2_with fail
 go_ret
 exact ⟨rfl, onB HB0.out hb1⟩

noncomputable def cuErr (D : Nat → Dm) (n : Nat) (l : List En) : Int := if (ruErr D n).2.2 ≠ 0 then (ruErr D n).2.2 else entsErr D n l
set_option maxHeartbeats 2000000 in
theorem scube_any (A0 : Option Addr) (cap n : Nat) (D : Nat → Dm) (A : Nat → Option Addr) (C : Nat → Nat) (AE : Option Addr) (ce : Nat) (xs : List EnL) (w : World) (hM : DimsV w A0 cap n D A C) (hE : EnsV w AE ce xs) : Calls Tryz.prog 13 #[.agg #[.slice A0 n cap], .slice AE xs.length ce] w fun e w' => e = .returned (.int .i64 (cuErr D n (lE xs))) ∧ Below w.heap.size w w' := by
 have hB0 := ownOut_below w A0 n cap 42
 have hS := ownOut_size w A0 n cap 42
 have hA := ownOut_at w A0 n cap 42
 have h := sright_any A0 cap n D A C (ownOut w A0 n cap 42) (hM.later hB0)
 obtain ⟨W, hW⟩ : ∃ W, ownOut w A0 n cap 42 = W := ⟨_, rfl⟩
 rw [hW] at hB0 hS hA h
 unfold ownOut at hW
 have HB0 : Hid (Below w.heap.size w W) := hB0
 have HM : Hid (DimsV w A0 cap n D A C) := hM
 have HE : Hid (EnsV w AE ce xs) := hE
 have hsz : w.heap.size < W.heap.size := by omega
 have HEn : Hid (∀ w', Below w.heap.size w w' → Calls Tryz.prog 26 #[.agg #[.slice A0 n cap], .slice AE xs.length ce] w' fun r w'' => r = .returned (.int .i64 (entsErr D n (lE xs))) ∧ Below w'.heap.size w' w'') := fun w' hB => rentries_any A0 cap n D A C AE ce xs w' (hM.later hB) (hE.later hB)
 generalize xs.length = xl at HEn ⊢
 clear hM hB0 hE
 by_cases he : (ruErr D n).2.2 = 0
 ·have HC : Hid (cuErr D n (lE xs) = entsErr D n (lE xs)) := by show _ = _; unfold cuErr; rw [if_neg (by simpa using he)]
  rw [he] at h
  clear he
  go_enter Tryz.func13, Tryz.ntmps13
  go_wp2_with fail
  refine h.mono ?_
  rintro e w1 ⟨rfl, hb1⟩
  have cw := (hb1.cell (p := ⟨w.heap.size, 0, none⟩) hsz).trans hA
  have hsz1 : w.heap.size < w1.heap.size := Nat.lt_of_lt_of_le hsz hb1.size
  have hen := HEn.out w1 (onB HB0.out hb1)
  have HB1 : Hid (Below w.heap.size w w1) := onB HB0.out hb1
  clear hb1 h hA
  go_wp2_with fail
  refine hen.mono ?_
  rintro e w2 ⟨rfl, hb2⟩
  go_wp2_with fail
  go_ret
  exact ⟨by rw [HC.out]; rfl, onB HB1.out hb2⟩
 ·have HC : Hid (cuErr D n (lE xs) = (ruErr D n).2.2) := by show _ = _; unfold cuErr; rw [if_pos he]
  have hb : ((ruErr D n).2.2 == 0) = false := by simpa using he
  generalize (ruErr D n).2.2 = c at h HC hb
  clear he
  go_enter Tryz.func13, Tryz.ntmps13
  go_wp2_with fail
  refine h.mono ?_
  rintro e w1 ⟨rfl, hb1⟩
  go_wp2_with fail
  go_ret
  exact ⟨by rw [HC.out]; rfl, onB HB0.out hb1⟩

structure R2 where
 xs : List RL
 A : Option Addr
 c : Nat
def noR2 : R2 := ⟨[], none, 0⟩
def cells2 (ys : List R2) : List Value := ys.map fun y => .slice y.A y.xs.length y.c
theorem cells2_append (a b : List R2) : cells2 (a ++ b) = cells2 a ++ cells2 b := by simp [cells2]
theorem r2_mem {ys : List R2} {k : Nat} (h : k < ys.length) : ys.getD k noR2 ∈ ys := by
 rw [List.getD_eq_getElem?_getD, List.getElem?_eq_getElem h]
 exact List.getElem_mem h
theorem cells2_at {ys : List R2} {k : Nat} (h : k < ys.length) : (cells2 ys)[k]? = some (.slice (ys.getD k noR2).A (ys.getD k noR2).xs.length (ys.getD k noR2).c) := by
 simp [cells2, List.getD, h]
def Rows2V (w : World) (A : Option Addr) (cap : Nat) (ys : List R2) : Prop := ys.length ≤ cap ∧ (ys = [] ∨ ∃ b, A = some ⟨b, 0, none⟩ ∧ b < w.heap.size ∧ ∀ k, k < ys.length → w.cell? ⟨b, k, none⟩ = some (.slice (ys.getD k noR2).A (ys.getD k noR2).xs.length (ys.getD k noR2).c)) ∧ ∀ y ∈ ys, RowsV w y.A y.c y.xs
theorem Rows2V.later {w w' : World} {A : Option Addr} {cap : Nat} {ys : List R2} (h : Rows2V w A cap ys) (hB : Below w.heap.size w w') : Rows2V w' A cap ys := by
 obtain ⟨h1, h2, h3⟩ := h
 refine ⟨h1, ?_, fun x hx => (h3 x hx).later hB⟩
 rcases h2 with h2 | ⟨b, h2, h4, h5⟩
 ·exact Or.inl h2
 ·exact Or.inr ⟨b, h2, Nat.lt_of_lt_of_le h4 hB.size, fun k hk => (hB.cell (p := ⟨b, k, none⟩) h4).trans (h5 k hk)⟩
theorem rows2_own {w : World} {base : Nat} {v : Value} {ys : List R2} (h : w.ownsRow base 61 1 v ys.length (cells2 ys)) (hp : ∀ y ∈ ys, RowsV w y.A y.c y.xs) : ∃ A c, v = .slice A ys.length c ∧ Rows2V w A c ys := by
 rcases h.2 with ⟨rfl, h0⟩ | ⟨g, cap, cur, rfl, hb, hg, hc, _, _, _⟩
 ·have : ys = [] := List.eq_nil_of_length_eq_zero h0
  subst this
  exact ⟨none, 0, rfl, Nat.zero_le _, Or.inl rfl, fun x hx => by cases hx⟩
 ·refine ⟨_, cap, rfl, hc, Or.inr ⟨g, rfl, (Array.getElem?_eq_some_iff.1 hg).1, fun k hk => ?_⟩, hp⟩
  have y := h.cells (g := g) rfl k _ (cells2_at hk)
  have hadd : (⟨g, 0, none⟩ : Addr).add k = ⟨g, k, none⟩ := by unfold Addr.add; split <;> simp_all
  rw [hadd] at y
  exact y
theorem row2_ne_int : (3 : Nat) ≠ 61 := by decide
theorem row2_ne_row : (27 : Nat) ≠ 61 := by decide
theorem off_row2 {w w' : World} {base : Nat} {v : Value} {n b T : Nat} {zs : List Value} {cs : Array Value} {fr : Nat × Nat} (hown : w.ownsRow base 61 1 v n zs) (hG : w.grownBy w' v.ownBlock) (hb : w.heap[b]? = some (.cells cs T fr)) (hT : T ≠ 61) : w'.heap[b]? = w.heap[b]? := by
 refine hG.block b (Array.getElem?_eq_some_iff.1 hb).1 fun e => ?_
 rcases hown.2 with ⟨rfl, -⟩ | ⟨g, cap, cur, rfl, -, hg, -⟩
 ·cases e
 ·simp only [Value.ownBlock, Option.some.injEq] at e
  rw [e, hg] at hb
  simp only [Option.some.injEq, Obj.cells.injEq] at hb
  exact hT hb.2.1.symm
theorem RowsV.row2 {w w' : World} {base : Nat} {v : Value} {n : Nat} {zs : List Value} {A : Option Addr} {c : Nat} {xs : List RL} (h : RowsV w A c xs) (hT : RowsT w A xs) (hown : w.ownsRow base 61 1 v n zs) (hG : w.grownBy w' v.ownBlock) : RowsV w' A c xs ∧ RowsT w' A xs := by
 obtain ⟨h1, h2, h3⟩ := h
 have h3' : ∀ x ∈ xs, IntT w' x.A x.c x.p := fun x hx => (h3 x hx).keep fun b cs fr hb => off_row2 hown hG hb row2_ne_int
 rcases hT with hT | ⟨b, cs, fr, hA, hb⟩
 ·subst hT
  exact ⟨⟨h1, Or.inl rfl, h3'⟩, Or.inl rfl⟩
 ·have he := off_row2 hown hG hb row2_ne_row
  refine ⟨⟨h1, ?_, h3'⟩, Or.inr ⟨b, cs, fr, hA, he.trans hb⟩⟩
  rcases h2 with h2 | ⟨b', h2, h4, h5⟩
  ·exact Or.inl h2
  ·rw [hA] at h2
   cases h2
   exact Or.inr ⟨b, hA, Nat.lt_of_lt_of_le h4 hG.size, fun k hk => (World.cell?_of_block (a := ⟨b, k, none⟩) he).trans (h5 k hk)⟩
theorem Tryz.infoRow2 : (Tryz.prog.info? 61).map (fun i => (i.zero, i.size, i.bytes)) = some (some (.slice none 0 0), 1, 24) := by kernel_rfl

set_option maxHeartbeats 4000000 in
theorem smembers_any (A0 : Option Addr) (cap n : Nat) (D : Nat → Dm) (A : Nat → Option Addr) (C : Nat → Nat) (w : World) (hn4 : n ≤ 4) (hR : AllR D n) (hM : DimsV w A0 cap n D A C) : Calls Tryz.prog 51 #[.agg #[.slice A0 n cap]] w fun e w' => (∃ A' c' ys, e = .returned (.slice A' n c') ∧ ys.length = n ∧ Rows2V w' A' c' ys ∧ ∀ i, i < n → lR (ys.getD i noR2).xs = ndL (D i)) ∧ Below w.heap.size w w' := by
 obtain ⟨i0, hi0, hz0, hz1, hz2⟩ := info_parts Tryz.infoRow2
 have hB0 := ownOut_below w A0 n cap 42
 have hS := ownOut_size w A0 n cap 42
 have hA := ownOut_at w A0 n cap 42
 obtain ⟨W, hW⟩ : ∃ W, ownOut w A0 n cap 42 = W := ⟨_, rfl⟩
 rw [hW] at hB0 hS hA
 unfold ownOut at hW
 have HB0 : Hid (Below w.heap.size w W) := hB0
 have HM : Hid (DimsV w A0 cap n D A C) := hM
 have HA : Hid (W.cell? ⟨w.heap.size, 0, none⟩ = some (.slice A0 n cap)) := hA
 have HR : Hid (AllR D n) := hR
 have hsz : w.heap.size < W.heap.size := by omega
 have hnI : (n : Int) ≤ 4 := by omega
 clear hM hB0 hA hR hS
 go_enter Tryz.func51, Tryz.ntmps51
 go_wp2_with fail
 clear hW
 go_loopg [3, 4] n (fun g s3 s4 wr => ∃ (k : Nat) (ys : List R2), k ≤ n ∧ g = n - k ∧ s4 = .int .i64 k ∧ Hid (ys.length = k ∧ (∀ i, i < k → lR (ys.getD i noR2).xs = ndL (D i)) ∧ ∀ y ∈ ys, RowsV wr y.A y.c y.xs ∧ RowsT wr y.A y.xs) ∧ wr.ownsRow W.heap.size 61 1 s3 k (cells2 ys) ∧ Below W.heap.size W wr)
 case atStart => exact ⟨0, [], Nat.zero_le _, rfl, rfl, (⟨rfl, fun i hi => absurd hi (Nat.not_lt_zero _), fun y hy => by cases hy⟩ : _ ∧ _ ∧ _), World.ownsRow_nil _ _ _ _, Below.refl _ _⟩
 case round =>
  obtain ⟨k, ys, hk, rfl, rfl, HY, hO, hBw⟩ := hrel
  have HO : Hid (wr.ownsRow W.heap.size 61 1 u3 k (cells2 ys)) := hO
  have HBw : Hid (Below W.heap.size W wr) := hBw
  have cw : wr.cell? ⟨w.heap.size, 0, none⟩ = some (.slice A0 n cap) := (hBw.cell (p := ⟨w.heap.size, 0, none⟩) hsz).trans HA.out
  have hszr : w.heap.size < wr.heap.size := Nat.lt_of_lt_of_le hsz hBw.size
  by_cases hlt : k < n
  ·have hki : (k : Int) < (n : Int) := by omega
   obtain ⟨hcap, h0 | ⟨b, o, rfl, hMs⟩⟩ := HM.out.later (onB HB0.out hBw)
   ·omega
   have hcapI : (n : Int) ≤ (cap : Int) := by omega
   obtain ⟨h0, h1, h2, h3⟩ := hMs.2 k hlt
   have hbl : b < wr.heap.size := hMs.1
   have hnd := sneeds_any (D k) (A k) (C k) wr h3
   unfold dimV at hnd
   have hek := HR.out k hlt
   rw [hek] at hnd
   generalize (rErr (D k)).1 = z at hnd
   clear h3 hMs hBw hO hek
   go_wp2_with fail
   refine hnd.mono ?_
   rintro e w2 ⟨⟨A2, c2, xs, rfl, hV, hL, hT⟩, hb2⟩
   have HB2 : Hid (Below W.heap.size W w2) := onB HBw.out hb2
   have HO2 : Hid (w2.ownsRow W.heap.size 61 1 u3 k (cells2 ys)) := own_later HO.out hb2
   have HY2 : Hid (∀ y ∈ ys, RowsV w2 y.A y.c y.xs ∧ RowsT w2 y.A y.xs) := fun y hy => ⟨(HY.out.2.2 y hy).1.later hb2, (HY.out.2.2 y hy).2.later hb2⟩
   have HV2 : Hid (RowsV w2 A2 c2 xs ∧ RowsT w2 A2 xs ∧ lR xs = ndL (D k)) := ⟨hV, hT, hL trivial⟩
   have hs2 := HB2.out.size
   obtain ⟨xl, hxl⟩ : ∃ xl, xs.length = xl := ⟨_, rfl⟩
   have HXl : Hid (xs.length = xl) := hxl
   rw [hxl]
   clear hb2 hnd hV hL hT hxl h0 h1 h2
   go_wp2_with (at_builtin; refine wpList_append_own _ rfl _ _ 94 rfl W.heap.size 61 i0 (.slice none 0 0) 1 24 Tryz.underlying94 hi0 hz0 hz1 hz2 rfl (by decide) _ _ _ rfl (HO2.out.alloc _) ⟨w2.heap.size, 0, none⟩ 1 1 [.slice A2 xl c2] rfl rfl one_cell (by intro u hu; simp at hu; subst hu; rfl) (by unfold maxLen; omega) (by omega) (by simp; omega) ?_)
   intro v' w3 hown' hgrow _
   have HB3 : Hid (Below W.heap.size W w3) := grown_own HB2.out HO2.out hgrow
   have HY3 : Hid ((ys ++ [(⟨xs, A2, c2⟩ : R2)]).length = k + 1 ∧ (∀ i, i < k + 1 → lR ((ys ++ [(⟨xs, A2, c2⟩ : R2)]).getD i noR2).xs = ndL (D i)) ∧ ∀ y ∈ ys ++ [(⟨xs, A2, c2⟩ : R2)], RowsV w3 y.A y.c y.xs ∧ RowsT w3 y.A y.xs) := by
    have hlen := HY.out.1
    refine ⟨by rw [List.length_append, hlen]; rfl, fun i hi => ?_, fun y hy => ?_⟩
    ·by_cases e : i = k
     ·rw [e, List.getD_eq_getElem?_getD, List.getElem?_append_right (by omega), hlen, Nat.sub_self]
      exact HV2.out.2.2
     ·rw [List.getD_eq_getElem?_getD, List.getElem?_append_left (by omega), ← List.getD_eq_getElem?_getD]
      exact HY.out.2.1 i (by omega)
    ·rcases List.mem_append.1 hy with hy | hy
     ·exact ((HY2.out y hy).1.later (by go_grown)).row2 ((HY2.out y hy).2.later (by go_grown)) (HO2.out.alloc _) hgrow
     ·rw [List.mem_singleton.1 hy]
      exact (HV2.out.1.later (by go_grown)).row2 (HV2.out.2.1.later (by go_grown)) (HO2.out.alloc _) hgrow
   have HO3 : Hid (w3.ownsRow W.heap.size 61 1 v' (k + 1) (cells2 (ys ++ [(⟨xs, A2, c2⟩ : R2)]))) := by
    show World.ownsRow ..
    rw [cells2_append]
    have e : cells2 [(⟨xs, A2, c2⟩ : R2)] = [.slice A2 xl c2] := by simp [cells2, HXl.out]
    rw [e]
    exact hown'
   clear hown' hgrow
   go_wp2_with fail
   go_roundg (n - (k + 1))
   case measure => omega
   case rel => exact ⟨k + 1, _, by omega, rfl, by go_num, HY3, HO3.out, HB3.out⟩
  ·have hke : k = n := by omega
   subst hke
   have HF : Hid (∃ A' c', u3 = .slice A' k c' ∧ Rows2V wr A' c' ys) := by
    have hlen := HY.out.1
    have h := hO
    rw [← hlen] at h
    obtain ⟨A', c', e, hv⟩ := rows2_own h fun y hy => (HY.out.2.2 y hy).1
    rw [hlen] at e
    exact ⟨A', c', e, hv⟩
   clear hO hBw
   go_wp2_with fail
   go_ret
   obtain ⟨A', c', e, hv⟩ := HF.out
   exact ⟨⟨A', c', ys, by rw [← e]; rfl, HY.out.1, hv, HY.out.2.1⟩, onB HB0.out HBw.out⟩
end Go.Proofs.YtjffbmejobjmjafGreatDoor

namespace Go.Proofs.YtjffbmejobjmjafGreatDoor
open Go.ChangeShapes Go.WideShapes Go.ChangeAt Go.RowKit
set_option maxRecDepth 20000

end Go.Proofs.YtjffbmejobjmjafGreatDoor

namespace Go.Proofs.YtjffbmejobjmjafGreatDoor
open Go Go.ChangeShapes Go.WideShapes Go.ChangeAt Go.RowKit
set_option maxRecDepth 20000

set_option maxHeartbeats 4000000 in
theorem rwith_any (Ap : Option Addr) (cp : Nat) (p : List Int) (dim : Nat) (x : Int) (w : World) (hd : dim < p.length) (h4 : p.length ≤ 4) (hP : PlAt w Ap cp p) :
  Calls Tryz.prog 57 #[.slice Ap p.length cp, .int .i64 dim, .int .i64 x] w fun e w' => (∃ A' c', e = .returned (.slice A' p.length c') ∧ PlAt w' A' c' (p.set dim x)) ∧ Below w.heap.size w w' := by
 obtain ⟨i0, hi0, hz0, hz1, hz2⟩ := info_parts Tryz.infoIntP
 obtain ⟨hcp, h0 | ⟨b, o, rfl, hb, hcell⟩⟩ := hP
 ·rw [h0] at hd; simp at hd
 have HC : Hid (∀ j u, (p.map (Value.int .i64))[j]? = some u → w.cell? ((⟨b, o, none⟩ : Addr).add j) = some u) := by
  intro j u hj
  have hlt : j < p.length := by have := (List.getElem?_eq_some_iff.1 hj).1; simpa using this
  rw [plain_add, hcell j hlt]
  simp only [List.getElem?_map, List.getElem?_eq_getElem hlt, Option.map_some, Option.some.injEq] at hj
  rw [← hj, List.getD_eq_getElem?_getD, List.getElem?_eq_getElem hlt]
  rfl
 obtain ⟨N, hN⟩ : ∃ N, p.length = N := ⟨_, rfl⟩
 have HN : Hid (p.length = N) := hN
 rw [hN] at hd h4 hcp ⊢
 have hdi : (dim : Int) < (N : Int) := by omega
 have h4' : (N : Int) ≤ 4 := by omega
 clear hcell hN
 go_enter Tryz.func57, Tryz.ntmps57
 go_wp2_with (at_builtin; refine wpList_append_own _ rfl _ _ 44 rfl w.heap.size 3 i0 (.int .i64 0) 1 8 Tryz.underlying44 hi0 hz0 hz1 hz2 rfl (by decide) _ _ _ rfl (World.ownsRow_nil w w.heap.size 3 1) ⟨b, o, none⟩ N cp (p.map (Value.int .i64)) rfl ?qc1 ?qc2 ?qc3 ?qc4 ?qc5 ?qc6 ?_)
 case qc1 => simp [HN.out]
 case qc2 => exact HC.out
 case qc3 => intro u hu; simp at hu; obtain ⟨y, -, rfl⟩ := hu; rfl
 case qc4 => simp only [maxLen]; omega
 case qc5 => omega
 case qc6 => exact Nat.le_refl _
 intro v' w1 hown hgrow hnil
 have hown1 : w1.ownsRow w.heap.size 3 1 v' N (p.map (Value.int .i64)) := by simpa using hown
 have HB : Hid (Below w.heap.size w w1) := (Below.refl _ w).grown hgrow (Nat.le_refl _) (by intro k hk; cases hk)
 rcases hown1.2 with ⟨h1, h2⟩ | ⟨g, cap, cur, rfl, hbg, hg, hc, hm, hs, ht⟩
 ·omega
 have HT : Hid (cur.toList.take (N * 1) = p.map (Value.int .i64) ∧ cur.size = cap * 1 ∧ w1.heap[g]? = some (.cells cur 3 (0, 0)) ∧ w.heap.size ≤ g) := ⟨ht, hs, hg, hbg⟩
 have cg : w1.cell? ⟨g, dim, none⟩ = some (.int .i64 (p.getD dim 0)) := by
  have := hown1.cells (g := g) rfl dim (.int .i64 (p.getD dim 0)) (by simp [List.getD, HN.out, hd])
  rw [plain_add, Nat.zero_add] at this
  exact this
 have fg : w1.frozen? ⟨g, dim, none⟩ = false := Lib.frozen_of_heap hg dim
 have hcap : N ≤ cap := hc
 generalize p.getD dim 0 = old at cg
 clear hown hown1 hgrow hnil hg hbg hs ht
 go_wp2_with fail
 go_ret
 obtain ⟨h1, h2, h3, h5⟩ := HT.out
 refine ⟨⟨_, cap, rfl, by rw [List.length_set, HN.out]; exact hcap, Or.inr ⟨g, 0, rfl, by simp [World.setCell]; exact (Array.getElem?_eq_some_iff.1 h3).1, fun j hj => ?_⟩⟩, HB.out.setCell (by show w.heap.size ≤ g; exact h5) _⟩
 rw [List.length_set, HN.out] at hj
 have hk : (w1.setCell ⟨g, dim, none⟩ (.int .i64 x)).heap[g]? = some (.cells (cur.setIfInBounds dim (.int .i64 x)) 3 (0, 0)) := by simp [World.setCell, Array.getElem?_modify, h3]
 rw [Nat.zero_add, Lib.cell_of_heap hk]
 have hcj : ∀ i, i < N → cur[i]? = some (.int .i64 (p.getD i 0)) := fun i hi => by
  have := congrArg (fun l => l[i]?) h1
  simp only [List.getElem?_take, show i < N * 1 by omega, if_true, Array.getElem?_toList] at this
  rw [this]
  simp [List.getD, HN.out, hi]
 by_cases e : j = dim
 ·subst e
  have hz := (Array.getElem?_eq_some_iff.1 (hcj j hj)).1
  rw [Array.getElem?_setIfInBounds_self_of_lt hz]
  simp [List.getD, HN.out, hj]
 ·rw [Array.getElem?_setIfInBounds_ne (fun h => e h.symm), hcj j hj]
  simp [List.getD, List.getElem?_set_ne (fun h => e h.symm)]

def rwL (D : Nat → Dm) (n : Nat) (l : List En) (m : Nat) : List (Int × Int) := (List.range m).map fun x => getE l (placeL D n x)
theorem rwL_len (D : Nat → Dm) (n : Nat) (l : List En) (m : Nat) : (rwL D n l m).length = m := by simp [rwL]
theorem wr_none {D : Nat → Dm} {n x : Nat} : ∀ (l : List En) (L : List (Int × Int)), (∀ e ∈ l, InO D n e.pl) → L.length = prodN D n → (∀ e ∈ l, (numI D e.pl n).toNat ≠ x) → (l.foldl (wrStep D n) L).getD x (0, 0) = L.getD x (0, 0)
 | [], _, _, _, _ => rfl
 | e :: r, L, hi, hL, h => by
  obtain ⟨h1, h2, -⟩ := numI_bound (hi e (List.mem_cons_self ..)) (Nat.le_refl n)
  rw [List.foldl_cons, wr_none r _ (fun y hy => hi y (List.mem_cons_of_mem _ hy)) (by unfold wrStep; rw [List.length_set]; exact hL) fun y hy => h y (List.mem_cons_of_mem _ hy)]
  unfold wrStep
  have := h e (List.mem_cons_self ..)
  simp [List.getD, List.getElem?_set_ne this]
theorem wr_some {D : Nat → Dm} {n : Nat} {e : En} : ∀ (l : List En) (L : List (Int × Int)), (∀ y ∈ l, InO D n y.pl) → (l.Pairwise fun a b => lessL a.pl b.pl = true) → L.length = prodN D n → e ∈ l → (l.foldl (wrStep D n) L).getD (numI D e.pl n).toNat (0, 0) = (1, e.n)
 | [], _, _, _, _, h => by cases h
 | y :: r, L, hi, hr, hL, h => by
  have hr' := List.pairwise_cons.1 hr
  have hiy := hi y (List.mem_cons_self ..)
  have hir := fun z hz => hi z (List.mem_cons_of_mem y hz)
  obtain ⟨h1, h2, -⟩ := numI_bound hiy (Nat.le_refl n)
  rw [List.foldl_cons]
  have hL' : (wrStep D n L y).length = prodN D n := by unfold wrStep; rw [List.length_set]; exact hL
  rcases List.mem_cons.1 h with rfl | h
  ·rw [wr_none r _ hir hL' fun z hz => by
    have h3 := less_num hiy (hir z hz) (hr'.1 z hz)
    obtain ⟨h4, -, -⟩ := numI_bound (hir z hz) (Nat.le_refl n)
    omega]
   unfold wrStep
   have : (numI D e.pl n).toNat < L.length := by omega
   simp [List.getD, this]
  ·exact wr_some r _ hir hr'.2 hL' h
theorem wr_rwL {D : Nat → Dm} {n : Nat} {l : List En} (h : Ens D n l) : wrV D n l = rwL D n l (prodN D n) := by
 apply List.ext_getElem (by rw [wrV_len, rwL_len])
 intro x h1 h2
 rw [wrV_len] at h1
 have e1 : (wrV D n l).getD x (0, 0) = getE l (placeL D n x) := by
  unfold wrV
  by_cases hx : ∃ e, e ∈ l ∧ (numI D e.pl n).toNat = x
  ·obtain ⟨e, he, hn⟩ := hx
   have h3 := wr_some l (List.replicate (prodN D n) (0, 0)) (fun y hy => (h.each y hy).1) h.rise (by simp) he
   rw [hn] at h3
   rw [h3, ← hn, place_num (h.each e he).1, get_mem h.rise he]
  ·rw [wr_none l _ (fun y hy => (h.each y hy).1) (by simp) fun e he hn => hx ⟨e, he, hn⟩]
   rw [(get_none h.rise fun e he e2 => hx ⟨e, he, by rw [e2, num_place h.right h1]; omega⟩).1]
   simp [List.getD, h1]
 have h3 : x < (wrV D n l).length := by rw [wrV_len]; exact h1
 rw [List.getD_eq_getElem?_getD, List.getElem?_eq_getElem h3] at e1
 simp only [Option.getD_some] at e1
 rw [e1]
 simp [rwL]

end Go.Proofs.YtjffbmejobjmjafGreatDoor

namespace Go.Proofs.YtjffbmejobjmjafGreatDoor
open Go.ChangeShapes Go.WideShapes Go.ChangeAt Go.RowKit
set_option maxRecDepth 20000

def ToldP (D : Nat → Dm) (n : Nat) (p : List Int) (T : List Int) : Prop := T.Pairwise (· < ·) ∧ T.length ≤ 12 ∧ ∀ z, z ∈ T ↔ ∃ b : Nat, byTo D p n = (b : Int) ∧ ∃ x ∈ mNd (D b) (p.getD b 0).toNat, z = numI D (p.set b x) n

set_option maxHeartbeats 8000000 in
theorem stold_any (A0 : Option Addr) (cap n : Nat) (D : Nat → Dm) (A : Nat → Option Addr) (C : Nat → Nat) (AN : Option Addr) (cN : Nat) (ys : List R2) (Ap : Option Addr) (cp : Nat) (L : List Int) (w : World) (hR : AllR D n) (hI : InO D n L) (hM : DimsV w A0 cap n D A C) (hyl : ys.length = n) (hY : Rows2V w AN cN ys) (hyn : ∀ i, i < n → lR (ys.getD i noR2).xs = ndL (D i)) (hP : PlAt w Ap cp L) :
  Calls Tryz.prog 53 #[.agg #[.slice A0 n cap], .slice AN n cN, .slice Ap L.length cp] w fun e w' => (∃ A' c' T, e = .returned (.slice A' T.length c') ∧ RiseV w' A' c' T ∧ ToldP D n L T) ∧ Below w.heap.size w w' := by
 obtain ⟨hn1, hn4, -, hd⟩ := allErr_some hI.right
 have hnI : (n : Int) ≤ 4 := by omega
 have hl := hI.len
 have hB0 := ownOut_below w A0 n cap 42
 have hS := ownOut_size w A0 n cap 42
 have hA := ownOut_at w A0 n cap 42
 have hby := sby_any A0 cap n D A C Ap cp L (ownOut w A0 n cap 42) hI (hM.later hB0) (hP.later hB0)
 obtain ⟨W, hW⟩ : ∃ W, ownOut w A0 n cap 42 = W := ⟨_, rfl⟩
 rw [hW] at hB0 hS hA hby
 unfold ownOut at hW
 have HB0 : Hid (Below w.heap.size w W) := hB0
 have HM : Hid (DimsV w A0 cap n D A C) := hM
 have HA : Hid (W.cell? ⟨w.heap.size, 0, none⟩ = some (.slice A0 n cap)) := hA
 have HR : Hid (AllR D n) := hR
 have HI : Hid (InO D n L) := hI
 have HP : Hid (PlAt w Ap cp L) := hP
 have HY : Hid (Rows2V w AN cN ys) := hY
 have HYn : Hid (∀ i, i < n → lR (ys.getD i noR2).xs = ndL (D i)) := hyn
 have HYl : Hid (ys.length = n) := hyl
 have HLn : Hid (L.length = n) := hl
 have HD12 : Hid (∀ i, i < n → (D i).n ≤ 12) := fun i hi => (hd i hi).2
 have hsz : w.heap.size < W.heap.size := by omega
 rw [hl] at hby ⊢
 clear hM hB0 hR hI hP hY hyn hyl hl hd hS
 rcases by_in D L n with hneg | ⟨b, hb, hbn⟩
 ·have HT : Hid (ToldP D n L []) := ⟨List.Pairwise.nil, Nat.zero_le _, fun z => ⟨fun h => (by cases h), fun ⟨b, h1, _⟩ => (by rw [hneg] at h1; omega)⟩⟩
  rw [hneg] at hby
  clear hneg
  go_enter Tryz.func53, Tryz.ntmps53
  go_wp2_with fail
  refine hby.mono ?_
  rintro e w1 ⟨rfl, hb1⟩
  go_wp2_with fail
  go_ret
  exact ⟨⟨none, 0, [], rfl, RiseV.nil _, HT.out⟩, onB HB0.out hb1⟩
 ·rw [hb] at hby
  have HBy : Hid (byTo D L n = (b : Int)) := hb
  have hbI : (b : Int) < (n : Int) := by omega
  have hb0 : decide ((b : Int) < 0) = false := decide_eq_false (by omega)
  have hp0 := HI.out.lo b hbn
  have hp1 := HI.out.hi b hbn
  obtain ⟨x, hx⟩ : ∃ x : Nat, L.getD b 0 = (x : Int) := ⟨(L.getD b 0).toNat, by omega⟩
  have HX : Hid (L.getD b 0 = (x : Int)) := hx
  have hxn : x < (D b).n := by omega
  clear hb
  go_enter Tryz.func53, Tryz.ntmps53
  go_wp2_with fail
  refine hby.mono ?_
  rintro e w1 ⟨rfl, hb1⟩
  have HB1 : Hid (Below W.heap.size W w1) := hb1
  have hBw1 := onB HB0.out hb1
  have HBw1 : Hid (Below w.heap.size w w1) := hBw1
  obtain ⟨hcN, hy0 | ⟨g2, rfl, hg2, hc2⟩, hr2⟩ := HY.out.later hBw1
  ·have := HYl.out; rw [hy0] at this; simp at this; omega
  have cy := hc2 b (by rw [HYl.out]; exact hbn)
  have hry := hr2 _ (r2_mem (k := b) (by rw [HYl.out]; exact hbn))
  have hrn := HYn.out b hbn
  rw [HYl.out] at hcN
  have hcNi : (n : Int) ≤ (cN : Int) := by omega
  have hxl : (ys.getD b noR2).xs.length = (D b).n := by rw [← lR_len, hrn, ndL_len]
  rw [hxl] at cy
  obtain ⟨hcx, hx0 | ⟨g1, hg1, hgl1, hc1⟩, hr1⟩ := hry
  ·rw [hx0] at hxl; simp at hxl; omega
  have cx := hc1 x (by omega)
  have hTx := hr1 _ (rl_mem (k := x) (by omega))
  have HMx : Hid (((ys.getD b noR2).xs.getD x noR).p = mNd (D b) x) := by show _ = _; rw [← lR_at, hrn, ndL_at hxn]
  rw [HMx.out] at cx hTx
  rw [hg1] at cy
  rw [hxl] at hcx
  generalize ((ys.getD b noR2).xs.getD x noR).A = Ax at cx hTx
  generalize ((ys.getD b noR2).xs.getD x noR).c = ccx at cx hTx
  generalize (ys.getD b noR2).c = ccy at cy hcx
  obtain ⟨hcP, hP0 | ⟨bp, op, rfl, hbp, hcp⟩⟩ := HP.out.later hBw1
  ·have := HLn.out; rw [hP0] at this; simp at this; omega
  have cpb := hcp b (by rw [HLn.out]; exact hbn)
  rw [HX.out] at cpb
  rw [HLn.out] at hcP
  have hcPi : (n : Int) ≤ (cp : Int) := by omega
  have hxI : (x : Int) < ((D b).n : Int) := by omega
  have hcxi : ((D b).n : Int) ≤ (ccy : Int) := by omega
  have hd12 := HD12.out b hbn
  have HTx : Hid (IntT w1 Ax ccx (mNd (D b) x)) := hTx
  have HMl : Hid ((mNd (D b) x).length ≤ 12) := Nat.le_trans (mNd_len (D b) x) hd12
  obtain ⟨m, hm⟩ : ∃ m, (mNd (D b) x).length = m := ⟨_, rfl⟩
  have HMm : Hid ((mNd (D b) x).length = m) := hm
  rw [hm] at cx HMl
  have hmI : (m : Int) ≤ 12 := by have := HMl.out; omega
  generalize (D b).n = dn at cy hcx hxI hcxi hd12
  clear hb1 hBw1 hby hc2 hr2 hc1 hr1 hTx hrn hxl hm hW hA
  go_wp2_with fail
  go_quiet (fail)
  obtain ⟨w2, hw2⟩ : ∃ w2, w1.drewN nq = w2 := ⟨_, rfl⟩
  have HB2 : Hid (Below w1.heap.size w1 w2) := by rw [← hw2]; exact below_drewN (Below.refl _ _) _
  rw [hw2]
  clear hw2 cy cx cpb
  obtain ⟨M, hM⟩ : ∃ M, mNd (D b) x = M := ⟨_, rfl⟩
  have HMe : Hid (mNd (D b) x = M) := hM
  rw [hM] at HTx HMm
  clear hM
  go_wp2_with fail
  go_loopg [8, 10] m (fun g s8 s10 wi => ∃ (t : Nat) (T : List Int) (A8 : Option Addr) (c8 : Nat), t ≤ m ∧ g = m - t ∧ s10 = .int .i64 t ∧ s8 = .slice A8 T.length c8 ∧ RiseV wi A8 c8 T ∧ Hid (T.Pairwise (· < ·) ∧ T.length ≤ t ∧ ∀ z, z ∈ T ↔ ∃ j, j < t ∧ z = numI D (L.set b (M.getD j 0)) n) ∧ Below w2.heap.size w2 wi)
  case atStart => exact ⟨0, [], none, 0, Nat.zero_le _, rfl, rfl, rfl, RiseV.nil _, (⟨List.Pairwise.nil, Nat.le_refl _, fun z => ⟨fun h => (by cases h), fun ⟨j, hj, _⟩ => absurd hj (Nat.not_lt_zero _)⟩⟩ : _ ∧ _ ∧ _), Below.refl _ _⟩
  case round =>
   obtain ⟨t, T, A8, c8, ht, rfl, rfl, rfl, hR8, HT, hBt⟩ := hrel
   have HR8 : Hid (RiseV wr A8 c8 T) := hR8
   have HBt : Hid (Below w2.heap.size w2 wr) := hBt
   by_cases htl : t < m
   ·have hti : (t : Int) < (m : Int) := by omega
    have hBW : Below w.heap.size w wr := onB HBw1.out (onB HB2.out hBt)
    have cw : wr.cell? ⟨w.heap.size, 0, none⟩ = some (.slice A0 n cap) := ((onB HB1.out (onB HB2.out hBt)).cell (p := ⟨w.heap.size, 0, none⟩) hsz).trans HA.out
    have hszr : w.heap.size < wr.heap.size := Nat.lt_of_lt_of_le hsz (onB HB1.out (onB HB2.out hBt)).size
    obtain ⟨hcT, -, hT0 | ⟨bt, cs, fr, rfl, hbt, hct⟩⟩ := (HTx.out.later HB2.out).later hBt
    ·have := HMm.out; rw [hT0] at this; simp at this; omega
    have ct := hct t (by rw [HMm.out]; exact htl)
    have hbtl : bt < wr.heap.size := (Array.getElem?_eq_some_iff.1 hbt).1
    rw [HMm.out] at hcT
    have hcTi : (m : Int) ≤ (ccx : Int) := by omega
    have hyi := mNd_in (d := D b) (i := x) (by rw [HMe.out]; exact mem_at (L := M) (j := t) (by rw [HMm.out]; exact htl))
    have HNx : Hid (∀ z, (z ∈ T ∨ z = numI D (L.set b (M.getD t 0)) n) ↔ ∃ j, j < t + 1 ∧ z = numI D (L.set b (M.getD j 0)) n) := fun z => by
     rw [HT.out.2.2 z]
     constructor
     ·rintro (⟨j, hj, e⟩ | e)
      ·exact ⟨j, by omega, e⟩
      ·exact ⟨t, by omega, e⟩
     ·rintro ⟨j, hj, e⟩
      by_cases ej : j = t
      ·rw [ej] at e; exact Or.inr e
      ·exact Or.inl ⟨j, by omega, e⟩
    obtain ⟨y, hy⟩ : ∃ y, M.getD t 0 = y := ⟨_, rfl⟩
    rw [hy] at ct hyi HNx
    have hIn := inO_set HI.out hbn hyi.1 hyi.2
    have hll : (L.set b y).length = n := by rw [List.length_set]; exact HLn.out
    have HWt : Hid (∀ w', Below wr.heap.size wr w' → Calls Tryz.prog 57 #[.slice (some ⟨bp, op, none⟩) n cp, .int .i64 b, .int .i64 y] w' fun e w'' => (∃ A' c', e = .returned (.slice A' n c') ∧ PlAt w'' A' c' (L.set b y)) ∧ Below w'.heap.size w' w'') := fun w' hB => by
     have h := rwith_any (some ⟨bp, op, none⟩) cp L b y w' (by rw [HLn.out]; exact hbn) (by rw [HLn.out]; exact hn4) (HP.out.later (onB hBW hB))
     rw [HLn.out] at h
     exact h
    have HNu : Hid (∀ A' c' w', Below wr.heap.size wr w' → PlAt w' A' c' (L.set b y) → Calls Tryz.prog 16 #[.agg #[.slice A0 n cap], .slice A' n c'] w' fun e w'' => e = .returned (.int .i64 (numI D (L.set b y) n)) ∧ Below w'.heap.size w' w'') := fun A' c' w' hB hP' => by
     have h := rnumber_any A0 cap n D A C A' c' (L.set b y) w' hIn (HM.out.later (onB hBW hB)) hP'
     rw [hll] at h
     exact h
    obtain ⟨Z, hZ⟩ : ∃ Z, numI D (L.set b y) n = Z := ⟨_, rfl⟩
    rw [hZ] at HNx HNu
    obtain ⟨tl, htl2⟩ : ∃ tl, T.length = tl := ⟨_, rfl⟩
    have HPu : Hid (∀ w', Below wr.heap.size wr w' → Calls Tryz.prog 92 #[.slice A8 tl c8, .int .i64 Z] w' fun e w'' => (∃ A' c', e = .returned (.slice A' (putL T Z).length c') ∧ RiseV w'' A' c' (putL T Z)) ∧ Below w'.heap.size w' w'') := fun w' hB => by
     rw [← htl2]
     exact put_any A8 c8 T Z w' (by have := HT.out.2.1; omega) (HR8.out.later hB)
    have HT2 : Hid ((putL T Z).Pairwise (· < ·) ∧ (putL T Z).length ≤ t + 1 ∧ ∀ z, z ∈ putL T Z ↔ ∃ j, j < t + 1 ∧ z = numI D (L.set b (M.getD j 0)) n) := ⟨put_rise _ _ HT.out.1, Nat.le_trans (put_len _ _) (by have := HT.out.2.1; omega), fun z => by rw [put_mem]; exact HNx.out z⟩
    rw [htl2]
    clear hR8 hBt hct hbt hy hIn hll hZ htl2 hBW hyi
    have HCw : Hid (∀ w', Below wr.heap.size wr w' → w'.cell? ⟨w.heap.size, 0, none⟩ = some (.slice A0 n cap) ∧ w.heap.size < w'.heap.size ∧ w'.cell? ⟨bt, t, none⟩ = some (.int .i64 y) ∧ bt < w'.heap.size) := fun w' hB => ⟨(hB.cell (p := ⟨w.heap.size, 0, none⟩) hszr).trans cw, Nat.lt_of_lt_of_le hszr hB.size, (hB.cell (p := ⟨bt, t, none⟩) hbtl).trans ct, Nat.lt_of_lt_of_le hbtl hB.size⟩
    go_upto_region 9 with fail
    go_region_law ((first
     | (go_simp; refine (HWt.out _ (by go_grown)).mono ?_; rintro e w3 ⟨⟨A3, c3, rfl, hP3⟩, hb3⟩; have hN3 := onB (W0 := wr) (by go_grown) hb3; obtain ⟨cw3, hw3, ct3, ht3⟩ := HCw.out _ hN3; clear hb3)
     | (go_simp; refine (HNu.out _ _ _ (by go_grown) (by first | exact hP3 | exact hP3.later (by go_grown))).mono ?_; rintro e w4 ⟨rfl, hb4⟩; have hN4 := onB (W0 := wr) (by go_grown) hb4; obtain ⟨cw4, hw4, ct4, ht4⟩ := HCw.out _ hN4; clear hb4)
     | (go_simp; refine (HPu.out _ (by go_grown)).mono ?_; rintro e w5 ⟨⟨A5, c5, rfl, hR5⟩, hb5⟩; have hN5 := onB (W0 := wr) (by go_grown) hb5; obtain ⟨cw5, hw5, ct5, ht5⟩ := HCw.out _ hN5; have HR5 := hid_of hR5; have HN5 := hid_of hN5; clear hb5)))
    all_goals clear hP3 hR5 hN3 hN4 hN5
    all_goals go_wp2_with fail
    all_goals go_roundg (m - (t + 1))
    all_goals first
     | omega
     | exact ⟨t + 1, putL T Z, A5, c5, by omega, rfl, by go_num, rfl, HR5.out, HT2, onB HBt.out HN5.out⟩
     | exact ⟨t + 1, putL T Z, A5, c5, by omega, rfl, by go_num, rfl, HR5.out.later (below_drewN (Below.refl _ _) _), HT2, below_drewN (onB HBt.out HN5.out) _⟩
   ·have hte : t = m := by omega
    subst hte
    have HFin : Hid (ToldP D n L T) := by
     refine ⟨HT.out.1, Nat.le_trans HT.out.2.1 HMl.out, fun z => ?_⟩
     rw [HT.out.2.2 z]
     constructor
     ·rintro ⟨j, hj, e⟩
      refine ⟨b, HBy.out, M.getD j 0, ?_, e⟩
      rw [HX.out, Int.toNat_natCast, HMe.out]
      exact mem_at (by rw [HMm.out]; exact hj)
     ·rintro ⟨b', h1, y, hy, e⟩
      have hbb : b' = b := by have := HBy.out; omega
      subst hbb
      rw [HX.out, Int.toNat_natCast, HMe.out] at hy
      obtain ⟨j, hj, rfl⟩ := List.getElem_of_mem hy
      refine ⟨j, by rw [← HMm.out]; exact hj, ?_⟩
      rw [List.getD_eq_getElem?_getD, List.getElem?_eq_getElem hj]
      exact e
    clear hR8 hBt
    go_wp2_with fail
    go_ret
    exact ⟨⟨A8, c8, T, rfl, HR8.out, HFin.out⟩, onB HBw1.out (onB HB2.out HBt.out)⟩
end Go.Proofs.YtjffbmejobjmjafGreatDoor

namespace Go.Proofs.YtjffbmejobjmjafGreatDoor
open Go Go.ChangeShapes Go.WideShapes Go.ChangeAt Go.RowKit
set_option maxRecDepth 20000

set_option maxHeartbeats 2000000 in
theorem rparts_new (d : Dm) (b o cap : Nat) (i : Int) (w : World) (hn : d.n ≤ 12) (hM : MemsAt w b o d.n d.mem) : Calls Tryz.prog 60 #[.agg #[.string d.name, .int .i64 d.solve, .slice (some ⟨b, o, none⟩) d.n cap], .int .i64 i] w fun e w' => (∃ A c, e = .returned (.slice A (partsOf d.mem d.n i).length c) ∧ IntsAt w' A c (partsOf d.mem d.n i) ∧ ∀ b o, A = some ⟨b, o, none⟩ → w.heap.size ≤ b) ∧ Below w.heap.size w w' := by
 obtain ⟨i0, hi0, hz0, hz1, hz2⟩ := info_parts Tryz.infoInt
 have hS := ownDim_size w d (some ⟨b, o, none⟩) cap 24
 have hB0 := ownDim_below w d (some ⟨b, o, none⟩) cap 24
 have hA := (ownDim_at w d (some ⟨b, o, none⟩) cap 24).2.2
 obtain ⟨W, hW⟩ : ∃ W, W = ownDim w d (some ⟨b, o, none⟩) cap 24 := ⟨_, rfl⟩
 rw [← hW] at hS hB0 hA
 have HW : Hid (W = ownDim w d (some ⟨b, o, none⟩) cap 24) := hW
 have HB0 : Hid (Below w.heap.size w W) := hB0
 have HM : Hid (MemsAt W b o d.n d.mem) := hM.later hB0
 have HA : Hid (W.cell? ⟨w.heap.size, 2, none⟩ = some (.slice (some ⟨b, o, none⟩) d.n cap)) := hA
 have hsz : w.heap.size < W.heap.size := by omega
 have hn' : (d.n : Int) ≤ 12 := by omega
 obtain ⟨p, hp⟩ : ∃ p : Nat → Bool, p = partB d.mem i := ⟨_, rfl⟩
 have HP : Hid (p = partB d.mem i) := hp
 unfold partsOf
 rw [← hp]
 clear hM hW hB0 hA hS hp
 go_enter Tryz.func60, Tryz.ntmps60
 go_wp2_with fail
 go_loopg [5, 6] d.n (fun g s5 s6 wr => ∃ (k : Nat), k ≤ d.n ∧ g = d.n - k ∧ s6 = .int .i64 k ∧ wr.ownsRow W.heap.size 3 1 s5 (selTo p k).length (mapI (selTo p k)) ∧ Below W.heap.size W wr)
 case atStart => exact ⟨0, Nat.zero_le _, rfl, rfl, World.ownsRow_nil _ _ _ _, by rw [HW.out]; exact Below.refl _ _⟩
 case round =>
  obtain ⟨k, hk, rfl, rfl, hown, hBw⟩ := hrel
  have HWr : Hid (Below W.heap.size W wr) := hBw
  have HO : Hid (wr.ownsRow W.heap.size 3 1 _ (selTo p k).length (mapI (selTo p k))) := hown
  have c2 : wr.cell? ⟨w.heap.size, 2, none⟩ = some (.slice (some ⟨b, o, none⟩) d.n cap) := (hBw.cell (p := ⟨w.heap.size, 2, none⟩) hsz).trans HA.out
  have hszr := hBw.size
  by_cases hlt : k < d.n
  ·have hki : (k : Int) < (d.n : Int) := by omega
   obtain ⟨-, h1, -, -⟩ := (HM.out.later hBw).2 k hlt
   have hlen := selTo_len p k
   have hpk : p k = ((d.mem k).parent == i) := by rw [HP.out]; rfl
   clear hBw
   cases hb : p k
   ·have HK : Hid (p k = false) := hb
    rw [hb] at hpk
    have hpe : ((d.mem k).parent == i) = false := hpk.symm
    clear hb hpk hown
    go_wp2_with fail
    go_roundg (d.n - (k + 1))
    case measure => omega
    case rel => exact ⟨k + 1, by omega, rfl, by go_num, by rw [selTo_miss HK.out]; exact HO.out, HWr.out⟩
   ·have HK : Hid (p k = true) := hb
    rw [hb] at hpk
    have hpe : ((d.mem k).parent == i) = true := hpk.symm
    clear hb hpk
    go_wp2_with (at_builtin; refine wpList_append_own _ rfl _ _ 27 rfl W.heap.size 3 i0 (.int .i64 0) 1 8 Tryz.underlying27 hi0 hz0 hz1 hz2 rfl (by decide) _ _ _ rfl (hown.alloc _) ⟨wr.heap.size, 0, none⟩ 1 1 [.int .i64 k] rfl rfl one_cell one_one (by unfold maxLen; omega) (by omega) (by simp; omega) ?_)
    intro v' w2 hown' hgrow _
    have HB2 : Hid (Below W.heap.size W w2) := grown_own HWr.out hown hgrow
    have HO2 : Hid (w2.ownsRow W.heap.size 3 1 v' (selTo p (k + 1)).length (mapI (selTo p (k + 1)))) := by
     show World.ownsRow ..
     rw [selTo_hit HK.out, mapI_snoc, List.length_append]; exact hown'
    clear hown' hgrow hown c2
    go_wp2_with fail
    go_roundg (d.n - (k + 1))
    case measure => omega
    case rel => exact ⟨k + 1, by omega, rfl, by go_num, HO2.out, HB2.out⟩
  ·have hke : k = d.n := by omega
   subst hke
   clear hBw hown
   go_wp2_with fail
   go_ret
   obtain ⟨A, c, h1, h2, h3⟩ := ints_new HO.out
   exact ⟨⟨A, c, by rw [← h1]; rfl, h2, fun b o e => Nat.le_trans HB0.out.size (h3 b o e)⟩, onB HB0.out HWr.out⟩

end Go.Proofs.YtjffbmejobjmjafGreatDoor

