/-
  What checkOutline, Cells and Of of package place answer, called in whatever memory: how many places an outline has; the place of a number, in new memory.
  What is read of an argument of the types api.Outline and api.Dim: where its dims and members lie, and what they hold.
  What is read of an argument of the type api.Place: where its numbers lie.
-/
import Derived.Deep.OwnRows
import Derived.Lib.Builder
import Derived.Deep.Slices
import Derived.Deep.Strs
import Derived.Deep.Fields
import Derived.Test.YtfngmnhkhfgmjacDoorJIAJ
namespace Go.Proofs.YtfngmnhkhfgmjacDoor
open Go.ChangeShapes Go.WideShapes Go.ChangeAt Go.RowKit
set_option maxRecDepth 20000
def PlAt (w : World) (A : Option Addr) (cap : Nat) (L : List Int) : Prop := L.length ≤ cap ∧ (L = [] ∨ ∃ b o, A = some ⟨b, o, none⟩ ∧ b < w.heap.size ∧ ∀ j, j < L.length → w.cell? ⟨b, o + j, none⟩ = some (.int .i64 (L.getD j 0)))
theorem PlAt.later {w w' : World} {A : Option Addr} {cap : Nat} {L : List Int} (h : PlAt w A cap L) (hB : Below w.heap.size w w') : PlAt w' A cap L := by
 obtain ⟨h1, h2 | ⟨b, o, h2, h3, h4⟩⟩ := h
 ·exact ⟨h1, Or.inl h2⟩
 ·exact ⟨h1, Or.inr ⟨b, o, h2, Nat.lt_of_lt_of_le h3 hB.size, fun j hj => (hB.cell (p := ⟨b, o + j, none⟩) h3).trans (h4 j hj)⟩⟩
theorem PlAt.nil (w : World) (A : Option Addr) (cap : Nat) : PlAt w A cap [] := ⟨Nat.zero_le _, Or.inl rfl⟩
def NewA (N : Nat) (A : Option Addr) : Prop := ∀ b o, A = some ⟨b, o, none⟩ → N ≤ b
theorem NewA.none (N : Nat) : NewA N none := fun _ _ h => by cases h
theorem NewA.zero (A : Option Addr) : NewA 0 A := fun _ _ _ => Nat.zero_le _
theorem NewA.le {N M : Nat} {A : Option Addr} (h : NewA N A) (hm : M ≤ N) : NewA M A := fun b o e => Nat.le_trans hm (h b o e)
theorem Tryd.infoIntP : (Tryd.prog.info? 3).map (fun i => (i.zero, i.size, i.bytes)) = some (some (.int .i64 0), 1, 8) := by kernel_rfl
theorem checko_any (A0 : Option Addr) (cap n : Nat) (D : Nat → Dm) (A : Nat → Option Addr) (C : Nat → Nat) (w : World) (hM : DimsV w A0 cap n D A C) : Calls Tryd.prog 30 #[.agg #[.slice A0 n cap]] w fun e w' => e = .returned (errV (allErr D n).2.2) ∧ Below w.heap.size w w' := by
 have hB0 := ownOut_below w A0 n cap 24
 have h := all_any A0 cap n D A C (ownOut w A0 n cap 24) (hM.later hB0)
 have HB0 : Hid (Below w.heap.size w (ownOut w A0 n cap 24)) := hB0
 clear hM hB0
 generalize errV (allErr D n).2.2 = v at h
 generalize (allErr D n).1 = x at h
 generalize (allErr D n).2.1 = y at h
 go_enter Tryd.func30, Tryd.ntmps30
 go_wp2_with fail
 refine h.mono ?_
 rintro e w1 ⟨rfl, hb1⟩
 go_wp2_with fail
 go_ret
 exact ⟨rfl, onB HB0.out hb1⟩
end Go.Proofs.YtfngmnhkhfgmjacDoor
namespace Go.Proofs.YtfngmnhkhfgmjacDoor
open Go Go.ChangeShapes Go.WideShapes Go.ChangeAt Go.RowKit Go.Deep
set_option maxRecDepth 100000
section
variable {H : Type} {enc : TypeId × Value → H} {w : World} {held : Bool}
theorem trod_one {P : Program} {base : Nat} {sp : Nat → Bool} {t : TypeId} {fs : Array Field} {fuel : Nat} {cs : List Value} {x : DataW H × List MemPlace} (ht : P.underlying t = some (.struct fs)) (hone : oneCellFields P fs = true) (h : DataW.trod enc P w base sp held fuel t cs = some x) :
  cs.length = P.cellsOf t ∧ ∃ n, ∀ (i : Nat) (f : Field) (v : Value), fs[i]? = some f → cs[i]? = some v → ∃ y, DataW.trod enc P w base sp held n f.type [v] = some y := by
 obtain ⟨xs, n, _, _, hl, hxs, hf⟩ := DataW.trod_struct ht h
 refine ⟨hl, n, fun i f v hi hv => ?_⟩
 obtain ⟨ho, hc⟩ := hone_of hone i f hi
 have hlt : i < fs.size := (Array.getElem?_eq_some_iff.1 hi).1
 have e := hf i f hi
 rw [ho, hc] at e
 obtain ⟨hi', hv'⟩ := List.getElem?_eq_some_iff.1 hv
 have ed : (cs.drop i).take 1 = [v] := by rw [List.drop_eq_getElem_cons hi', hv']; rfl
 rw [ed, List.getElem?_eq_getElem (by omega)] at e
 exact ⟨_, e⟩
theorem cellsM : Tryd.prog.cellsOf 68 = 4 := by kernel_rfl
theorem cellsD : Tryd.prog.cellsOf 27 = 3 := by kernel_rfl
theorem cellsO : Tryd.prog.cellsOf 24 = 1 := by kernel_rfl
theorem open_member {base : Nat} {sp : Nat → Bool} {fuel : Nat} {cs : List Value} {x : DataW H × List MemPlace} (h : DataW.trod enc Tryd.prog w base sp held fuel 68 cs = some x) :
  ∃ m : Mem, cs = [.string m.name, .int .i64 m.parent, .int .i64 m.sign, .string m.formula] := by
 obtain ⟨hl, n, hf⟩ := trod_one Tryd.underlying68 (by kernel_rfl) h
 rw [cellsM] at hl
 match cs, hl with
 | [v0, v1, v2, v3], _ =>
  obtain ⟨y0, h0⟩ := hf 0 _ v0 rfl rfl
  obtain ⟨y1, h1⟩ := hf 1 _ v1 rfl rfl
  obtain ⟨y2, h2⟩ := hf 2 _ v2 rfl rfl
  obtain ⟨y3, h3⟩ := hf 3 _ v3 rfl rfl
  obtain ⟨s0, e0, -, -⟩ := DataW.trod_string Tryd.underlying9 h0
  obtain ⟨n1, e1, -, -⟩ := DataW.trod_int Tryd.underlying3 h1
  obtain ⟨n2, e2, -, -⟩ := DataW.trod_int Tryd.underlying3 h2
  obtain ⟨s3, e3, -, -⟩ := DataW.trod_string Tryd.underlying9 h3
  simp at e0 e1 e2 e3
  exact ⟨⟨s0, n1, n2, s3⟩, by rw [e0, e1, e2, e3]⟩
theorem addr_plain {a : Addr} {k : Nat} {v : Value} (h : w.cell? (a.add k) = some v) (hk : k = 0) : a = ⟨a.block, a.off, none⟩ := by
 subst hk
 have e : (a.add 0) = a := by simp [Addr.add]
 rw [e] at h
 have := World.cell?_spot h
 cases a
 simp_all
theorem plain_add (b o k : Nat) : (⟨b, o, none⟩ : Addr).add k = ⟨b, o + k, none⟩ := by
 unfold Addr.add
 by_cases hk : k = 0
 ·subst hk; simp
 ·rw [if_neg hk]
theorem open_members {fuel : Nat} {cs : List Value} {x : DataW H × List MemPlace} (h : DataW.trod enc Tryd.prog w 0 (fun _ => true) held fuel 25 cs = some x) :
  ∃ (A : Option Addr) (cap n : Nat) (M : Nat → Mem), cs = [.slice A n cap] ∧ MemsV w A cap n M := by
 rcases open_slice Tryd.underlying25 h with ⟨rfl, -⟩ | ⟨a, len, cap, m, n, D, Pl, rfl, -, hl, -, hm, -, hx⟩
 ·exact ⟨none, 0, 0, fun _ => ⟨default, 0, 0, default⟩, rfl, Nat.le_refl _, Or.inl rfl⟩
 rw [cellsM] at hx
 simp at hm
 subst hm
 haveI : Inhabited Mem := ⟨⟨default, 0, 0, default⟩⟩
 have each : ∀ i, i < len → ∃ y : Mem, w.cells? 0 (a.add (i * 4)) 4 = some [.string y.name, .int .i64 y.parent, .int .i64 y.sign, .string y.formula] := fun i hi => by
  obtain ⟨cs', h1, h2⟩ := hx i (by omega)
  obtain ⟨y, rfl⟩ := open_member h2
  exact ⟨y, h1⟩
 obtain ⟨M, hM⟩ := choose_lt each
 refine ⟨some a, _, len, M, rfl, hl, ?_⟩
 rcases Nat.eq_zero_or_pos len with h0 | h0
 ·exact Or.inl h0
 right
 have c0 := (World.cells?_some (hM 0 h0)).2.2 0 (by omega)
 rw [add_add] at c0
 have hp := addr_plain c0 (by omega)
 have hb := World.block_lt_of_cell? _ _ c0
 refine ⟨a.block, a.off, by rw [← hp], by simpa [Addr.add] using hb, fun i hi => ?_⟩
 have hc := (World.cells?_some (hM i hi)).2.2
 rw [hp] at hc
 simp only [plain_add, Nat.add_assoc] at hc
 refine ⟨?_, ?_, ?_, ?_⟩
 ·have := hc 0 (by omega); simpa using this
 ·have := hc 1 (by omega); simpa [Nat.add_assoc] using this
 ·have := hc 2 (by omega); simpa [Nat.add_assoc] using this
 ·have := hc 3 (by omega); simpa [Nat.add_assoc] using this
theorem open_dim {fuel : Nat} {cs : List Value} {x : DataW H × List MemPlace} (h : DataW.trod enc Tryd.prog w 0 (fun _ => true) held fuel 27 cs = some x) :
  ∃ (d : Dm) (A : Option Addr) (c : Nat), cs = [.string d.name, .int .i64 d.solve, .slice A d.n c] ∧ MemsV w A c d.n d.mem := by
 obtain ⟨hl, n, hf⟩ := trod_one Tryd.underlying27 (by kernel_rfl) h
 rw [cellsD] at hl
 match cs, hl with
 | [v0, v1, v2], _ =>
  obtain ⟨y0, h0⟩ := hf 0 _ v0 rfl rfl
  obtain ⟨y1, h1⟩ := hf 1 _ v1 rfl rfl
  obtain ⟨y2, h2⟩ := hf 2 _ v2 rfl rfl
  obtain ⟨s0, e0, -, -⟩ := DataW.trod_string Tryd.underlying9 h0
  obtain ⟨n1, e1, -, -⟩ := DataW.trod_int Tryd.underlying3 h1
  obtain ⟨A, cap, k, M, e2, hM⟩ := open_members h2
  simp at e0 e1 e2
  exact ⟨⟨s0, n1, k, M⟩, A, cap, by rw [e0, e1, e2], hM⟩
theorem open_dims {fuel : Nat} {cs : List Value} {x : DataW H × List MemPlace} (h : DataW.trod enc Tryd.prog w 0 (fun _ => true) held fuel 22 cs = some x) :
  ∃ (A0 : Option Addr) (cap n : Nat) (D : Nat → Dm) (A : Nat → Option Addr) (C : Nat → Nat), cs = [.slice A0 n cap] ∧ DimsV w A0 cap n D A C := by
 rcases open_slice Tryd.underlying22 h with ⟨rfl, -⟩ | ⟨a, len, cap, m, n, D, Pl, rfl, -, hl, -, hm, -, hx⟩
 ·exact ⟨none, 0, 0, fun _ => ⟨default, 0, 0, fun _ => ⟨default, 0, 0, default⟩⟩, fun _ => none, fun _ => 0, rfl, Nat.le_refl _, Or.inl rfl⟩
 rw [cellsD] at hx
 simp at hm
 subst hm
 haveI : Inhabited Dm := ⟨⟨default, 0, 0, fun _ => ⟨default, 0, 0, default⟩⟩⟩
 have each : ∀ i, i < len → ∃ y : Dm × Option Addr × Nat, w.cells? 0 (a.add (i * 3)) 3 = some [.string y.1.name, .int .i64 y.1.solve, .slice y.2.1 y.1.n y.2.2] ∧ MemsV w y.2.1 y.2.2 y.1.n y.1.mem := fun i hi => by
  obtain ⟨cs', h1, h2⟩ := hx i (by omega)
  obtain ⟨d, A, c, rfl, hm⟩ := open_dim h2
  exact ⟨(d, A, c), h1, hm⟩
 obtain ⟨Y, hY⟩ := choose_lt each
 refine ⟨some a, _, len, fun i => (Y i).1, fun i => (Y i).2.1, fun i => (Y i).2.2, rfl, hl, ?_⟩
 rcases Nat.eq_zero_or_pos len with h0 | h0
 ·exact Or.inl h0
 right
 have c0 := (World.cells?_some (hY 0 h0).1).2.2 0 (by omega)
 rw [add_add] at c0
 have hp := addr_plain c0 (by omega)
 have hb := World.block_lt_of_cell? _ _ c0
 refine ⟨a.block, a.off, by rw [← hp], by simpa [Addr.add] using hb, fun i hi => ?_⟩
 have hc := (World.cells?_some (hY i hi).1).2.2
 rw [hp] at hc
 simp only [plain_add, Nat.add_assoc] at hc
 refine ⟨?_, ?_, ?_, (hY i hi).2⟩
 ·have := hc 0 (by omega); simpa using this
 ·have := hc 1 (by omega); simpa [Nat.add_assoc] using this
 ·have := hc 2 (by omega); simpa [Nat.add_assoc] using this
theorem arr1 {α : Type} {a : Array α} (h : a.size = 1) : ∃ x, a = #[x] := by
 rcases a with ⟨l⟩
 match l, h with
 | [x], _ => exact ⟨x, rfl⟩
theorem open_outline {r : Reach} {b0 : Nat} {v : Value} {d : DataW H} {p : List MemPlace} (hv : Value.okWide Tryd.prog w r b0 24 v) (h : DataW.Trod enc Tryd.prog w 0 (fun _ => true) held 24 v d p) :
  ∃ (A0 : Option Addr) (cap n : Nat) (D : Nat → Dm) (A : Nat → Option Addr) (C : Nat → Nat), v = .agg #[.slice A0 n cap] ∧ DimsV w A0 cap n D A C := by
 obtain ⟨cs, rfl, hsz⟩ := okWide_struct Tryd.underlying24 hv
 obtain ⟨c0, rfl⟩ := arr1 (hsz.trans cellsO)
 obtain ⟨fuel, hf⟩ := h
 obtain ⟨-, n, hy⟩ := trod_one Tryd.underlying24 (by kernel_rfl) hf
 obtain ⟨y0, h0⟩ := hy 0 _ c0 rfl rfl
 obtain ⟨A0, cap, k, D, A, C, e, hD⟩ := open_dims h0
 simp at e
 exact ⟨A0, cap, k, D, A, C, by rw [e], hD⟩
end
end Go.Proofs.YtfngmnhkhfgmjacDoor
namespace Go.Proofs.YtfngmnhkhfgmjacDoor
open Go Go.ChangeShapes Go.WideShapes Go.ChangeAt Go.RowKit Go.Deep
set_option maxRecDepth 100000
theorem open_place {H : Type} {enc : TypeId × Value → H} {w : World} {held : Bool} {r : Reach} {b0 : Nat} {v : Value} {d : DataW H} {p : List MemPlace} (hv : Value.okWide Tryd.prog w r b0 40 v) (h : DataW.Trod enc Tryd.prog w 0 (fun _ => true) held 40 v d p) :
  ∃ (Ap : Option Addr) (cp : Nat) (L : List Int), v = .slice Ap L.length cp ∧ PlAt w Ap cp L := by
 obtain ⟨a, len, cap, rfl⟩ := okWide_slice Tryd.underlying40 hv
 obtain ⟨fuel, hf⟩ := h
 have hf' : DataW.trod enc Tryd.prog w 0 (fun _ => true) held fuel 40 [.slice a len cap] = some (d, p) := hf
 rcases open_ints Tryd.underlying40 Tryd.underlying3 (by kernel_rfl) hf' with ⟨e, _⟩ | ⟨a', len', cap', zs, e, _, hl, _, hzl, _, hc, _⟩
 ·simp at e
  obtain ⟨rfl, rfl, rfl⟩ := e
  exact ⟨none, 0, [], rfl, PlAt.nil _ _ _⟩
 ·simp at e hzl
  obtain ⟨rfl, rfl, rfl⟩ := e
  have hlen : (zs.take len).length = len := by simp; omega
  refine ⟨some a', cap, zs.take len, by rw [hlen], by rw [hlen]; exact hl, ?_⟩
  rcases Nat.eq_zero_or_pos len with h0 | h0
  ·left
   subst h0
   simp
  right
  have c0 := hc 0 (by omega)
  have hp := addr_plain c0 rfl
  have hb := World.block_lt_of_cell? _ _ c0
  refine ⟨a'.block, a'.off, by rw [← hp], by simpa [Addr.add] using hb, fun j hj => ?_⟩
  rw [hlen] at hj
  have := hc j (by omega)
  rw [hp, plain_add] at this
  rw [this]
  simp [List.getD, hj]
end Go.Proofs.YtfngmnhkhfgmjacDoor
