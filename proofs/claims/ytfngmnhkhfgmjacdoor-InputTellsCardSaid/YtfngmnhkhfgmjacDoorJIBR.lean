/-
  What is read of an argument of the type []api.Edit, and of one of the type [][]api.Edit: where each edit, and its place, lies.
-/
import Derived.Test.YtfngmnhkhfgmjacDoorJIAS
namespace Go.Proofs.YtfngmnhkhfgmjacDoor
open Go Go.ChangeShapes Go.WideShapes Go.ChangeAt Go.RowKit Go.Deep
set_option maxRecDepth 100000
section
variable {H : Type} {enc : TypeId × Value → H} {w : World} {held : Bool}
theorem cellsXd : Tryd.prog.cellsOf 56 = 3 := by kernel_rfl
theorem open_ed {fuel : Nat} {cs : List Value} {x : DataW H × List MemPlace} (h : DataW.trod enc Tryd.prog w 0 (fun _ => true) held fuel 56 cs = some x) :
  ∃ (e : Ed) (A : Option Addr) (c : Nat), cs = [.slice A e.pl.length c, .int .i64 e.n, .bool e.clear] ∧ PlAt w A c e.pl := by
 obtain ⟨hl, n, hf⟩ := trod_one Tryd.underlying56 (by kernel_rfl) h
 rw [cellsXd] at hl
 match cs, hl with
 | [v0, v1, v2], _ =>
  obtain ⟨y0, h0⟩ := hf 0 _ v0 rfl rfl
  obtain ⟨y1, h1⟩ := hf 1 _ v1 rfl rfl
  obtain ⟨y2, h2⟩ := hf 2 _ v2 rfl rfl
  obtain ⟨A, c, L, e0, hP⟩ := open_pl h0
  obtain ⟨n1, e1, -, -⟩ := DataW.trod_int Tryd.underlying3 h1
  obtain ⟨b2, e2, -⟩ := DataW.trod_bool Tryd.underlying4 h2
  simp at e0 e1 e2
  exact ⟨⟨L, n1, b2⟩, A, c, by rw [e0, e1, e2], hP⟩
theorem open_edt {fuel : Nat} {cs : List Value} {x : DataW H × List MemPlace} (h : DataW.trod enc Tryd.prog w 0 (fun _ => true) held fuel 44 cs = some x) :
  ∃ (A : Option Addr) (cap : Nat) (ys : List EdL), cs = [.slice A ys.length cap] ∧ EdsV w A cap ys := by
 rcases open_slice Tryd.underlying44 h with ⟨rfl, -⟩ | ⟨a, len0, cap0, m, n, D, Pl, rfl, -, hl, hcm, hm, -, hx⟩
 ·exact ⟨none, 0, [], rfl, Nat.le_refl _, Nat.zero_le _, Or.inl rfl⟩
 rw [cellsXd] at hx
 simp at hm
 subst hm
 haveI : Inhabited EdL := ⟨noD⟩
 have each : ∀ i, i < len0 → ∃ y : EdL, w.cells? 0 (a.add (i * 3)) 3 = some [.slice y.A y.x.pl.length y.c, .int .i64 y.x.n, .bool y.x.clear] ∧ PlAt w y.A y.c y.x.pl := fun i hi => by
  obtain ⟨cs', h1, h2⟩ := hx i (by omega)
  obtain ⟨e, A, c, rfl, hp⟩ := open_ed h2
  exact ⟨⟨e, A, c⟩, h1, hp⟩
 obtain ⟨Y, hY⟩ := choose_lt each
 have hlen : ((List.range len0).map Y).length = len0 := by simp
 have hg : ∀ i, i < len0 → ((List.range len0).map Y).getD i noD = Y i := fun i hi => by simp [List.getD, hi]
 refine ⟨some a, _, (List.range len0).map Y, by rw [hlen], by rw [hlen]; exact hl, hcm, ?_⟩
 rcases Nat.eq_zero_or_pos len0 with h0 | h0
 ·left; subst h0; rfl
 right
 have c0 := (World.cells?_some (hY 0 h0).1).2.2 0 (by omega)
 rw [add_add] at c0
 have hp := addr_plain c0 (by omega)
 have hb := World.block_lt_of_cell? _ _ c0
 refine ⟨a.block, a.off, by rw [← hp], by simpa [Addr.add] using hb, fun i hi => ?_⟩
 rw [hlen] at hi
 have hc := (World.cells?_some (hY i hi).1).2.2
 rw [hp] at hc
 simp only [plain_add, Nat.add_assoc] at hc
 rw [hg i hi]
 refine ⟨?_, ?_, ?_, (hY i hi).2⟩
 ·have := hc 0 (by omega); simpa using this
 ·have := hc 1 (by omega); simpa [Nat.add_assoc] using this
 ·have := hc 2 (by omega); simpa [Nat.add_assoc] using this
theorem open_eds {r : Reach} {b0 : Nat} {v : Value} {d : DataW H} {p : List MemPlace} (hv : Value.okWide Tryd.prog w r b0 44 v) (h : DataW.Trod enc Tryd.prog w 0 (fun _ => true) held 44 v d p) :
  ∃ (A : Option Addr) (cap : Nat) (ys : List EdL), v = .slice A ys.length cap ∧ EdsV w A cap ys := by
 obtain ⟨a0, len0, cap0, rfl⟩ := okWide_slice Tryd.underlying44 hv
 obtain ⟨fuel, hf⟩ := h
 have hf' : DataW.trod enc Tryd.prog w 0 (fun _ => true) held fuel 44 [.slice a0 len0 cap0] = some (d, p) := hf
 obtain ⟨A, cap, ys, e, hE⟩ := open_edt hf'
 simp only [List.cons.injEq, and_true] at e
 exact ⟨A, cap, ys, e, hE⟩
end
end Go.Proofs.YtfngmnhkhfgmjacDoor
