/-
  What is read of an argument of the type []string: where its texts lie.
  What is read of an argument of the type []api.Cell: where its cells lie.
  A law's end by 'Below': where nothing old has turned and the row asks for no second call, the results, the arguments and the frame are enough.
-/
import Derived.Test.YtklfenojapgmnaeGreatDoorRk1
import Derived.Test.YtklfenojapgmnaeGreatDoorOpen
import Derived.Test.YtklfenojapgmnaeGreatDoorCel1
import Derived.Test.YtklfenojapgmnaeGreatDoorProg
import Derived.WalkKit
import Derived.ProofKit
import Derived.OpenShut
namespace Go.Proofs.YtklfenojapgmnaeGreatDoor
open Go Go.ChangeShapes Go.WideShapes Go.ChangeAt Go.RowKit Go.Deep
set_option maxRecDepth 100000

section
variable {H : Type} {enc : TypeId × Value → H} {w : World} {held : Bool}
theorem cellsSt : Tryz.prog.cellsOf 9 = 1 := by kernel_rfl
theorem open_strs {r : Reach} {b0 : Nat} {v : Value} {d : DataW H} {p : List MemPlace} (hv : Value.okWide Tryz.prog w r b0 30 v) (h : DataW.Trod enc Tryz.prog w 0 (fun _ => true) held 30 v d p) (hsz : ∀ elems spare, d = .slice elems spare → elems.length < 4611686018427387904) :
    ∃ (A : Option Addr) (cap : Nat) (N : List ByteArray), v = .slice A N.length cap ∧ NmV w A cap N := by
  obtain ⟨a0, len0, cap0, rfl⟩ := okWide_slice Tryz.underlying30 hv
  obtain ⟨fuel, hf⟩ := h
  have hf' : DataW.trod enc Tryz.prog w 0 (fun _ => true) held fuel 30 [.slice a0 len0 cap0] = some (d, p) := hf
  rcases open_slice Tryz.underlying30 hf' with ⟨e, -⟩ | ⟨a, len, cap, m, n, D, Pl, e, -, hl, hcm, hm, hd, hx⟩
  · simp at e
    obtain ⟨rfl, rfl, rfl⟩ := e
    exact ⟨none, 0, [], rfl, NmV.nil _ _ _ (Nat.zero_le _)⟩
  simp at e
  obtain ⟨rfl, rfl, rfl⟩ := e
  rw [cellsSt] at hx
  simp at hm
  subst hm
  have hlt : len0 < 4611686018427387904 := by
    have := hsz _ _ (congrArg Prod.fst hd)
    simpa using this
  have each : ∀ i, i < len0 → ∃ y : ByteArray, w.cells? 0 (a.add (i * 1)) 1 = some [.string y] := fun i hi => by
    obtain ⟨cs', h1, h2⟩ := hx i (by omega)
    obtain ⟨s2, e2, -, -⟩ := DataW.trod_string Tryz.underlying9 h2
    exact ⟨s2, by rw [h1, e2]⟩
  obtain ⟨Y, hY⟩ := choose_lt each
  have hlen : ((List.range len0).map Y).length = len0 := by simp
  have hg : ∀ i, i < len0 → ((List.range len0).map Y).getD i noS = Y i := fun i hi => by simp [List.getD, hi]
  refine ⟨some a, _, (List.range len0).map Y, by rw [hlen], by rw [hlen]; exact hl, by rw [hlen]; exact hlt, hcm, ?_⟩
  rcases Nat.eq_zero_or_pos len0 with h0 | h0
  · left; subst h0; rfl
  right
  have c0 := (World.cells?_some (hY 0 h0)).2.2 0 (by omega)
  rw [add_add] at c0
  have hp := addr_plain c0 (by omega)
  have hb := World.block_lt_of_cell? _ _ c0
  refine ⟨a.block, a.off, by rw [← hp], by simpa [Addr.add] using hb, fun i hi => ?_⟩
  rw [hlen] at hi
  have hc := (World.cells?_some (hY i hi)).2.2
  rw [hp] at hc
  simp only [plain_add, Nat.add_assoc] at hc
  rw [hg i hi]
  have := hc 0 (by omega)
  simpa using this
end
end Go.Proofs.YtklfenojapgmnaeGreatDoor

namespace Go.Proofs.YtklfenojapgmnaeGreatDoor
open Go Go.ChangeShapes Go.WideShapes Go.ChangeAt Go.RowKit Go.Deep
set_option maxRecDepth 100000

section
variable {H : Type} {enc : TypeId × Value → H} {w : World} {held : Bool}
theorem cellsCl : Tryz.prog.cellsOf 38 = 2 := by kernel_rfl

theorem open_cl {fuel : Nat} {cs : List Value} {x : DataW H × List MemPlace} (h : DataW.trod enc Tryz.prog w 0 (fun _ => true) held fuel 38 cs = some x) :
    ∃ e : Int × Int, cs = [.int .i64 e.1, .int .i64 e.2] := by
  obtain ⟨hl, n, hf⟩ := trod_one Tryz.underlying38 (by kernel_rfl) h
  rw [cellsCl] at hl
  match cs, hl with
  | [v0, v1], _ =>
    obtain ⟨y0, h0⟩ := hf 0 _ v0 rfl rfl
    obtain ⟨y1, h1⟩ := hf 1 _ v1 rfl rfl
    obtain ⟨n0, e0, -, -⟩ := DataW.trod_int Tryz.underlying3 h0
    obtain ⟨n1, e1, -, -⟩ := DataW.trod_int Tryz.underlying3 h1
    simp at e0 e1
    exact ⟨(n0, n1), by rw [e0, e1]⟩

theorem open_cells {r : Reach} {b0 : Nat} {v : Value} {d : DataW H} {p : List MemPlace} (hv : Value.okWide Tryz.prog w r b0 34 v) (h : DataW.Trod enc Tryz.prog w 0 (fun _ => true) held 34 v d p) :
    ∃ (A : Option Addr) (cap : Nat) (L : List (Int × Int)), v = .slice A L.length cap ∧ CelV w A cap L := by
  obtain ⟨a0, len0, cap0, rfl⟩ := okWide_slice Tryz.underlying34 hv
  obtain ⟨fuel, hf⟩ := h
  have hf' : DataW.trod enc Tryz.prog w 0 (fun _ => true) held fuel 34 [.slice a0 len0 cap0] = some (d, p) := hf
  rcases open_slice Tryz.underlying34 hf' with ⟨e, -⟩ | ⟨a, len, cap, m, n, D, Pl, e, -, hl, hcm, hm, -, hx⟩
  · simp at e
    obtain ⟨rfl, rfl, rfl⟩ := e
    exact ⟨none, 0, [], rfl, Nat.le_refl _, Nat.zero_le _, Or.inl rfl⟩
  simp at e
  obtain ⟨rfl, rfl, rfl⟩ := e
  rw [cellsCl] at hx
  simp at hm
  subst hm
  have each : ∀ i, i < len0 → ∃ y : Int × Int, w.cells? 0 (a.add (i * 2)) 2 = some [.int .i64 y.1, .int .i64 y.2] := fun i hi => by
    obtain ⟨cs', h1, h2⟩ := hx i (by omega)
    obtain ⟨e, rfl⟩ := open_cl h2
    exact ⟨e, h1⟩
  obtain ⟨Y, hY⟩ := choose_lt each
  have hlen : ((List.range len0).map Y).length = len0 := by simp
  have hg : ∀ i, i < len0 → ((List.range len0).map Y).getD i noC = Y i := fun i hi => by simp [List.getD, hi]
  refine ⟨some a, _, (List.range len0).map Y, by rw [hlen], by rw [hlen]; exact hl, hcm, ?_⟩
  rcases Nat.eq_zero_or_pos len0 with h0 | h0
  · left; subst h0; rfl
  right
  have c0 := (World.cells?_some (hY 0 h0)).2.2 0 (by omega)
  rw [add_add] at c0
  have hp := addr_plain c0 (by omega)
  have hb := World.block_lt_of_cell? _ _ c0
  refine ⟨a.block, a.off, by rw [← hp], by simpa [Addr.add] using hb, fun i hi => ?_⟩
  rw [hlen] at hi
  have hc := (World.cells?_some (hY i hi)).2.2
  rw [hp] at hc
  simp only [plain_add, Nat.add_assoc] at hc
  rw [hg i hi]
  refine ⟨?_, ?_⟩
  · have := hc 0 (by omega); simpa using this
  · have := hc 1 (by omega); simpa [Nat.add_assoc] using this
end
end Go.Proofs.YtklfenojapgmnaeGreatDoor

namespace Go.Proofs.YtklfenojapgmnaeGreatDoor
open Go Go.ChangeShapes Go.WideShapes Go.ChangeAt Go.RowKit

theorem post_below {H : Type} {enc : TypeId × Value → H} {P : Program} {f : Func} {s : ChangeSpec} {apart fresh handsOn : Bool} {W W' : World} {args : Array Value} {v : Value} {ds gs : List (DataW H)} {before pa pv : List MemPlace}
    (hW : DataW.Whole enc P f.params.toList s.vars apart W args.toList ds gs before)
    (hres : ∀ (b : Nat) (sp : Nat → Bool) (hd : Bool), DataW.TrodAll enc P W' b sp hd f.resultTypes.toList (v.resultList f.resultTypes.size) (s.fn H (ds ++ gs)).results [])
    (hargs : ∀ sp : Nat → Bool, (∀ p ∈ before, sp p.block = true) → DataW.TrodAll enc P W' 0 sp true f.params.toList args.toList (s.fn H (ds ++ gs)).args pa)
    (hvars : ∀ sp : Nat → Bool, (∀ p ∈ before, sp p.block = true) → DataW.TrodVars enc P W' sp s.vars (s.fn H (ds ++ gs)).vars pv)
    (hps : before = pa ++ pv) (hk : W.keptBut W' (· ∈ before)) :
    s.post enc P f apart fresh handsOn false W args v W' := by
  have hold : ∀ p ∈ before, (fun b => decide (b < W.heap.size)) p.block = true := fun p hp => by simpa using hW.lt p hp
  refine ⟨ds, gs, before, [], pa, pv, hW, hres _ _ _, hargs _ hold, hvars _ hold, World.keptBut_mono (fun p hp => ⟨hp, ?_⟩) hk, fun h => by cases h⟩
  rw [hps, List.mem_append] at hp
  exact Or.inr hp
end Go.Proofs.YtklfenojapgmnaeGreatDoor
