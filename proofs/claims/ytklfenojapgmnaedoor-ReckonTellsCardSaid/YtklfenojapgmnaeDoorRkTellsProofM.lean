/-
  What is read of an argument of the type []string: where its texts lie.
  What is read of an argument of the type []api.Cell: where its cells lie.
  A law's end by 'Below': where nothing old has turned and the row asks for no second call, the results, the arguments and the frame are enough.
  For all nodes, names and cells the Go function tallylaw2.ReckonTells returns true, in whatever memory it is called: what Value, Swap and Const tell is what the document asks (tallyref2: Formula, Refs, Reckon, Swapped).
  Conditions: the listed package-level variables of Go's library begin as the program's text lays them (the card ties them to the pruned copy of the project); it writes nothing but memory that it makes.
-/
import Derived.Test.YtklfenojapgmnaeDoorRk1
import Derived.Test.YtklfenojapgmnaeDoorOpen
import Derived.Test.YtklfenojapgmnaeDoorCel1
import Derived.Test.YtklfenojapgmnaeDoorProg
import Derived.WalkKit
import Derived.ProofKit
import Derived.OpenShut
import Derived.Test.YtklfenojapgmnaeDoorRows
import Derived.Test.YtklfenojapgmnaeDoorTie
import Derived.Test.YtklfenojapgmnaeDoorCards
import Derived.Test.YtklfenojapgmnaeDoorRkTM
import Derived.LaidMore
import Derived.LaidLaws
import Derived.LaidHandle
import Derived.SizedLaws
import Derived.Stop.Joined
import Derived.Stop.LaidErr
import Derived.Lib.SmallJoins
import Derived.SevenTiedAt
import Derived.Carry
namespace Go.Proofs.YtklfenojapgmnaeDoor
open Go Go.ChangeShapes Go.WideShapes Go.ChangeAt Go.RowKit Go.Deep
set_option maxRecDepth 100000

section
variable {H : Type} {enc : TypeId × Value → H} {w : World} {held : Bool}
theorem cellsSt : Tryd.prog.cellsOf 9 = 1 := by kernel_rfl
theorem open_strs {r : Reach} {b0 : Nat} {v : Value} {d : DataW H} {p : List MemPlace} (hv : Value.okWide Tryd.prog w r b0 23 v) (h : DataW.Trod enc Tryd.prog w 0 (fun _ => true) held 23 v d p) (hsz : ∀ elems spare, d = .slice elems spare → elems.length < 4611686018427387904) :
    ∃ (A : Option Addr) (cap : Nat) (N : List ByteArray), v = .slice A N.length cap ∧ NmV w A cap N := by
  obtain ⟨a0, len0, cap0, rfl⟩ := okWide_slice Tryd.underlying23 hv
  obtain ⟨fuel, hf⟩ := h
  have hf' : DataW.trod enc Tryd.prog w 0 (fun _ => true) held fuel 23 [.slice a0 len0 cap0] = some (d, p) := hf
  rcases open_slice Tryd.underlying23 hf' with ⟨e, -⟩ | ⟨a, len, cap, m, n, D, Pl, e, -, hl, hcm, hm, hd, hx⟩
  · simp at e
    obtain ⟨rfl, rfl, rfl⟩ := e
    exact ⟨none, 0, [], rfl, NmV.nil _ _ _ (Nat.zero_le _)⟩
  simp at e
  obtain ⟨rfl, rfl, rfl⟩ := e
  rw [cellsSt] at hx
  simp at hm
  subst hm
  have hlt : len0 < 4611686018427387904 := by
    have := hsz _ _ (congrArg Prod.fst hd)
    simpa using this
  have each : ∀ i, i < len0 → ∃ y : ByteArray, w.cells? 0 (a.add (i * 1)) 1 = some [.string y] := fun i hi => by
    obtain ⟨cs', h1, h2⟩ := hx i (by omega)
    obtain ⟨s2, e2, -, -⟩ := DataW.trod_string Tryd.underlying9 h2
    exact ⟨s2, by rw [h1, e2]⟩
  obtain ⟨Y, hY⟩ := choose_lt each
  have hlen : ((List.range len0).map Y).length = len0 := by simp
  have hg : ∀ i, i < len0 → ((List.range len0).map Y).getD i noS = Y i := fun i hi => by simp [List.getD, hi]
  refine ⟨some a, _, (List.range len0).map Y, by rw [hlen], by rw [hlen]; exact hl, by rw [hlen]; exact hlt, hcm, ?_⟩
  rcases Nat.eq_zero_or_pos len0 with h0 | h0
  · left; subst h0; rfl
  right
  have c0 := (World.cells?_some (hY 0 h0)).2.2 0 (by omega)
  rw [add_add] at c0
  have hp := addr_plain c0 (by omega)
  have hb := World.block_lt_of_cell? _ _ c0
  refine ⟨a.block, a.off, by rw [← hp], by simpa [Addr.add] using hb, fun i hi => ?_⟩
  rw [hlen] at hi
  have hc := (World.cells?_some (hY i hi)).2.2
  rw [hp] at hc
  simp only [plain_add, Nat.add_assoc] at hc
  rw [hg i hi]
  have := hc 0 (by omega)
  simpa using this
end
end Go.Proofs.YtklfenojapgmnaeDoor

namespace Go.Proofs.YtklfenojapgmnaeDoor
open Go Go.ChangeShapes Go.WideShapes Go.ChangeAt Go.RowKit Go.Deep
set_option maxRecDepth 100000

section
variable {H : Type} {enc : TypeId × Value → H} {w : World} {held : Bool}
theorem cellsCl : Tryd.prog.cellsOf 28 = 2 := by kernel_rfl

theorem open_cl {fuel : Nat} {cs : List Value} {x : DataW H × List MemPlace} (h : DataW.trod enc Tryd.prog w 0 (fun _ => true) held fuel 28 cs = some x) :
    ∃ e : Int × Int, cs = [.int .i64 e.1, .int .i64 e.2] := by
  obtain ⟨hl, n, hf⟩ := trod_one Tryd.underlying28 (by kernel_rfl) h
  rw [cellsCl] at hl
  match cs, hl with
  | [v0, v1], _ =>
    obtain ⟨y0, h0⟩ := hf 0 _ v0 rfl rfl
    obtain ⟨y1, h1⟩ := hf 1 _ v1 rfl rfl
    obtain ⟨n0, e0, -, -⟩ := DataW.trod_int Tryd.underlying3 h0
    obtain ⟨n1, e1, -, -⟩ := DataW.trod_int Tryd.underlying3 h1
    simp at e0 e1
    exact ⟨(n0, n1), by rw [e0, e1]⟩

theorem open_cells {r : Reach} {b0 : Nat} {v : Value} {d : DataW H} {p : List MemPlace} (hv : Value.okWide Tryd.prog w r b0 24 v) (h : DataW.Trod enc Tryd.prog w 0 (fun _ => true) held 24 v d p) :
    ∃ (A : Option Addr) (cap : Nat) (L : List (Int × Int)), v = .slice A L.length cap ∧ CelV w A cap L := by
  obtain ⟨a0, len0, cap0, rfl⟩ := okWide_slice Tryd.underlying24 hv
  obtain ⟨fuel, hf⟩ := h
  have hf' : DataW.trod enc Tryd.prog w 0 (fun _ => true) held fuel 24 [.slice a0 len0 cap0] = some (d, p) := hf
  rcases open_slice Tryd.underlying24 hf' with ⟨e, -⟩ | ⟨a, len, cap, m, n, D, Pl, e, -, hl, hcm, hm, -, hx⟩
  · simp at e
    obtain ⟨rfl, rfl, rfl⟩ := e
    exact ⟨none, 0, [], rfl, Nat.le_refl _, Nat.zero_le _, Or.inl rfl⟩
  simp at e
  obtain ⟨rfl, rfl, rfl⟩ := e
  rw [cellsCl] at hx
  simp at hm
  subst hm
  have each : ∀ i, i < len0 → ∃ y : Int × Int, w.cells? 0 (a.add (i * 2)) 2 = some [.int .i64 y.1, .int .i64 y.2] := fun i hi => by
    obtain ⟨cs', h1, h2⟩ := hx i (by omega)
    obtain ⟨e, rfl⟩ := open_cl h2
    exact ⟨e, h1⟩
  obtain ⟨Y, hY⟩ := choose_lt each
  have hlen : ((List.range len0).map Y).length = len0 := by simp
  have hg : ∀ i, i < len0 → ((List.range len0).map Y).getD i noC = Y i := fun i hi => by simp [List.getD, hi]
  refine ⟨some a, _, (List.range len0).map Y, by rw [hlen], by rw [hlen]; exact hl, hcm, ?_⟩
  rcases Nat.eq_zero_or_pos len0 with h0 | h0
  · left; subst h0; rfl
  right
  have c0 := (World.cells?_some (hY 0 h0)).2.2 0 (by omega)
  rw [add_add] at c0
  have hp := addr_plain c0 (by omega)
  have hb := World.block_lt_of_cell? _ _ c0
  refine ⟨a.block, a.off, by rw [← hp], by simpa [Addr.add] using hb, fun i hi => ?_⟩
  rw [hlen] at hi
  have hc := (World.cells?_some (hY i hi)).2.2
  rw [hp] at hc
  simp only [plain_add, Nat.add_assoc] at hc
  rw [hg i hi]
  refine ⟨?_, ?_⟩
  · have := hc 0 (by omega); simpa using this
  · have := hc 1 (by omega); simpa [Nat.add_assoc] using this
end
end Go.Proofs.YtklfenojapgmnaeDoor

namespace Go.Proofs.YtklfenojapgmnaeDoor
open Go Go.ChangeShapes Go.WideShapes Go.ChangeAt Go.RowKit

theorem post_below {H : Type} {enc : TypeId × Value → H} {P : Program} {f : Func} {s : ChangeSpec} {apart fresh handsOn : Bool} {W W' : World} {args : Array Value} {v : Value} {ds gs : List (DataW H)} {before pa pv : List MemPlace}
    (hW : DataW.Whole enc P f.params.toList s.vars apart W args.toList ds gs before)
    (hres : ∀ (b : Nat) (sp : Nat → Bool) (hd : Bool), DataW.TrodAll enc P W' b sp hd f.resultTypes.toList (v.resultList f.resultTypes.size) (s.fn H (ds ++ gs)).results [])
    (hargs : ∀ sp : Nat → Bool, (∀ p ∈ before, sp p.block = true) → DataW.TrodAll enc P W' 0 sp true f.params.toList args.toList (s.fn H (ds ++ gs)).args pa)
    (hvars : ∀ sp : Nat → Bool, (∀ p ∈ before, sp p.block = true) → DataW.TrodVars enc P W' sp s.vars (s.fn H (ds ++ gs)).vars pv)
    (hps : before = pa ++ pv) (hk : W.keptBut W' (· ∈ before)) :
    s.post enc P f apart fresh handsOn false W args v W' := by
  have hold : ∀ p ∈ before, (fun b => decide (b < W.heap.size)) p.block = true := fun p hp => by simpa using hW.lt p hp
  refine ⟨ds, gs, before, [], pa, pv, hW, hres _ _ _, hargs _ hold, hvars _ hold, World.keptBut_mono (fun p hp => ⟨hp, ?_⟩) hk, fun h => by cases h⟩
  rw [hps, List.mem_append] at hp
  exact Or.inr hp
end Go.Proofs.YtklfenojapgmnaeDoor

namespace Go.Proofs.YtklfenojapgmnaeDoor.reckonTells
open Go Go.ChangeShapes Go.WideShapes Go.ChangeAt Go.WideMaps Go.WideElems Go.RowKit Go.Joins
open Go.ChangeMaps (open_string shut_string)
set_option linter.unusedVariables false

theorem own : ownKnob Tryd.prog.godebug = none := by kernel_rfl
def laidL : List (String × DataW Unit) := Rows.reckonTellsRow.laid

theorem door_met (os : Os) (args : Array Value) : laidMetH Tryd.prog laidL ((World.doorLaid Tryd.prog 400 os).forCall (fun _ _ => 0) ⟨#[], args, []⟩).memory :=
  laidMetH_of_parts3 (fuel := 8) (laidMet_of_run' 8 (by kernel_rfl) (by kernel_rfl)) (by kernel_rfl) (by kernel_rfl)
theorem rtT : (Tryd.prog.cutTypes.find? (·.1 == "internal/reflectlite.rtype")).map (·.2) = some 104 := by kernel_rfl
theorem oneRow : ((List.range 163).filter fun t => Tryd.prog.rowNamed t [101, 114, 114, 111, 114]) = [33] := by kernel_rfl
theorem sizeT : Tryd.prog.types.size = 163 := by kernel_rfl
theorem gErr : Tryd.prog.globalNamed "errors.errorType" = some 0 := by kernel_rfl
theorem handleE : typeHandle Tryd.prog 33 = .pointer (some ⟨4, 33, none⟩) := by kernel_rfl
theorem env_of {W : World} (h : laidMetH Tryd.prog laidL W) : Kind0 W := by
  have h' : laidMet Tryd.prog [] W ∧ handlesMet Tryd.prog [("errors.errorType", Rows.laid_errors_errorType)] W := h
  obtain ⟨-, hh⟩ := h'
  obtain ⟨name, u, ty, e1, e2, e3, e4, e5⟩ := hh _ (List.mem_singleton.2 rfl)
  have en : name = [101, 114, 114, 111, 114] := (Option.some.inj e1).symm
  subst en
  obtain rfl := Option.some.inj (rtT.symm.trans e2)
  have hm : ty ∈ (List.range 163).filter fun t => Tryd.prog.rowNamed t [101, 114, 114, 111, 114] := List.mem_filter.2 ⟨List.mem_range.2 (by rw [← sizeT]; exact e3), e4⟩
  rw [oneRow] at hm
  obtain rfl := List.mem_singleton.1 hm
  rw [handleE] at e5
  have := World.var?_cell gErr e5 0
  unfold Kind0
  simpa using this
theorem bytesS : Tryd.checked.prog.bytesOf 9 = 16 := by kernel_rfl

set_option maxRecDepth 100000 in
theorem lifted (os : Os) (started : os.Started) (H : Type) (enc : TypeId × Value → H) :
    ReturnsInHanded {} Tryd.checked os 3 .any (fun w args => (Rows.reckonTellsSpec.pre enc Tryd.prog Tryd.f3 [] false w args ∧ laidMetH Tryd.prog laidL w) ∧ sizedMet enc Tryd.prog Tryd.f3 (OpenSpec.ofChange Rows.reckonTellsSpec) false w args)
      (Rows.reckonTellsSpec.post enc Tryd.prog Tryd.f3 false true false false) := by
  refine returnsInHanded_of_change_and (C := Tryd.checked) (X := fun w _ => laidMetH Tryd.prog laidL w) (fun _ _ _ hh h => h.of_heap hh) own started (by kernel_rfl) Tryd.func3
    (ChangeSpec.witness_shaped (enc := enc) (C := Tryd.checked) (os := os) (X := fun w _ => laidMetH Tryd.prog laidL w) false (World.doorLaid Tryd.prog 400 os) #[.slice none 0 0, .slice none 0 0, .slice none 0 0] 8 rfl (World.shaped_of_RefB (by kernel_rfl) (by kernel_rfl)) (by kernel_rfl) (by kernel_rfl) (by kernel_rfl) (door_met os _)) ?_
  intro W base args ds gs before hval0 hW _ hwt hL _
  have hval : ∀ (j : Nat) t v, Tryd.f3.params[j]? = some t → args[j]? = some v → Value.okWide Tryd.prog W .any base t v := hval0
  have hW' := hW
  have hlt := hW.lt
  obtain ⟨p, q, hA0, hV, rfl, hfz, hnd⟩ := hW
  have hA : DataW.TrodAll enc Tryd.prog W 0 (fun _ => true) true Tryd.f3.params.toList args.toList ds p := hA0
  rw [Tryd.params3] at hA hval
  obtain ⟨v0, vs0, d0, ds0, p0, q0, hargs0, rfl, rfl, h0, r0⟩ := trodAll_cons hA
  obtain ⟨v1, vs1, d1, ds1, p1, q1, hargs1, rfl, rfl, h1, r1⟩ := trodAll_cons r0
  obtain ⟨v2, vs2, d2, ds2, p2, q2, hargs2, rfl, rfl, h2, r2⟩ := trodAll_cons r1
  obtain ⟨rfl, rfl, rfl⟩ := trodAll_nil r2
  obtain rfl : args = #[v0, v1, v2] := by cases args; simp_all
  obtain ⟨rfl, rfl⟩ := trodVars_none hV
  obtain ⟨A0, c0, l0, rfl, hl0⟩ := open_nds (hval 0 22 v0 rfl rfl) h0
  have hz1 : ∀ elems spare, d1 = .slice elems spare → elems.length < 4611686018427387904 := fun elems spare e => by
    have h4 := sized_slice (j := 1) (t := 23) (elems := elems) (spare := spare) hwt (by rw [Tryd.params3]; rfl) (by rw [e]; rfl) Tryd.underlying23
    rw [bytesS] at h4
    have h5 := reachBytes_lt
    omega
  obtain ⟨A1, c1, l1, rfl, hl1⟩ := open_strs (hval 1 23 v1 rfl rfl) h1 hz1
  obtain ⟨A2, c2, l2, rfl, hl2⟩ := open_cells (hval 2 24 v2 rfl rfl) h2
  have hEnv := env_of hL
  clear hA0 hval0 hL hwt
  simp only [List.append_nil] at hW' hlt
  refine (rktells_any A0 c0 l0 A1 c1 l1 A2 c2 l2 W hEnv hl0 hl1 hl2).mono fun e W' ⟨he, hg⟩ => ?_
  subst he
  refine ⟨_, rfl, post_below (pa := p0 ++ (p1 ++ p2)) (pv := []) hW' (fun _ _ _ => trodAll_mk1 (shut_bool Tryd.underlying4 _)) (fun sp hsp => ?_) (fun _ _ => rfl) (by simp) (hg.frame _)⟩
  have g0 := WideElems.Trod_stays (W' := W') (sp' := sp) (by kernel_rfl) (by kernel_rfl) (of_decide_eq_true (by kernel_rfl)) h0 (fun y hy => hg.same (hlt y (by simp [hy]))) (fun y hy => hsp y (by simp [hy]))
  have g1 := WideElems.Trod_stays (W' := W') (sp' := sp) (by kernel_rfl) (by kernel_rfl) (of_decide_eq_true (by kernel_rfl)) h1 (fun y hy => hg.same (hlt y (by simp [hy]))) (fun y hy => hsp y (by simp [hy]))
  have g2 := WideElems.Trod_stays (W' := W') (sp' := sp) (by kernel_rfl) (by kernel_rfl) (of_decide_eq_true (by kernel_rfl)) h2 (fun y hy => hg.same (hlt y (by simp [hy]))) (fun y hy => hsp y (by simp [hy]))
  have g := trodAll_cons_mk g0 (trodAll_cons_mk g1 (trodAll_cons_mk g2 trodAll_mk0))
  simp only [List.append_nil] at g
  exact g

theorem said : Rows.ReckonTellsSaid :=
  OpenClaim.holds_of_wide 3 Tryd.f3 rfl rfl rfl rfl rfl rfl rfl ⟨rfl, rfl, rfl, rfl, rfl⟩ rfl rfl rfl rfl rfl (by kernel_rfl) Tryd.func3 (by kernel_rfl)
    (of_decide_eq_true (by kernel_rfl)) (by unfold Func.isWrapper; first | (rw [if_pos (by decide +kernel)]; kernel_rfl) | (rw [if_neg (by decide +kernel)]; exact ⟨rfl, rfl⟩))
    (fun os started H enc _ => lifted os started H enc)
end Go.Proofs.YtklfenojapgmnaeDoor.reckonTells

namespace Go.Proofs.YtklfenojapgmnaeDoor
open Go
theorem reckonTells_holds : Rows.ReckonTellsCardSaid :=
  Claim7.holds_tied_plain_at .later [] [.handle] true (true, "d351aaf3e908a42c67226360ac2e6c9f0a327366ee7ec451d7f453c27aaef0d0") true
    reckonTells.said (fun _ h => by cases h) (by kernel_rfl) (fun _ h => by cases h) reckonTells_row_tie rfl ⟨rfl, rfl⟩ (by kernel_rfl) rfl
    (fun f fn hf hfn => by
      obtain rfl : f = 3 := Option.some.inj ((show Tryd.prog.funcNamed "tallyhall/tallylaw2.ReckonTells" = some 3 by kernel_rfl).symm.trans hf) |>.symm
      obtain rfl : fn = Tryd.f3 := (Option.some.inj (Tryd.func3.symm.trans hfn)).symm
      exact ⟨by kernel_rfl, fun j t ht => by
        rw [Tryd.params3] at ht
        have hm : t ∈ [22, 23, 24] := by simpa using Array.mem_of_getElem? ht
        have hall : ([22, 23, 24].all fun u => !Tryd.prog.wantsStandIn u) = true := by kernel_rfl
        exact (show Tryd.prog.wantsStandIn t = false by simpa using List.all_eq_true.1 hall t hm)⟩)
    (by kernel_rfl)
#print axioms reckonTells_holds
end Go.Proofs.YtklfenojapgmnaeDoor
