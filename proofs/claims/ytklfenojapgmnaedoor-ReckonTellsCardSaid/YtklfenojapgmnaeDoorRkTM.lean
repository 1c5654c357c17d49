/-
  errors.As at a target of type *api.Errno, of an error that is an api.Errno (it is found, and set), and of nil; plain.Told and tallysame.Error of such errors.
  plain.Told and tallysame.Error: of nil 0, of an api.Errno its number.
  Small facts for tallylaw2.ReckonTells: the names that the document's own look tells are those of the tree; an error and its own number are the same.
  What tallylaw2.ReckonTells answers, called in whatever memory, case 1: true.
  What tallylaw2.ReckonTells answers, called in whatever memory, case 2: true.
  What tallylaw2.ReckonTells answers, called in whatever memory, case 3: true.
  What tallylaw2.ReckonTells answers, called in whatever memory, case 4: true.
  What tallylaw2.ReckonTells answers, called in whatever memory, case 5: true.
  What tallylaw2.ReckonTells answers, called in whatever memory, case 6: true.
  What tallylaw2.ReckonTells answers, called in whatever memory: true.
-/
import Derived.Test.YtklfenojapgmnaeDoorOut2
import Derived.LaidEql
import Derived.Stop.Asserts
import Derived.RowKitTokens
import Derived.Test.YtklfenojapgmnaeDoorFRM
import Derived.Test.YtklfenojapgmnaeDoorRkRM
import Derived.Test.YtklfenojapgmnaeDoorForm3M
import Derived.Deep.DeepCutAuto
import Derived.Deep.CutBlock
namespace Go.Proofs.YtklfenojapgmnaeDoor
open Go.RowKit Go.Extern.Stop Go.Stop Go.Extern

theorem valueOfP (t : Addr) (w : World) : (ReflectliteValue.unpack (.iface 77 (.pointer (some t)))).run Tryd.prog w
    = .ok (.agg #[.pointer (some ⟨4, 77, none⟩), .pointer (some ⟨w.heap.size, 0, none⟩), .int .u64 150]) (w.alloc (.cells #[.pointer (some t)] 77)) := by kernel_rfl
theorem typeP (a : Addr) (w : World) : (ReflectliteValue.methodAny (ReflectliteValue.valueError "reflectlite.Value.Type" 0) (fun t _ _ _ => ReflectliteType.toType t) #[.agg #[.pointer (some ⟨4, 77, none⟩), .pointer (some a), .int .u64 150]]).run Tryd.prog w
    = .ok (.iface 104 (.agg #[.pointer (some ⟨4, 77, none⟩)])) w := by kernel_rfl
theorem methodKind (h : Value) (w : World) : (Go.method 263 104 (.agg #[h]) "Kind").run Tryd.prog w = .ok (110, h) w := by kernel_rfl
theorem kindP (w : World) : ((ReflectliteType.abiMethod fun t => Functor.map (fun a : Nat => Value.int IntKind.u8 (a : Int)) (Rtype.kind t)) #[.pointer (some ⟨4, 77, none⟩)]).run Tryd.prog w = .ok (.int .u8 22) w := by kernel_rfl
theorem kindN (w : World) : ((ReflectliteType.abiMethod fun t => Functor.map (fun a : Nat => Value.int IntKind.u8 (a : Int)) (Rtype.kind t)) #[.pointer (some ⟨4, 58, none⟩)]).run Tryd.prog w = .ok (.int .u8 2) w := by kernel_rfl
theorem methodNil (a : Addr) (W : World) : (ReflectliteValue.method (ReflectliteValue.valueError "reflectlite.Value.IsNil" 0) ReflectliteValue.isNil #[.agg #[.pointer (some ⟨4, 77, none⟩), .pointer (some a), .int .u64 150]]).run Tryd.prog W = (ReflectliteValue.isNil 77 a 150 22).run Tryd.prog W := by kernel_rfl
theorem methodElemV (a : Addr) (W : World) : (ReflectliteValue.method (ReflectliteValue.valueError "reflectlite.Value.Elem" 0) ReflectliteValue.elem #[.agg #[.pointer (some ⟨4, 77, none⟩), .pointer (some a), .int .u64 150]]).run Tryd.prog W = (ReflectliteValue.elem 77 a 150 22).run Tryd.prog W := by kernel_rfl
theorem setRun (ta b : Addr) (W : World) : (ReflectliteValue.set #[.agg #[.pointer (some ⟨4, 58, none⟩), .pointer (some ta), .int .u64 386], .agg #[.pointer (some ⟨4, 58, none⟩), .pointer (some b), .int .u64 130]]).run Tryd.prog W = (do let v ← loadVar 58 b; storeVar 58 ta v; pure (Value.tuple #[]) : Sem Value).run Tryd.prog W := by kernel_rfl
theorem isNilP (a p : Addr) (W : World) (ha : W.cell? a = some (.pointer (some p))) :
    (ReflectliteValue.method (ReflectliteValue.valueError "reflectlite.Value.IsNil" 0) ReflectliteValue.isNil #[.agg #[.pointer (some ⟨4, 77, none⟩), .pointer (some a), .int .u64 150]]).run Tryd.prog W = .ok (.bool false) W := by
  rw [methodNil]
  simp [ReflectliteValue.isNil, loadVar, isAgg, underlying, Tryd.underlying77, ha, Result.andThen]
theorem methodElem (h : Value) (w : World) : (Go.method 263 104 (.agg #[h]) "Elem").run Tryd.prog w = .ok (120, .agg #[h]) w := by kernel_rfl
theorem methodImplements (h : Value) (w : World) : (Go.method 263 104 (.agg #[h]) "Implements").run Tryd.prog w = .ok (121, .agg #[h]) w := by kernel_rfl
theorem methodAssignableTo (h : Value) (w : World) : (Go.method 263 104 (.agg #[h]) "AssignableTo").run Tryd.prog w = .ok (118, .agg #[h]) w := by kernel_rfl
theorem elemP (w : World) : (ReflectliteType.method ReflectliteType.elem #[.agg #[.pointer (some ⟨4, 77, none⟩)]]).run Tryd.prog w = .ok (.iface 104 (.agg #[.pointer (some ⟨4, 58, none⟩)])) w := by kernel_rfl
theorem implementsN (w : World) : (ReflectliteType.relation "Implements" ReflectliteType.implements_ #[.agg #[.pointer (some ⟨4, 58, none⟩)], .iface 104 (.agg #[.pointer (some ⟨4, 33, none⟩)])]).run Tryd.prog w = .ok (.bool true) w := by kernel_rfl
theorem typeOfN (v : Value) (w : World) : (ReflectliteType.typeOf #[.iface 58 v]).run Tryd.prog w = .ok (.iface 104 (.agg #[.pointer (some ⟨4, 58, none⟩)])) w := by kernel_rfl
theorem assignableN (w : World) : (ReflectliteType.relation "AssignableTo" ReflectliteType.assignableTo #[.agg #[.pointer (some ⟨4, 58, none⟩)], .iface 104 (.agg #[.pointer (some ⟨4, 58, none⟩)])]).run Tryd.prog w = .ok (.bool true) w := by kernel_rfl
theorem valueOfN (c : Int) (w : World) : (ReflectliteValue.unpack (.iface 58 (.int .i64 c))).run Tryd.prog w
    = .ok (.agg #[.pointer (some ⟨4, 58, none⟩), .pointer (some ⟨w.heap.size, 0, none⟩), .int .u64 130]) (w.alloc (.cells #[.int .i64 c] 58)) := by kernel_rfl
theorem elemOfP (w : World) : (Rtype.elem? 77).run Tryd.prog w = .ok (some 58) w := by kernel_rfl
theorem mkN (p : Addr) (w : World) : (ReflectliteValue.mk 58 p ReflectliteValue.flagAddr).run Tryd.prog w = .ok (.agg #[.pointer (some ⟨4, 58, none⟩), .pointer (some p), .int .u64 386]) w := by kernel_rfl
theorem elemVP (a p : Addr) (W : World) (ha : W.cell? a = some (.pointer (some p))) :
    (ReflectliteValue.method (ReflectliteValue.valueError "reflectlite.Value.Elem" 0) ReflectliteValue.elem #[.agg #[.pointer (some ⟨4, 77, none⟩), .pointer (some a), .int .u64 150]]).run Tryd.prog W
      = .ok (.agg #[.pointer (some ⟨4, 58, none⟩), .pointer (some p), .int .u64 386]) W := by
  rw [methodElemV]
  simp [ReflectliteValue.elem, loadVar, isAgg, underlying, Tryd.underlying77, ha, Result.andThen, elemOfP, mkN]
theorem setN (ta b : Addr) (c : Int) (old : Value) (W : World) (hb : W.cell? b = some (.int .i64 c)) (ht : W.cell? ta = some old) (hf : W.frozen? ta = false) :
    (ReflectliteValue.set #[.agg #[.pointer (some ⟨4, 58, none⟩), .pointer (some ta), .int .u64 386], .agg #[.pointer (some ⟨4, 58, none⟩), .pointer (some b), .int .u64 130]]).run Tryd.prog W
      = .ok (.tuple #[]) (W.setCell ta (.int .i64 c)) := by
  rw [setRun]
  simp [loadVar, isAgg, underlying, Tryd.underlying58, hb, Result.andThen, storeVar, Value.cells, storeCells, Addr.add]
  rw [run_store Tryd.prog W ta _ _ (by rfl)]
  simp [ht, hf]

def Kind0 (w : World) : Prop := w.cell? ⟨0, 0, none⟩ = some (.iface 104 (.agg #[.pointer (some ⟨4, 33, none⟩)]))
theorem Kind0.lt {w : World} (h : Kind0 w) : 0 < w.heap.size := by
  rcases Nat.lt_or_ge 0 w.heap.size with h' | h'
  · exact h'
  · unfold Kind0 at h
    simp [World.cell?, Array.getElem?_eq_none h'] at h
theorem Kind0.later {w w' : World} (h : Kind0 w) (hb : Below w.heap.size w w') : Kind0 w' := (hb.cell (p := ⟨0, 0, none⟩) h.lt).trans h

set_option maxHeartbeats 4000000 in
theorem as_hit (c : Int) (b : Nat) (w : World) (hk : Kind0 w) (htl : b < w.heap.size) (ht0 : w.cell? ⟨b, 0, none⟩ = some (.int .i64 0)) (hf0 : w.frozen? ⟨b, 0, none⟩ = false) :
    Calls Tryd.prog 44 #[.iface 58 (.int .i64 c), .iface 77 (.pointer (some ⟨b, 0, none⟩))] w fun ev w' => ev = .returned (.bool true) ∧ w' = ((((w.alloc (.cells #[.pointer (some ⟨b, 0, none⟩)] 77)).alloc (.cells #[.pointer (some ⟨4, 77, none⟩), .pointer (some ⟨w.heap.size, 0, none⟩), .int .u64 150] 84)).alloc (.cells #[.pointer (some ⟨4, 77, none⟩), .pointer (some ⟨w.heap.size, 0, none⟩), .int .u64 150] 84)).alloc (.cells #[.int .i64 c] 58)).setCell ⟨b, 0, none⟩ (.int .i64 c) := by
  have x1 := @run_callFunc_extern Tryd.prog 59 _ (fun args => ReflectliteValue.unpack (args.getD 0 (.tuple #[]))) Tryd.func59 (by kernel_rfl) (by kernel_rfl) (by kernel_rfl) (by kernel_rfl)
  have x2 := @run_callFunc_extern Tryd.prog 60 _ (ReflectliteValue.methodAny (ReflectliteValue.valueError "reflectlite.Value.Type" 0) (fun t _ _ _ => ReflectliteType.toType t)) Tryd.func60 (by kernel_rfl) (by kernel_rfl) (by kernel_rfl) (by kernel_rfl)
  have x3 := @run_callFunc_extern Tryd.prog 61 _ (ReflectliteValue.method (ReflectliteValue.valueError "reflectlite.Value.IsNil" 0) ReflectliteValue.isNil) Tryd.func61 (by kernel_rfl) (by kernel_rfl) (by kernel_rfl) (by kernel_rfl)
  have x4 := @run_callFunc_extern Tryd.prog 110 _ (ReflectliteType.abiMethod fun t => do pure (.int .u8 (← Rtype.kind t))) Tryd.func110 (by kernel_rfl) (by kernel_rfl) (by kernel_rfl) (by kernel_rfl)
  have x5 := @run_callFunc_extern Tryd.prog 120 _ (ReflectliteType.method ReflectliteType.elem) Tryd.func120 (by kernel_rfl) (by kernel_rfl) (by kernel_rfl) (by kernel_rfl)
  have x6 := @run_callFunc_extern Tryd.prog 121 _ (ReflectliteType.relation "Implements" ReflectliteType.implements_) Tryd.func121 (by kernel_rfl) (by kernel_rfl) (by kernel_rfl) (by kernel_rfl)
  have x7 := @run_callFunc_extern Tryd.prog 74 _ ReflectliteType.typeOf Tryd.func74 (by kernel_rfl) (by kernel_rfl) (by kernel_rfl) (by kernel_rfl)
  have x8 := @run_callFunc_extern Tryd.prog 118 _ (ReflectliteType.relation "AssignableTo" ReflectliteType.assignableTo) Tryd.func118 (by kernel_rfl) (by kernel_rfl) (by kernel_rfl) (by kernel_rfl)
  have x9 := @run_callFunc_extern Tryd.prog 75 _ (ReflectliteValue.method (ReflectliteValue.valueError "reflectlite.Value.Elem" 0) ReflectliteValue.elem) Tryd.func75 (by kernel_rfl) (by kernel_rfl) (by kernel_rfl) (by kernel_rfl)
  have xa := @run_callFunc_extern Tryd.prog 76 _ ReflectliteValue.set Tryd.func76 (by kernel_rfl) (by kernel_rfl) (by kernel_rfl) (by kernel_rfl)
  have y1 := typeOfN
  have y2 := methodAssignableTo
  have y3 := assignableN
  have y4 := valueOfN
  have y5 := valueOfP
  have y6 := typeP
  have y7 := methodKind
  have y8 := methodElem
  have y9 := methodImplements
  have ya := kindP
  have yb := kindN
  have yc := elemP
  have yd := implementsN
  have n8 := isNilP ⟨w.heap.size, 0, none⟩ ⟨b, 0, none⟩ ((w.alloc (.cells #[.pointer (some ⟨b, 0, none⟩)] 77)).alloc (.cells #[.pointer (some ⟨4, 77, none⟩), .pointer (some ⟨w.heap.size, 0, none⟩), .int .u64 150] 84)) (by simp)
  have hlt := hk.lt
  have hg2 : ((w.alloc (.cells #[.pointer (some ⟨b, 0, none⟩)] 77)).alloc (.cells #[.pointer (some ⟨4, 77, none⟩), .pointer (some ⟨w.heap.size, 0, none⟩), .int .u64 150] 84)).cell? ⟨0, 0, none⟩ = some (.iface 104 (.agg #[.pointer (some ⟨4, 33, none⟩)])) := by
    rw [World.cell?_alloc_lt _ _ ⟨0, 0, none⟩ (by simp), World.cell?_alloc_lt _ _ ⟨0, 0, none⟩ hlt]; exact hk
  have el := elemVP ⟨w.heap.size, 0, none⟩ ⟨b, 0, none⟩ (((w.alloc (.cells #[.pointer (some ⟨b, 0, none⟩)] 77)).alloc (.cells #[.pointer (some ⟨4, 77, none⟩), .pointer (some ⟨w.heap.size, 0, none⟩), .int .u64 150] 84)).alloc (.cells #[.pointer (some ⟨4, 77, none⟩), .pointer (some ⟨w.heap.size, 0, none⟩), .int .u64 150] 84)) (by rw [World.cell?_alloc_lt _ _ ⟨w.heap.size, 0, none⟩ (by simp; omega)]; simp)
  have st := setN ⟨b, 0, none⟩ ⟨w.heap.size + 1 + 1 + 1, 0, none⟩ c (.int .i64 0) ((((w.alloc (.cells #[.pointer (some ⟨b, 0, none⟩)] 77)).alloc (.cells #[.pointer (some ⟨4, 77, none⟩), .pointer (some ⟨w.heap.size, 0, none⟩), .int .u64 150] 84)).alloc (.cells #[.pointer (some ⟨4, 77, none⟩), .pointer (some ⟨w.heap.size, 0, none⟩), .int .u64 150] 84)).alloc (.cells #[.int .i64 c] 58))
    (by rw [World.cell?_alloc_at _ _ _ _ (by simp)]; rfl)
    (by rw [World.cell?_alloc_lt _ _ ⟨b, 0, none⟩ (by simp; omega), World.cell?_alloc_lt _ _ ⟨b, 0, none⟩ (by simp; omega), World.cell?_alloc_lt _ _ ⟨b, 0, none⟩ (by simp; omega), World.cell?_alloc_lt _ _ ⟨b, 0, none⟩ htl]; exact ht0)
    (by rw [World.frozen?_alloc_old _ _ ⟨b, 0, none⟩ (by simp; omega), World.frozen?_alloc_old _ _ ⟨b, 0, none⟩ (by simp; omega), World.frozen?_alloc_old _ _ ⟨b, 0, none⟩ (by simp; omega), World.frozen?_alloc_old _ _ ⟨b, 0, none⟩ (Nat.ne_of_lt htl)]; exact hf0)
  clear hk
  go_enter Tryd.func44, Tryd.ntmps44
  go_wp2
  refine wp_loop_rounds 1 ?_
  rw [rounds_succ]
  go_wp2
  go_ret
  exact ⟨rfl, rfl⟩
end Go.Proofs.YtklfenojapgmnaeDoor

namespace Go.Proofs.YtklfenojapgmnaeDoor
open Go.ChangeShapes Go.WideShapes Go.ChangeAt Go.RowKit

theorem told_nil (w : World) : Calls Tryd.prog 27 #[.nilIface] w fun e w' => e = .returned (.int .i64 0) ∧ w' = w := by
  go_enter Tryd.func27, Tryd.ntmps27
  go_wp2
  go_ret
  exact ⟨rfl, rfl⟩

theorem told_hit (c : Int) (w : World) (hk : Kind0 w) : Calls Tryd.prog 27 #[.iface 58 (.int .i64 c)] w fun e w' => e = .returned (.int .i64 c) ∧ Below w.heap.size w w' := by
  have h := as_hit c w.heap.size (w.alloc (.cells #[.int .i64 0] 58)) (hk.later ((Below.refl _ _).alloc (Nat.le_refl _) _)) (by simp) (by simp) (by simp)
  go_enter Tryd.func27, Tryd.ntmps27
  go_wp2_with fail
  refine h.mono ?_
  rintro e w1 ⟨rfl, hw1⟩
  have hB : Below w.heap.size w w1 := by rw [hw1]; go_grown
  have hc : w1.cell? ⟨w.heap.size, 0, none⟩ = some (.int .i64 c) := by
    rw [hw1]
    refine World.cell?_setCell_same _ _ _ (u := .int .i64 0) ?_
    rw [World.cell?_alloc_lt _ _ ⟨w.heap.size, 0, none⟩ (by first | (simp; done) | (simp; omega)), World.cell?_alloc_lt _ _ ⟨w.heap.size, 0, none⟩ (by first | (simp; done) | (simp; omega)), World.cell?_alloc_lt _ _ ⟨w.heap.size, 0, none⟩ (by first | (simp; done) | (simp; omega)), World.cell?_alloc_lt _ _ ⟨w.heap.size, 0, none⟩ (by first | (simp; done) | (simp; omega))]
    simp
  clear hw1 h hk
  go_wp2_with fail
  go_ret
  exact ⟨rfl, hB⟩

theorem same_nil (n : Int) (w : World) : Calls Tryd.prog 11 #[.nilIface, .int .i64 n] w fun e w' => e = .returned (.bool (0 == n)) ∧ Below w.heap.size w w' := by
  go_enter Tryd.func11, Tryd.ntmps11
  go_wp2_with (go_at_call 27; refine (told_nil _).mono ?_; rintro e w1 ⟨rfl, rfl⟩)
  go_ret
  exact ⟨rfl, Below.refl _ _⟩
theorem same_hit (c n : Int) (w : World) (hk : Kind0 w) : Calls Tryd.prog 11 #[.iface 58 (.int .i64 c), .int .i64 n] w fun e w' => e = .returned (.bool (c == n)) ∧ Below w.heap.size w w' := by
  go_enter Tryd.func11, Tryd.ntmps11
  go_wp2_with fail
  refine (told_hit c _ hk).mono ?_
  rintro e w1 ⟨rfl, hb⟩
  go_wp2_with fail
  go_ret
  exact ⟨rfl, hb⟩
end Go.Proofs.YtklfenojapgmnaeDoor

namespace Go.Proofs.YtklfenojapgmnaeDoor
open Go.ChangeShapes Go.WideShapes Go.ChangeAt Go.RowKit
set_option maxRecDepth 20000

theorem same_errK (c : Int) (w : World) (hk : Kind0 w) : Calls Tryd.prog 11 #[errV c, .int .i64 c] w fun e w' => e = .returned (.bool true) ∧ Below w.heap.size w w' := by
  by_cases h : c = 0
  · subst h
    have := same_nil 0 w
    rw [errV_zero]
    exact this
  · have := same_hit c c w hk
    rw [errV_some h]
    simpa using this
section
variable {l : List Nd} {R : List ByteArray}
theorem refs_same (h : formErr l = 0) (hR : RefsTo l l.length R) (s : ByteArray) : s ∈ refsT (treeOf l (l.length - 1)) ↔ s ∈ R := (refs_mem h s).trans (hR.2 s).symm
theorem refs_miss (h : formErr l = 0) (hR : RefsTo l l.length R) (N : List ByteArray) : missT N (treeOf l (l.length - 1)) = R.any fun s => decide (whereS N s < 0) := any_same (refs_same h hR)
theorem refs_const (h : formErr l = 0) (hR : RefsTo l l.length R) : cstB l = decide ((R.length : Int) = 0) := by
  unfold cstB constT
  rw [decide_eq_true h, Bool.true_and, nil_same (refs_same h hR)]
  cases R with
  | nil => rfl
  | cons x r => rw [decide_eq_false (by simp; omega)]; rfl
theorem any_none {N : List ByteArray} (h : (R.any fun s => decide (whereS N s < 0)) = false) {k : Nat} (hk : k < R.length) : ¬ whereS N (R.getD k noS) < 0 := by
  rw [List.any_eq_false] at h
  rw [List.getD_eq_getElem?_getD, List.getElem?_eq_getElem hk]
  simpa using h _ (List.getElem_mem hk)
theorem any_some {N : List ByteArray} (h : (R.any fun s => decide (whereS N s < 0)) = true) (ha : ∀ k, k < R.length → ¬ whereS N (R.getD k noS) < 0) : False := by
  rw [List.any_eq_true] at h
  obtain ⟨s, hs, h1⟩ := h
  obtain ⟨k, hk, rfl⟩ := List.getElem_of_mem hs
  have := ha k hk
  rw [List.getD_eq_getElem?_getD, List.getElem?_eq_getElem hk] at this
  simp at this h1
  omega
end
theorem rcell_if (k n : Int) (w : World) : Calls Tryd.prog 6 #[.agg #[.int .i64 k, .int .i64 n]] w fun e w' => e = .returned (.int .i64 (if good k n = true then 0 else 1)) ∧ Below w.heap.size w w' := by
  cases h : good k n
  · exact rcell_no k n w h
  · exact rcell_yes k n w h
theorem rswapped_all (b o cap : Nat) (l : List Nd) (h0 : formErr l = 0) (m : Nat) (hm : l.length - 1 = m) (w : World) (hNA : NdsAt w b o l) : Calls Tryd.prog 12 #[.slice none 0 0, .slice (some ⟨b, o, none⟩) l.length cap, .int .i64 (m : Int)] w fun e w' => (∃ A' c', e = .returned (.slice A' (swpL l).length c') ∧ NdsV w' A' c' (swpL l)) ∧ Below w.heap.size w w' := by
  obtain ⟨hp, h30, hg, -⟩ := form_right h0
  have hsz := siz_tree h0
  have hsl : swpL l = post (swapT (treeOf l (l.length - 1))) 0 := by unfold swpL; rw [if_pos h0]
  subst hm
  refine (rswp_any b o cap l hg h30 (l.length - 1) (by omega) w.heap.size (.slice none 0 0) [] w (by simp; omega) hNA.1 (Nat.le_refl _) hNA (World.ownsRow_nil _ _ _ _)).mono ?_
  rintro e w'' ⟨v', rfl, hLd⟩
  have ho := hLd.own
  rw [List.nil_append, List.length_nil, ← hsl] at ho
  obtain ⟨A', c', rfl, hV⟩ := nds_own ho
  exact ⟨⟨A', c', rfl, hV⟩, ⟨hLd.kept.os, hLd.kept.tape, hLd.kept.output, hLd.kept.size, fun k hk => hLd.kept.block k hk (by simp [Value.ownBlock])⟩⟩
/-- what is needed throughout -/
structure CtxK (A : Option Addr) (cap : Nat) (l : List Nd) (An : Option Addr) (cn : Nat) (N : List ByteArray) (Ac : Option Addr) (cc : Nat) (C : List (Int × Int)) (w : World) : Prop where
  k : Kind0 w
  l : NdsV w A cap l
  n : NmV w An cn N
  c : CelV w Ac cc C
theorem CtxK.later {A : Option Addr} {cap : Nat} {l : List Nd} {An : Option Addr} {cn : Nat} {N : List ByteArray} {Ac : Option Addr} {cc : Nat} {C : List (Int × Int)} {w w' : World} (h : CtxK A cap l An cn N Ac cc C w) (hb : Below w.heap.size w w') : CtxK A cap l An cn N Ac cc C w' := ⟨h.k.later hb, h.l.later hb, h.n.later hb, h.c.later hb⟩
/-- where the cells lie -/
theorem CelV.here {w : World} {A : Option Addr} {c : Nat} {L : List (Int × Int)} (h : CelV w A c L) {k : Nat} (hk : k < L.length) : ∃ b o, A = some ⟨b, o, none⟩ ∧ CelAt w b o L := by
  obtain ⟨-, -, h0 | h0⟩ := h
  · rw [h0] at hk; cases hk
  · exact h0
theorem NmV.here {w : World} {A : Option Addr} {c : Nat} {N : List ByteArray} (h : NmV w A c N) {k : Nat} (hk : k < N.length) : ∃ b o, A = some ⟨b, o, none⟩ ∧ b < w.heap.size ∧ ∀ j, j < N.length → w.cell? ⟨b, o + j, none⟩ = some (.string (N.getD j noS)) := by
  obtain ⟨-, -, -, h0 | h0⟩ := h
  · rw [h0] at hk; cases hk
  · exact h0
theorem NdsV.here {w : World} {A : Option Addr} {c : Nat} {L : List Nd} (h : NdsV w A c L) (hk : 0 < L.length) : ∃ b o, A = some ⟨b, o, none⟩ ∧ NdsAt w b o L := by
  obtain ⟨-, -, h0 | h0⟩ := h
  · rw [h0] at hk; cases hk
  · exact h0
end Go.Proofs.YtklfenojapgmnaeDoor

namespace Go.Proofs.YtklfenojapgmnaeDoor
open Go.ChangeShapes Go.WideShapes Go.ChangeAt Go.RowKit
set_option maxRecDepth 20000

set_option maxHeartbeats 8000000 in
theorem rkt1 (A : Option Addr) (cap : Nat) (l : List Nd) (An : Option Addr) (cn : Nat) (N : List ByteArray) (Ac : Option Addr) (cc : Nat) (C : List (Int × Int)) (w : World) (hX : CtxK A cap l An cn N Ac cc C w) (E : Int) (hE0 : E ≠ 0) (hE : formErr l = E) :
    Calls Tryd.prog 3 #[.slice A l.length cap, .slice An N.length cn, .slice Ac C.length cc] w fun e w' => e = .returned (.bool true) ∧ Below w.heap.size w w' := by
  have HX : Hid (CtxK A cap l An cn N Ac cc C w) := hX
  have hrf := rform_any A cap l w hX.l
  rw [hE] at hrf
  have hE1 : (E == 0) = false := by simpa using hE0
  have hVE : valE l N C = E ∧ valC l N C = noC := by have := val_form (N := N) (C := C) (l := l) (by rw [hE]; exact hE0); rw [hE] at this; exact this
  have HVE := hid_of hVE
  have HFE := hid_of hE
  have HE0 := hid_of hE0
  clear hE hE0 hX hVE
  obtain ⟨mc, hmc⟩ : ∃ mc, C.length = mc := ⟨_, rfl⟩
  obtain ⟨mn, hmn⟩ : ∃ mn, N.length = mn := ⟨_, rfl⟩
  have HMC := hid_of hmc
  have HMN := hid_of hmn
  rw [hmc, hmn]
  clear hmc hmn
  go_enter Tryd.func3, Tryd.ntmps3
  go_wp2_with fail
  refine hrf.mono ?_
  rintro e w1 ⟨rfl, hb1⟩
  have HB1 := hid_of hb1
  have HX1 := hid_of (HX.out.later hb1)
  clear hb1 hrf
  go_upto_block 0 with fail
  go_cut [8, 9] from 23 (fun s8 s9 wx => s8 = .int .i64 E ∧ Below w1.heap.size w1 wx)
  case first => as_aux_lemma =>
    rcases Nat.eq_zero_or_pos mc with hc0 | hc0
    · have hci : (mc : Int) = 0 := by omega
      go_wp2_with fail
      refine wp_loop_rounds 1 ?_
      rw [rounds_succ]
      go_wp2_with fail
      go_meet
      exact ⟨rfl, Below.refl _ _⟩
    · have hci : 0 < (mc : Int) := by omega
      go_wp2_with fail
      refine wp_loop_rounds 1 ?_
      rw [rounds_succ]
      go_wp2_with fail
      go_meet
      exact ⟨rfl, Below.refl _ _⟩
  case rest => as_aux_lemma =>
    obtain ⟨rfl, hBc⟩ := hcut
    obtain ⟨w2, rfl⟩ : ∃ wx : World, wx = wc := ⟨_, rfl⟩
    have HB2 := hid_of (onB HB1.out hBc)
    have HX2 := hid_of (HX1.out.later hBc)
    clear hBc
    go_upto_block 2 with fail
    go_cut [8, 10] from 23 (fun s8 s10 wx => s8 = .int .i64 E ∧ Below w2.heap.size w2 wx)
    case first => as_aux_lemma =>
      by_cases hc0 : 1 < mn
      · have hci : 1 < (mn : Int) := by omega
        go_wp2_with fail
        refine wp_loop_rounds 1 ?_
        rw [rounds_succ]
        go_wp2_with fail
        go_meet
        exact ⟨rfl, Below.refl _ _⟩
      · have hci : ¬ 1 < (mn : Int) := by omega
        go_wp2_with fail
        refine wp_loop_rounds 1 ?_
        rw [rounds_succ]
        go_wp2_with fail
        go_meet
        exact ⟨rfl, Below.refl _ _⟩
    case rest => as_aux_lemma =>
      obtain ⟨rfl, hBc⟩ := hcut
      obtain ⟨w3, rfl⟩ : ∃ wx : World, wx = wc := ⟨_, rfl⟩
      have HB3 := hid_of (onB HB2.out hBc)
      have HX3 := hid_of (HX2.out.later hBc)
      clear hBc
      obtain ⟨w4, rfl⟩ : ∃ wx : World, wx = w3 := ⟨_, rfl⟩
      have HB4 := hid_of HB3.out
      have HX4 := hid_of HX3.out
      go_upto_block 4 with fail
      go_cut [8, 12] from 23 (fun s8 s12 wx => s8 = .int .i64 E ∧ Below w4.heap.size w4 wx)
      case first => as_aux_lemma =>
        go_wp2_with fail
        refine wp_loop_rounds 1 ?_
        rw [rounds_succ]
        go_wp2_with fail
        go_meet
        exact ⟨rfl, Below.refl _ _⟩
      case rest => as_aux_lemma =>
        obtain ⟨rfl, hBc⟩ := hcut
        obtain ⟨w5, rfl⟩ : ∃ wx : World, wx = wc := ⟨_, rfl⟩
        have HB5 := hid_of (onB HB4.out hBc)
        have HX5 := hid_of (HX4.out.later hBc)
        clear hBc
        obtain ⟨V5, hV5⟩ : ∃ V5, w5.alloc (.cells #[.int .i64 0, .int .i64 0] 28) = V5 := ⟨_, rfl⟩
        have hbV5 : Below w5.heap.size w5 V5 := by rw [← hV5]; exact (Below.refl _ _).alloc (Nat.le_refl _) _
        have hgV5 : V5.heap[w5.heap.size]? = some (.cells #[.int .i64 0, .int .i64 0] 28 (0, 0)) := by rw [← hV5]; exact heap_alloc_new _ _
        have HBV5 := hid_of (onB HB5.out hbV5)
        have HXV5 := hid_of (HX5.out.later hbV5)
        have HGV5 := hid_of hgV5
        clear hbV5 hgV5
        obtain ⟨V6, hV6⟩ : ∃ V6, V5 = V6 := ⟨_, rfl⟩
        have HW6 : Hid (V6.heap[w5.heap.size]? = some (.cells #[.int .i64 0, .int .i64 0] 28 (0, 0))) := by show _ = _; rw [← hV6]; exact HGV5.out
        have HBV6 := hid_of HBV5.out
        have HXV6 := hid_of HXV5.out
        rw [hV6] at HBV6 HXV6 hV5
        clear HGV5 HBV5 HXV5 hV6
        have hval := value_any _ cap l An cn N Ac cc C V6 HXV6.out.l HXV6.out.n HXV6.out.c
        rw [HMN.out, HMC.out, HVE.out.1, HVE.out.2, errV_some HE0.out] at hval
        obtain ⟨VC, hVC⟩ : ∃ VC, noC = VC := ⟨_, rfl⟩
        rw [hVC] at hval
        have HVC0 : Hid (VC = (0, 0)) := hVC.symm
        clear hVC
        go_wp2_with fail
        refine hval.mono ?_
        rintro e w7 ⟨rfl, hb7⟩
        have HB7 := hid_of (onB HBV6.out hb7)
        have HX7 := hid_of (HXV6.out.later hb7)
        have hW7 := (hb7.block w5.heap.size (Array.getElem?_eq_some_iff.1 HW6.out).1).trans HW6.out
        obtain ⟨V7, hV7⟩ : ∃ V7, w7.alloc (.cells #[.int .i64 VC.1, .int .i64 VC.2] 28) = V7 := ⟨_, rfl⟩
        have HGot : Hid (V7.heap[w7.heap.size]? = some (.cells #[.int .i64 VC.1, .int .i64 VC.2] 28 (0, 0))) := by show _ = _; rw [← hV7]; exact heap_alloc_new _ _
        have HWant : Hid (V7.heap[w5.heap.size]? = some (.cells #[.int .i64 0, .int .i64 0] 28 (0, 0))) := by show _ = _; rw [← hV7, heap_alloc_old _ _ (Array.getElem?_eq_some_iff.1 hW7).1]; exact hW7
        have hbV7 : Below w7.heap.size w7 V7 := by rw [← hV7]; exact (Below.refl _ _).alloc (Nat.le_refl _) _
        have HBV7 := hid_of (onB HB7.out hbV7)
        have HXV7 := hid_of (HX7.out.later hbV7)
        have hsame := same_errK (E) V7 HXV7.out.k
        rw [errV_some HE0.out] at hsame
        clear hb7 hW7 hbV7 hval hV5
        go_wp2_with fail
        refine hsame.mono ?_
        rintro e w8 ⟨rfl, hb8⟩
        have HC8 := hid_of hb8
        have HX8 := hid_of (HXV7.out.later hb8)
        clear hb8 hsame hV7
        obtain ⟨w9, rfl⟩ : ∃ wx : World, wx = w8 := ⟨_, rfl⟩
        have HC9 := hid_of HC8.out
        have HX9 := hid_of HX8.out
        have hsp := swap_any _ cap l w9 HX9.out.l
        have hsl : swpL l = [] := by unfold swpL; rw [if_neg (by rw [HFE.out]; exact HE0.out)]
        rw [HFE.out, hsl, errV_some HE0.out] at hsp
        go_wp2_with fail
        refine hsp.mono ?_
        rintro e w10 ⟨⟨Ax, cx, rfl, hNx⟩, hb10⟩
        have HC10 := hid_of (onB HC9.out hb10)
        have HX10 := hid_of (HX9.out.later hb10)
        have HNx := hid_of hNx

        have hse := same_errK (E) w10 HX10.out.k
        rw [errV_some HE0.out] at hse
        clear hb10 hsp hNx
        go_wp2_with fail
        refine hse.mono ?_
        rintro e w11 ⟨rfl, hb11⟩
        have HC11 := hid_of (onB HC10.out hb11)
        have HX11 := hid_of (HX10.out.later hb11)
        have hsn := samends_any Ax none cx 0 [] w11 (by decide) (HNx.out.later hb11) (NdsV.nil _ _ _ (by decide))
        clear hb11 hse
        go_wp2_with fail
        refine hsn.mono ?_
        rintro e w12 ⟨rfl, hb12⟩
        have HC12 := hid_of (onB HC11.out hb12)
        have HX12 := hid_of (HX11.out.later hb12)
        have hcs := const_any _ cap l w12 HX12.out.l
        have hcb : cstB l = false := by unfold cstB; rw [decide_eq_false (by rw [HFE.out]; exact HE0.out)]; rfl
        rw [HFE.out, hcb, errV_some HE0.out] at hcs
        clear hb12 hsn
        go_wp2_with fail
        refine hcs.mono ?_
        rintro e w13 ⟨rfl, hb13⟩
        have HC13 := hid_of (onB HC12.out hb13)
        have HX13 := hid_of (HX12.out.later hb13)
        have hs3 := same_errK (E) w13 HX13.out.k
        rw [errV_some HE0.out] at hs3
        clear hb13 hcs
        go_wp2_with fail
        refine hs3.mono ?_
        rintro e w14 ⟨rfl, hb14⟩
        have HC14 := hid_of (onB HC13.out hb14)
        have hB14 := onB HBV7.out HC14.out
        have HB14 := hid_of hB14
        obtain ⟨q1, q2, q3, -, -⟩ := box2 HWant.out HC14.out
        obtain ⟨p1, p2, p3, -, -⟩ := box2 HGot.out HC14.out
        have hz1 : VC.1 = 0 := by rw [HVC0.out]
        have hz2 : VC.2 = 0 := by rw [HVC0.out]
        rw [hz1] at p2
        rw [hz2] at p3
        clear hz1 hz2
        clear hb14 hs3 hB14
        go_wp2_with fail
        go_ret
        exact ⟨rfl, HB14.out⟩
end Go.Proofs.YtklfenojapgmnaeDoor

namespace Go.Proofs.YtklfenojapgmnaeDoor
open Go.ChangeShapes Go.WideShapes Go.ChangeAt Go.RowKit
set_option maxRecDepth 20000

set_option maxHeartbeats 8000000 in
theorem rkt2 (A : Option Addr) (cap : Nat) (l : List Nd) (An : Option Addr) (cn : Nat) (N : List ByteArray) (Ac : Option Addr) (cc : Nat) (C : List (Int × Int)) (w : World) (hX : CtxK A cap l An cn N Ac cc C w) (hE : formErr l = 0) (hlen : C.length ≠ N.length) :
    Calls Tryd.prog 3 #[.slice A l.length cap, .slice An N.length cn, .slice Ac C.length cc] w fun e w' => e = .returned (.bool true) ∧ Below w.heap.size w w' := by
  have HX : Hid (CtxK A cap l An cn N Ac cc C w) := hX
  have hrf := rform_any A cap l w hX.l
  rw [hE] at hrf
  have HFE := hid_of hE
  have hne : ((N.length : Int) != (C.length : Int)) = true := by simp; omega
  have hVE := val_ck (l := l) hE (by rw [ck_shape hlen]; decide)
  rw [ck_shape hlen] at hVE
  have HVE := hid_of hVE
  clear hE hX hVE hlen
  obtain ⟨mc, hmc⟩ : ∃ mc, C.length = mc := ⟨_, rfl⟩
  obtain ⟨mn, hmn⟩ : ∃ mn, N.length = mn := ⟨_, rfl⟩
  have HMC := hid_of hmc
  have HMN := hid_of hmn
  rw [hmc, hmn] at hne
  rw [hmc, hmn]
  clear hmc hmn
  go_enter Tryd.func3, Tryd.ntmps3
  go_wp2_with fail
  refine hrf.mono ?_
  rintro e w1 ⟨rfl, hb1⟩
  have HB1 := hid_of hb1
  have HX1 := hid_of (HX.out.later hb1)
  clear hb1 hrf
  go_upto_block 0 with fail
  go_cut [8, 9] from 23 (fun s8 s9 wx => s8 = .int .i64 3 ∧ Below w1.heap.size w1 wx)
  case first => as_aux_lemma =>
    rcases Nat.eq_zero_or_pos mc with hc0 | hc0
    · have hci : (mc : Int) = 0 := by omega
      go_wp2_with fail
      refine wp_loop_rounds 1 ?_
      rw [rounds_succ]
      go_wp2_with fail
      go_meet
      exact ⟨rfl, Below.refl _ _⟩
    · have hci : 0 < (mc : Int) := by omega
      go_wp2_with fail
      refine wp_loop_rounds 1 ?_
      rw [rounds_succ]
      go_wp2_with fail
      go_meet
      exact ⟨rfl, Below.refl _ _⟩
  case rest => as_aux_lemma =>
    obtain ⟨rfl, hBc⟩ := hcut
    obtain ⟨w2, rfl⟩ : ∃ wx : World, wx = wc := ⟨_, rfl⟩
    have HB2 := hid_of (onB HB1.out hBc)
    have HX2 := hid_of (HX1.out.later hBc)
    clear hBc
    go_upto_block 2 with fail
    go_cut [8, 10] from 23 (fun s8 s10 wx => s8 = .int .i64 3 ∧ Below w2.heap.size w2 wx)
    case first => as_aux_lemma =>
      by_cases hc0 : 1 < mn
      · have hci : 1 < (mn : Int) := by omega
        go_wp2_with fail
        refine wp_loop_rounds 1 ?_
        rw [rounds_succ]
        go_wp2_with fail
        go_meet
        exact ⟨rfl, Below.refl _ _⟩
      · have hci : ¬ 1 < (mn : Int) := by omega
        go_wp2_with fail
        refine wp_loop_rounds 1 ?_
        rw [rounds_succ]
        go_wp2_with fail
        go_meet
        exact ⟨rfl, Below.refl _ _⟩
    case rest => as_aux_lemma =>
      obtain ⟨rfl, hBc⟩ := hcut
      obtain ⟨w3, rfl⟩ : ∃ wx : World, wx = wc := ⟨_, rfl⟩
      have HB3 := hid_of (onB HB2.out hBc)
      have HX3 := hid_of (HX2.out.later hBc)
      clear hBc
      obtain ⟨hp, h30, hrg, -⟩ := form_right HFE.out
      have HRg : Hid (RightL l) := hrg
      obtain ⟨b, o, rfl, hNA⟩ := HX3.out.l.here hp
      have hrr := rrefs_any b o cap l w3 h30 hNA
      have hli : (l.length : Int) ≤ 30 := by omega
      have hl1 : 1 ≤ (l.length : Int) := by omega
      obtain ⟨ml, hml⟩ : ∃ ml, l.length - 1 = ml := ⟨_, rfl⟩
      have HML := hid_of hml
      have hsub : (l.length : Int) - 1 = (ml : Int) := by omega
      clear hrg hNA hml
      go_wp2_with fail
      refine hrr.mono ?_
      rintro e w4 ⟨⟨v, R, rfl, hown, hRf⟩, hb4⟩
      have HB4 := hid_of (onB HB3.out hb4)
      have HX4 := hid_of (HX3.out.later hb4)
      have HRf : Hid (RefsTo l l.length R) := hRf
      obtain ⟨Ar, cr, hv⟩ := own_form hown
      subst hv
      have HOw := hid_of hown
      obtain ⟨mr, hmr⟩ : ∃ mr, R.length = mr := ⟨_, rfl⟩
      have HMR := hid_of hmr
      have hmri : (mr : Int) ≤ 30 := by have := hRf.1; omega
      rw [hmr]
      clear hb4 hrr hown hRf hmr
      go_upto_block 4 with fail
      go_cut [8, 12] from 23 (fun s8 s12 wx => s8 = .int .i64 3 ∧ Below w4.heap.size w4 wx)
      case first => as_aux_lemma =>
        rcases Nat.eq_zero_or_pos mr with hc0 | hc0
        · have hci : (mr : Int) = 0 := by omega
          go_wp2_with fail
          refine wp_loop_rounds 1 ?_
          rw [rounds_succ]
          go_wp2_with fail
          go_meet
          exact ⟨rfl, Below.refl _ _⟩
        · have hci : 0 < (mr : Int) := by omega
          go_wp2_with fail
          refine wp_loop_rounds 1 ?_
          rw [rounds_succ]
          go_wp2_with fail
          go_meet
          exact ⟨rfl, Below.refl _ _⟩
      case rest => as_aux_lemma =>
        obtain ⟨rfl, hBc⟩ := hcut
        obtain ⟨w5, rfl⟩ : ∃ wx : World, wx = wc := ⟨_, rfl⟩
        have HB5 := hid_of (onB HB4.out hBc)
        have HX5 := hid_of (HX4.out.later hBc)
        clear hBc
        obtain ⟨V5, hV5⟩ : ∃ V5, w5.alloc (.cells #[.int .i64 0, .int .i64 0] 28) = V5 := ⟨_, rfl⟩
        have hbV5 : Below w5.heap.size w5 V5 := by rw [← hV5]; exact (Below.refl _ _).alloc (Nat.le_refl _) _
        have hgV5 : V5.heap[w5.heap.size]? = some (.cells #[.int .i64 0, .int .i64 0] 28 (0, 0)) := by rw [← hV5]; exact heap_alloc_new _ _
        have HBV5 := hid_of (onB HB5.out hbV5)
        have HXV5 := hid_of (HX5.out.later hbV5)
        have HGV5 := hid_of hgV5
        clear hbV5 hgV5
        obtain ⟨V6, hV6⟩ : ∃ V6, V5 = V6 := ⟨_, rfl⟩
        have HW6 : Hid (V6.heap[w5.heap.size]? = some (.cells #[.int .i64 0, .int .i64 0] 28 (0, 0))) := by show _ = _; rw [← hV6]; exact HGV5.out
        have HBV6 := hid_of HBV5.out
        have HXV6 := hid_of HXV5.out
        rw [hV6] at HBV6 HXV6 hV5
        clear HGV5 HBV5 HXV5 hV6
        have hval := value_any _ cap l An cn N Ac cc C V6 HXV6.out.l HXV6.out.n HXV6.out.c
        rw [HMN.out, HMC.out, HVE.out.1, HVE.out.2, errV_some (by decide)] at hval
        obtain ⟨VC, hVC⟩ : ∃ VC, noC = VC := ⟨_, rfl⟩
        rw [hVC] at hval
        have HVC0 : Hid (VC = (0, 0)) := hVC.symm
        clear hVC
        go_wp2_with fail
        refine hval.mono ?_
        rintro e w7 ⟨rfl, hb7⟩
        have HB7 := hid_of (onB HBV6.out hb7)
        have HX7 := hid_of (HXV6.out.later hb7)
        have hW7 := (hb7.block w5.heap.size (Array.getElem?_eq_some_iff.1 HW6.out).1).trans HW6.out
        obtain ⟨V7, hV7⟩ : ∃ V7, w7.alloc (.cells #[.int .i64 VC.1, .int .i64 VC.2] 28) = V7 := ⟨_, rfl⟩
        have HGot : Hid (V7.heap[w7.heap.size]? = some (.cells #[.int .i64 VC.1, .int .i64 VC.2] 28 (0, 0))) := by show _ = _; rw [← hV7]; exact heap_alloc_new _ _
        have HWant : Hid (V7.heap[w5.heap.size]? = some (.cells #[.int .i64 0, .int .i64 0] 28 (0, 0))) := by show _ = _; rw [← hV7, heap_alloc_old _ _ (Array.getElem?_eq_some_iff.1 hW7).1]; exact hW7
        have hbV7 : Below w7.heap.size w7 V7 := by rw [← hV7]; exact (Below.refl _ _).alloc (Nat.le_refl _) _
        have HBV7 := hid_of (onB HB7.out hbV7)
        have HXV7 := hid_of (HX7.out.later hbV7)
        have hsame := same_errK (3) V7 HXV7.out.k
        rw [errV_some (by decide)] at hsame
        clear hb7 hW7 hbV7 hval hV5
        go_wp2_with fail
        refine hsame.mono ?_
        rintro e w8 ⟨rfl, hb8⟩
        have HC8 := hid_of hb8
        have HX8 := hid_of (HXV7.out.later hb8)
        clear hb8 hsame hV7
        obtain ⟨b', o', hAe, hNA⟩ := HX8.out.l.here (by omega)
        cases hAe
        have hsw := rswapped_all b o cap l HFE.out ml HML.out w8 hNA
        clear hNA
        go_wp2_with fail
        refine hsw.mono ?_
        rintro e w9 ⟨⟨As, cs, rfl, hNs⟩, hb9⟩
        have HC9 := hid_of (onB HC8.out hb9)
        have HX9 := hid_of (HX8.out.later hb9)
        have HNs := hid_of hNs
        clear hb9 hsw hNs
        have hsp := swap_any _ cap l w9 HX9.out.l
        rw [HFE.out, errV_zero] at hsp
        go_wp2_with fail
        refine hsp.mono ?_
        rintro e w10 ⟨⟨Ax, cx, rfl, hNx⟩, hb10⟩
        have HC10 := hid_of (onB HC9.out hb10)
        have HX10 := hid_of (HX9.out.later hb10)
        have HNx := hid_of hNx
        have HNt := hid_of (HNs.out.later hb10)
        have hse := same_errK (0) w10 HX10.out.k
        rw [errV_zero] at hse
        clear hb10 hsp hNx
        go_wp2_with fail
        refine hse.mono ?_
        rintro e w11 ⟨rfl, hb11⟩
        have HC11 := hid_of (onB HC10.out hb11)
        have HX11 := hid_of (HX10.out.later hb11)
        have hsn := samends_any Ax As cx cs (swpL l) w11 (by rw [(swp_form HFE.out).2.2]; omega) (HNx.out.later hb11) (HNt.out.later hb11)
        clear hb11 hse
        go_wp2_with fail
        refine hsn.mono ?_
        rintro e w12 ⟨rfl, hb12⟩
        have HC12 := hid_of (onB HC11.out hb12)
        have HX12 := hid_of (HX11.out.later hb12)
        have hcs := const_any _ cap l w12 HX12.out.l
        obtain ⟨cb, hcb⟩ : ∃ cb, cstB l = cb := ⟨_, rfl⟩
        have HCb : Hid (cb = decide ((mr : Int) = 0)) := by show _ = _; rw [← hcb, refs_const HFE.out HRf.out, HMR.out]
        rw [HFE.out, hcb, errV_zero] at hcs
        clear hcb
        clear hb12 hsn
        go_wp2_with fail
        refine hcs.mono ?_
        rintro e w13 ⟨rfl, hb13⟩
        have HC13 := hid_of (onB HC12.out hb13)
        have HX13 := hid_of (HX12.out.later hb13)
        have hs3 := same_errK (0) w13 HX13.out.k
        rw [errV_zero] at hs3
        clear hb13 hcs
        go_wp2_with fail
        refine hs3.mono ?_
        rintro e w14 ⟨rfl, hb14⟩
        have HC14 := hid_of (onB HC13.out hb14)
        have hB14 := onB HBV7.out HC14.out
        have HB14 := hid_of hB14
        obtain ⟨q1, q2, q3, -, -⟩ := box2 HWant.out HC14.out
        obtain ⟨p1, p2, p3, -, -⟩ := box2 HGot.out HC14.out
        have hz1 : VC.1 = 0 := by rw [HVC0.out]
        have hz2 : VC.2 = 0 := by rw [HVC0.out]
        rw [hz1] at p2
        rw [hz2] at p3
        clear hz1 hz2
        clear hb14 hs3 hB14
        by_cases hm0 : mr = 0
        · have hcb : cb = true := by rw [HCb.out]; exact decide_eq_true (by omega)
          subst hcb
          have hmi0 : ((mr : Int) == 0) = true := by simp; omega
          clear hm0
          go_wp2_with fail
          go_ret
          exact ⟨rfl, HB14.out⟩
        · have hcb : cb = false := by rw [HCb.out]; exact decide_eq_false (by omega)
          subst hcb
          have hmi0 : ((mr : Int) == 0) = false := by simp; omega
          clear hm0
          go_wp2_with fail
          go_ret
          exact ⟨rfl, HB14.out⟩
end Go.Proofs.YtklfenojapgmnaeDoor

namespace Go.Proofs.YtklfenojapgmnaeDoor
open Go.ChangeShapes Go.WideShapes Go.ChangeAt Go.RowKit
set_option maxRecDepth 20000

set_option maxHeartbeats 8000000 in
theorem rkt3 (A : Option Addr) (cap : Nat) (l : List Nd) (An : Option Addr) (cn : Nat) (N : List ByteArray) (Ac : Option Addr) (cc : Nat) (C : List (Int × Int)) (w : World) (hX : CtxK A cap l An cn N Ac cc C w) (hE : formErr l = 0) (hlen : C.length = N.length) (hbad : ¬ ∀ j, j < C.length → goodB C j = false) :
    Calls Tryd.prog 3 #[.slice A l.length cap, .slice An N.length cn, .slice Ac C.length cc] w fun e w' => e = .returned (.bool true) ∧ Below w.heap.size w w' := by
  have HX : Hid (CtxK A cap l An cn N Ac cc C w) := hX
  have hrf := rform_any A cap l w hX.l
  rw [hE] at hrf
  have HFE := hid_of hE
  have hne : ((N.length : Int) != (C.length : Int)) = false := by simp; omega
  have HCL : Hid (C.length = N.length) := hlen
  have HBad := hid_of hbad
  have hVE := val_ck (l := l) hE (N := N) (C := C) (by
    have h1 : ckErr N C = 1 := Classical.byContradiction fun h => hbad fun j hj => by
      cases e : goodB C j
      · rfl
      · exact absurd (ck_cell hlen hj e) h
    rw [h1]; decide)
  have h1 : ckErr N C = 1 := Classical.byContradiction fun h => hbad fun j hj => by
    cases e : goodB C j
    · rfl
    · exact absurd (ck_cell hlen hj e) h
  rw [h1] at hVE
  have HVE := hid_of hVE
  clear hE hX hVE hlen hbad h1
  obtain ⟨mc, hmc⟩ : ∃ mc, C.length = mc := ⟨_, rfl⟩
  obtain ⟨mn, hmn⟩ : ∃ mn, N.length = mn := ⟨_, rfl⟩
  have HMC := hid_of hmc
  have HMN := hid_of hmn
  rw [hmc, hmn] at hne
  rw [hmc, hmn]
  clear hmc hmn
  go_enter Tryd.func3, Tryd.ntmps3
  go_wp2_with fail
  refine hrf.mono ?_
  rintro e w1 ⟨rfl, hb1⟩
  have HB1 := hid_of hb1
  have HX1 := hid_of (HX.out.later hb1)
  clear hb1 hrf
  go_upto_block 0 with fail
  go_cut [8, 9] from 23 (fun s8 s9 wx => s8 = .int .i64 1 ∧ Below w1.heap.size w1 wx)
  case first => as_aux_lemma =>
    have HM : Hid (C.length = mc) := HMC.out
    have hmi : (mc : Int) < 4611686018427387904 := by have := HCL.out; have := HMC.out; have := HX1.out.n.2.1; omega
    go_wp2_with fail
    go_loopg [8, 9] (mc + 1) (fun g s8 s9 wr => ∃ (k : Nat), k ≤ mc ∧ g = mc + 1 - k ∧ s9 = .int .i64 k ∧ ((s8 = .int .i64 0 ∧ ∀ j, j < k → goodB C j = false) ∨ (s8 = .int .i64 1)) ∧ Below w1.heap.size w1 wr)
    case atStart => exact ⟨0, Nat.zero_le _, rfl, rfl, Or.inl ⟨rfl, fun j hj => absurd hj (Nat.not_lt_zero j)⟩, Below.refl _ _⟩
    case round =>
      obtain ⟨k, hk, rfl, rfl, hs | hs, hBw⟩ := hrel
      · obtain ⟨rfl, hal⟩ := hs
        have HW := hid_of hBw
        have HAl : Hid (∀ j, j < k → goodB C j = false) := hal
        clear hBw hal
        by_cases hlt : k < mc
        · have hki : (k : Int) < (mc : Int) := by omega
          obtain ⟨b, o, rfl, hCA⟩ := (HX1.out.later HW.out).c.here (k := k) (by rw [HM.out]; exact hlt)
          obtain ⟨x0, x1⟩ := hCA.2 k (by rw [HM.out]; exact hlt)
          have hrc := rcell_if (C.getD k noC).1 (C.getD k noC).2
          have HGk : Hid (goodB C k = !(good (C.getD k noC).1 (C.getD k noC).2)) := by show _ = _; rfl
          generalize (C.getD k noC).1 = kk at x0 hrc HGk
          generalize (C.getD k noC).2 = nn at x1 hrc HGk
          clear hCA
          cases hgo : good kk nn
          · rw [hgo, if_neg (by decide)] at hrc
            clear hgo
            go_wp2_with fail
            refine (hrc _).mono ?_
            rintro e w2 ⟨rfl, hb2⟩
            have HB2 := hid_of (onB HW.out hb2)
            clear hb2 hrc
            go_wp2_with fail
            go_roundg (mc + 1 - (k + 1))
            case measure => omega
            case rel => exact ⟨k + 1, by omega, rfl, by go_num, Or.inr rfl, HB2.out⟩
          · rw [hgo, if_pos rfl] at hrc
            have HGd : Hid (goodB C k = false) := by show _ = _; rw [HGk.out, hgo]; rfl
            clear hgo
            go_wp2_with fail
            refine (hrc _).mono ?_
            rintro e w2 ⟨rfl, hb2⟩
            have HB2 := hid_of (onB HW.out hb2)
            clear hb2 hrc
            go_wp2_with fail
            go_roundg (mc + 1 - (k + 1))
            case measure => omega
            case rel => exact ⟨k + 1, by omega, rfl, by go_num, Or.inl ⟨rfl, fun j hj => by rcases Nat.lt_succ_iff_lt_or_eq.1 hj with h | h; exact HAl.out j h; rw [h]; exact HGd.out⟩, HB2.out⟩
        · have hke : k = mc := by omega
          exfalso
          exact HBad.out (fun j hj => HAl.out j (by rw [HM.out] at hj; omega))
      · subst hs
        have HW := hid_of hBw
        clear hBw
        by_cases hlt : k < mc
        · have hki : (k : Int) < (mc : Int) := by omega
          go_wp2_with fail
          go_meet
          exact ⟨rfl, HW.out⟩
        · have hke : k = mc := by omega
          subst hke
          go_wp2_with fail
          go_meet
          exact ⟨rfl, HW.out⟩
  case rest => as_aux_lemma =>
    obtain ⟨rfl, hBc⟩ := hcut
    obtain ⟨w2, rfl⟩ : ∃ wx : World, wx = wc := ⟨_, rfl⟩
    have HB2 := hid_of (onB HB1.out hBc)
    have HX2 := hid_of (HX1.out.later hBc)
    clear hBc
    go_upto_block 2 with fail
    go_cut [8, 10] from 23 (fun s8 s10 wx => s8 = .int .i64 1 ∧ Below w2.heap.size w2 wx)
    case first => as_aux_lemma =>
      by_cases hc0 : 1 < mn
      · have hci : 1 < (mn : Int) := by omega
        go_wp2_with fail
        refine wp_loop_rounds 1 ?_
        rw [rounds_succ]
        go_wp2_with fail
        go_meet
        exact ⟨rfl, Below.refl _ _⟩
      · have hci : ¬ 1 < (mn : Int) := by omega
        go_wp2_with fail
        refine wp_loop_rounds 1 ?_
        rw [rounds_succ]
        go_wp2_with fail
        go_meet
        exact ⟨rfl, Below.refl _ _⟩
    case rest => as_aux_lemma =>
      obtain ⟨rfl, hBc⟩ := hcut
      obtain ⟨w3, rfl⟩ : ∃ wx : World, wx = wc := ⟨_, rfl⟩
      have HB3 := hid_of (onB HB2.out hBc)
      have HX3 := hid_of (HX2.out.later hBc)
      clear hBc
      obtain ⟨hp, h30, hrg, -⟩ := form_right HFE.out
      have HRg : Hid (RightL l) := hrg
      obtain ⟨b, o, rfl, hNA⟩ := HX3.out.l.here hp
      have hrr := rrefs_any b o cap l w3 h30 hNA
      have hli : (l.length : Int) ≤ 30 := by omega
      have hl1 : 1 ≤ (l.length : Int) := by omega
      obtain ⟨ml, hml⟩ : ∃ ml, l.length - 1 = ml := ⟨_, rfl⟩
      have HML := hid_of hml
      have hsub : (l.length : Int) - 1 = (ml : Int) := by omega
      clear hrg hNA hml
      go_wp2_with fail
      refine hrr.mono ?_
      rintro e w4 ⟨⟨v, R, rfl, hown, hRf⟩, hb4⟩
      have HB4 := hid_of (onB HB3.out hb4)
      have HX4 := hid_of (HX3.out.later hb4)
      have HRf : Hid (RefsTo l l.length R) := hRf
      obtain ⟨Ar, cr, hv⟩ := own_form hown
      subst hv
      have HOw := hid_of hown
      obtain ⟨mr, hmr⟩ : ∃ mr, R.length = mr := ⟨_, rfl⟩
      have HMR := hid_of hmr
      have hmri : (mr : Int) ≤ 30 := by have := hRf.1; omega
      rw [hmr]
      clear hb4 hrr hown hRf hmr
      go_upto_block 4 with fail
      go_cut [8, 12] from 23 (fun s8 s12 wx => s8 = .int .i64 1 ∧ Below w4.heap.size w4 wx)
      case first => as_aux_lemma =>
        rcases Nat.eq_zero_or_pos mr with hc0 | hc0
        · have hci : (mr : Int) = 0 := by omega
          go_wp2_with fail
          refine wp_loop_rounds 1 ?_
          rw [rounds_succ]
          go_wp2_with fail
          go_meet
          exact ⟨rfl, Below.refl _ _⟩
        · have hci : 0 < (mr : Int) := by omega
          go_wp2_with fail
          refine wp_loop_rounds 1 ?_
          rw [rounds_succ]
          go_wp2_with fail
          go_meet
          exact ⟨rfl, Below.refl _ _⟩
      case rest => as_aux_lemma =>
        obtain ⟨rfl, hBc⟩ := hcut
        obtain ⟨w5, rfl⟩ : ∃ wx : World, wx = wc := ⟨_, rfl⟩
        have HB5 := hid_of (onB HB4.out hBc)
        have HX5 := hid_of (HX4.out.later hBc)
        clear hBc
        obtain ⟨V5, hV5⟩ : ∃ V5, w5.alloc (.cells #[.int .i64 0, .int .i64 0] 28) = V5 := ⟨_, rfl⟩
        have hbV5 : Below w5.heap.size w5 V5 := by rw [← hV5]; exact (Below.refl _ _).alloc (Nat.le_refl _) _
        have hgV5 : V5.heap[w5.heap.size]? = some (.cells #[.int .i64 0, .int .i64 0] 28 (0, 0)) := by rw [← hV5]; exact heap_alloc_new _ _
        have HBV5 := hid_of (onB HB5.out hbV5)
        have HXV5 := hid_of (HX5.out.later hbV5)
        have HGV5 := hid_of hgV5
        clear hbV5 hgV5
        obtain ⟨V6, hV6⟩ : ∃ V6, V5 = V6 := ⟨_, rfl⟩
        have HW6 : Hid (V6.heap[w5.heap.size]? = some (.cells #[.int .i64 0, .int .i64 0] 28 (0, 0))) := by show _ = _; rw [← hV6]; exact HGV5.out
        have HBV6 := hid_of HBV5.out
        have HXV6 := hid_of HXV5.out
        rw [hV6] at HBV6 HXV6 hV5
        clear HGV5 HBV5 HXV5 hV6
        have hval := value_any _ cap l An cn N Ac cc C V6 HXV6.out.l HXV6.out.n HXV6.out.c
        rw [HMN.out, HMC.out, HVE.out.1, HVE.out.2, errV_some (by decide)] at hval
        obtain ⟨VC, hVC⟩ : ∃ VC, noC = VC := ⟨_, rfl⟩
        rw [hVC] at hval
        have HVC0 : Hid (VC = (0, 0)) := hVC.symm
        clear hVC
        go_wp2_with fail
        refine hval.mono ?_
        rintro e w7 ⟨rfl, hb7⟩
        have HB7 := hid_of (onB HBV6.out hb7)
        have HX7 := hid_of (HXV6.out.later hb7)
        have hW7 := (hb7.block w5.heap.size (Array.getElem?_eq_some_iff.1 HW6.out).1).trans HW6.out
        obtain ⟨V7, hV7⟩ : ∃ V7, w7.alloc (.cells #[.int .i64 VC.1, .int .i64 VC.2] 28) = V7 := ⟨_, rfl⟩
        have HGot : Hid (V7.heap[w7.heap.size]? = some (.cells #[.int .i64 VC.1, .int .i64 VC.2] 28 (0, 0))) := by show _ = _; rw [← hV7]; exact heap_alloc_new _ _
        have HWant : Hid (V7.heap[w5.heap.size]? = some (.cells #[.int .i64 0, .int .i64 0] 28 (0, 0))) := by show _ = _; rw [← hV7, heap_alloc_old _ _ (Array.getElem?_eq_some_iff.1 hW7).1]; exact hW7
        have hbV7 : Below w7.heap.size w7 V7 := by rw [← hV7]; exact (Below.refl _ _).alloc (Nat.le_refl _) _
        have HBV7 := hid_of (onB HB7.out hbV7)
        have HXV7 := hid_of (HX7.out.later hbV7)
        have hsame := same_errK (1) V7 HXV7.out.k
        rw [errV_some (by decide)] at hsame
        clear hb7 hW7 hbV7 hval hV5
        go_wp2_with fail
        refine hsame.mono ?_
        rintro e w8 ⟨rfl, hb8⟩
        have HC8 := hid_of hb8
        have HX8 := hid_of (HXV7.out.later hb8)
        clear hb8 hsame hV7
        obtain ⟨b', o', hAe, hNA⟩ := HX8.out.l.here (by omega)
        cases hAe
        have hsw := rswapped_all b o cap l HFE.out ml HML.out w8 hNA
        clear hNA
        go_wp2_with fail
        refine hsw.mono ?_
        rintro e w9 ⟨⟨As, cs, rfl, hNs⟩, hb9⟩
        have HC9 := hid_of (onB HC8.out hb9)
        have HX9 := hid_of (HX8.out.later hb9)
        have HNs := hid_of hNs
        clear hb9 hsw hNs
        have hsp := swap_any _ cap l w9 HX9.out.l
        rw [HFE.out, errV_zero] at hsp
        go_wp2_with fail
        refine hsp.mono ?_
        rintro e w10 ⟨⟨Ax, cx, rfl, hNx⟩, hb10⟩
        have HC10 := hid_of (onB HC9.out hb10)
        have HX10 := hid_of (HX9.out.later hb10)
        have HNx := hid_of hNx
        have HNt := hid_of (HNs.out.later hb10)
        have hse := same_errK (0) w10 HX10.out.k
        rw [errV_zero] at hse
        clear hb10 hsp hNx
        go_wp2_with fail
        refine hse.mono ?_
        rintro e w11 ⟨rfl, hb11⟩
        have HC11 := hid_of (onB HC10.out hb11)
        have HX11 := hid_of (HX10.out.later hb11)
        have hsn := samends_any Ax As cx cs (swpL l) w11 (by rw [(swp_form HFE.out).2.2]; omega) (HNx.out.later hb11) (HNt.out.later hb11)
        clear hb11 hse
        go_wp2_with fail
        refine hsn.mono ?_
        rintro e w12 ⟨rfl, hb12⟩
        have HC12 := hid_of (onB HC11.out hb12)
        have HX12 := hid_of (HX11.out.later hb12)
        have hcs := const_any _ cap l w12 HX12.out.l
        obtain ⟨cb, hcb⟩ : ∃ cb, cstB l = cb := ⟨_, rfl⟩
        have HCb : Hid (cb = decide ((mr : Int) = 0)) := by show _ = _; rw [← hcb, refs_const HFE.out HRf.out, HMR.out]
        rw [HFE.out, hcb, errV_zero] at hcs
        clear hcb
        clear hb12 hsn
        go_wp2_with fail
        refine hcs.mono ?_
        rintro e w13 ⟨rfl, hb13⟩
        have HC13 := hid_of (onB HC12.out hb13)
        have HX13 := hid_of (HX12.out.later hb13)
        have hs3 := same_errK (0) w13 HX13.out.k
        rw [errV_zero] at hs3
        clear hb13 hcs
        go_wp2_with fail
        refine hs3.mono ?_
        rintro e w14 ⟨rfl, hb14⟩
        have HC14 := hid_of (onB HC13.out hb14)
        have hB14 := onB HBV7.out HC14.out
        have HB14 := hid_of hB14
        obtain ⟨q1, q2, q3, -, -⟩ := box2 HWant.out HC14.out
        obtain ⟨p1, p2, p3, -, -⟩ := box2 HGot.out HC14.out
        have hz1 : VC.1 = 0 := by rw [HVC0.out]
        have hz2 : VC.2 = 0 := by rw [HVC0.out]
        rw [hz1] at p2
        rw [hz2] at p3
        clear hz1 hz2
        clear hb14 hs3 hB14
        by_cases hm0 : mr = 0
        · have hcb : cb = true := by rw [HCb.out]; exact decide_eq_true (by omega)
          subst hcb
          have hmi0 : ((mr : Int) == 0) = true := by simp; omega
          clear hm0
          go_wp2_with fail
          go_ret
          exact ⟨rfl, HB14.out⟩
        · have hcb : cb = false := by rw [HCb.out]; exact decide_eq_false (by omega)
          subst hcb
          have hmi0 : ((mr : Int) == 0) = false := by simp; omega
          clear hm0
          go_wp2_with fail
          go_ret
          exact ⟨rfl, HB14.out⟩
end Go.Proofs.YtklfenojapgmnaeDoor

namespace Go.Proofs.YtklfenojapgmnaeDoor
open Go.ChangeShapes Go.WideShapes Go.ChangeAt Go.RowKit
set_option maxRecDepth 20000

set_option maxHeartbeats 8000000 in
theorem rkt4 (A : Option Addr) (cap : Nat) (l : List Nd) (An : Option Addr) (cn : Nat) (N : List ByteArray) (Ac : Option Addr) (cc : Nat) (C : List (Int × Int)) (w : World) (hX : CtxK A cap l An cn N Ac cc C w) (hE : formErr l = 0) (hlen : C.length = N.length) (hg : ∀ j, j < C.length → goodB C j = false) (hbad : ¬ ∀ j, 1 ≤ j → j < N.length → downS N j = false) :
    Calls Tryd.prog 3 #[.slice A l.length cap, .slice An N.length cn, .slice Ac C.length cc] w fun e w' => e = .returned (.bool true) ∧ Below w.heap.size w w' := by
  have HX : Hid (CtxK A cap l An cn N Ac cc C w) := hX
  have hrf := rform_any A cap l w hX.l
  rw [hE] at hrf
  have HFE := hid_of hE
  have hne : ((N.length : Int) != (C.length : Int)) = false := by simp; omega
  have HCL : Hid (C.length = N.length) := hlen
  have HG := hid_of hg
  have HBad := hid_of hbad
  have h1 : ckErr N C = 7 := Classical.byContradiction fun h => hbad fun j h1 hj => by
    cases e : downS N j
    · rfl
    · exact absurd (ck_down hlen hg h1 hj e) h
  have hVE := val_ck (l := l) hE (N := N) (C := C) (by rw [h1]; decide)
  rw [h1] at hVE
  have HVE := hid_of hVE
  clear hE hX hVE hlen hg hbad h1
  obtain ⟨mc, hmc⟩ : ∃ mc, C.length = mc := ⟨_, rfl⟩
  obtain ⟨mn, hmn⟩ : ∃ mn, N.length = mn := ⟨_, rfl⟩
  have HMC := hid_of hmc
  have HMN := hid_of hmn
  rw [hmc, hmn] at hne
  rw [hmc, hmn]
  clear hmc hmn
  go_enter Tryd.func3, Tryd.ntmps3
  go_wp2_with fail
  refine hrf.mono ?_
  rintro e w1 ⟨rfl, hb1⟩
  have HB1 := hid_of hb1
  have HX1 := hid_of (HX.out.later hb1)
  clear hb1 hrf
  go_upto_block 0 with fail
  go_cut [8, 9] from 23 (fun s8 s9 wx => s8 = .int .i64 0 ∧ Below w1.heap.size w1 wx)
  case first => as_aux_lemma =>
    have HM : Hid (C.length = mc) := HMC.out
    have hmi : (mc : Int) < 4611686018427387904 := by have := HCL.out; have := HMC.out; have := HX1.out.n.2.1; omega
    go_wp2_with fail
    go_loopg [8, 9] (mc + 1) (fun g s8 s9 wr => ∃ (k : Nat), k ≤ mc ∧ g = mc + 1 - k ∧ s9 = .int .i64 k ∧ s8 = .int .i64 0 ∧ Below w1.heap.size w1 wr)
    case atStart => exact ⟨0, Nat.zero_le _, rfl, rfl, rfl, Below.refl _ _⟩
    case round =>
      obtain ⟨k, hk, rfl, rfl, rfl, hBw⟩ := hrel
      have HW := hid_of hBw
      clear hBw
      by_cases hlt : k < mc
      · have hki : (k : Int) < (mc : Int) := by omega
        obtain ⟨b, o, rfl, hCA⟩ := (HX1.out.later HW.out).c.here (k := k) (by rw [HM.out]; exact hlt)
        obtain ⟨x0, x1⟩ := hCA.2 k (by rw [HM.out]; exact hlt)
        have hgd := HG.out k (by rw [HM.out]; exact hlt)
        have hrc := rcell_if (C.getD k noC).1 (C.getD k noC).2
        have hgo : good (C.getD k noC).1 (C.getD k noC).2 = true := by unfold goodB at hgd; simpa using hgd
        rw [if_pos hgo] at hrc
        generalize (C.getD k noC).1 = kk at x0 hrc
        generalize (C.getD k noC).2 = nn at x1 hrc
        clear hCA hgd hgo
        go_wp2_with fail
        refine (hrc _).mono ?_
        rintro e w2 ⟨rfl, hb2⟩
        have HB2 := hid_of (onB HW.out hb2)
        clear hb2 hrc
        go_wp2_with fail
        go_roundg (mc + 1 - (k + 1))
        case measure => omega
        case rel => exact ⟨k + 1, by omega, rfl, by go_num, rfl, HB2.out⟩
      · have hke : k = mc := by omega
        subst hke
        go_wp2_with fail
        go_meet
        exact ⟨rfl, HW.out⟩
  case rest => as_aux_lemma =>
    obtain ⟨rfl, hBc⟩ := hcut
    obtain ⟨w2, rfl⟩ : ∃ wx : World, wx = wc := ⟨_, rfl⟩
    have HB2 := hid_of (onB HB1.out hBc)
    have HX2 := hid_of (HX1.out.later hBc)
    clear hBc
    go_upto_block 2 with fail
    go_cut [8, 10] from 23 (fun s8 s10 wx => s8 = .int .i64 7 ∧ Below w2.heap.size w2 wx)
    case first => as_aux_lemma =>
      have HM : Hid (N.length = mn) := HMN.out
      have hmi : (mn : Int) < 4611686018427387904 := by have := HMN.out; have := HX2.out.n.2.1; omega
      go_wp2_with fail
      go_loopg [8, 10] (mn + 1) (fun g s8 s10 wr => ∃ (i : Nat), (i = 0 ∨ i < mn) ∧ g = mn + 1 - i ∧ s10 = .int .i64 ((i : Int) + 1) ∧ ((s8 = .int .i64 0 ∧ ∀ j, 1 ≤ j → j < i + 1 → downS N j = false) ∨ (s8 = .int .i64 7)) ∧ Below w2.heap.size w2 wr)
      case atStart => exact ⟨0, Or.inl rfl, rfl, rfl, Or.inl ⟨rfl, fun j h1 h2 => by omega⟩, Below.refl _ _⟩
      case round =>
        obtain ⟨i, hi, rfl, rfl, hs | hs, hBw⟩ := hrel
        · obtain ⟨rfl, hal⟩ := hs
          have HW := hid_of hBw
          have HAl : Hid (∀ j, 1 ≤ j → j < i + 1 → downS N j = false) := hal
          clear hBw hal
          by_cases hlt : i + 1 < mn
          · have hki : (i : Int) + 1 < (mn : Int) := by omega
            obtain ⟨bn, on, rfl, hNb, hNA⟩ := (HX2.out.later HW.out).n.here (k := i) (by rw [HM.out]; omega)
            have c1 := hNA (i + 1) (by rw [HM.out]; exact hlt)
            have c0 := hNA i (by rw [HM.out]; omega)
            obtain ⟨x, hx⟩ : ∃ x, N.getD (i + 1) noS = x := ⟨_, rfl⟩
            obtain ⟨y, hy⟩ : ∃ y, N.getD i noS = y := ⟨_, rfl⟩
            have HD : Hid (downS N (i + 1) = (Op.bytesLess x.toList y.toList || x.toList == y.toList)) := by show _ = _; unfold downS; rw [hx, Nat.add_sub_cancel, hy]
            rw [hx] at c1
            rw [hy] at c0
            have hsub : (i : Int) + 1 - 1 = (i : Int) := by omega
            have hto : ((i : Int) + 1).toNat = i + 1 := by omega
            clear hx hy hNA
            cases ht : (Op.bytesLess x.toList y.toList || x.toList == y.toList)
            · have HDF : Hid (downS N (i + 1) = false) := by show _ = _; rw [HD.out, ht]
              clear HD
              go_wp2_with fail
              go_quiet (fail)
              have HBq : Hid (Below w2.heap.size w2 (wr.drewN nq)) := below_drewN HW.out _
              go_wp2_with fail
              go_roundg (mn + 1 - (i + 1))
              case measure => omega
              case rel => exact ⟨i + 1, Or.inr hlt, rfl, by go_num, Or.inl ⟨rfl, fun j h1 hj => by rcases Nat.lt_succ_iff_lt_or_eq.1 hj with h | h; exact HAl.out j h1 h; rw [h]; exact HDF.out⟩, HBq.out⟩
            · clear HD
              go_wp2_with fail
              go_quiet (fail)
              have HBq : Hid (Below w2.heap.size w2 (wr.drewN nq)) := below_drewN HW.out _
              go_wp2_with fail
              go_roundg (mn + 1 - (i + 1))
              case measure => omega
              case rel => exact ⟨i + 1, Or.inr hlt, rfl, by go_num, Or.inr rfl, HBq.out⟩
          · exfalso
            exact HBad.out (fun j h1 hj => HAl.out j h1 (by rw [HM.out] at hj; omega))
        · subst hs
          have HW := hid_of hBw
          clear hBw
          by_cases hlt : i + 1 < mn
          · have hki : (i : Int) + 1 < (mn : Int) := by omega
            go_wp2_with fail
            go_meet
            exact ⟨rfl, HW.out⟩
          · have hni : ¬ (i : Int) + 1 < (mn : Int) := by omega
            go_wp2_with fail
            go_meet
            exact ⟨rfl, HW.out⟩
    case rest => as_aux_lemma =>
      obtain ⟨rfl, hBc⟩ := hcut
      obtain ⟨w3, rfl⟩ : ∃ wx : World, wx = wc := ⟨_, rfl⟩
      have HB3 := hid_of (onB HB2.out hBc)
      have HX3 := hid_of (HX2.out.later hBc)
      clear hBc
      obtain ⟨hp, h30, hrg, -⟩ := form_right HFE.out
      have HRg : Hid (RightL l) := hrg
      obtain ⟨b, o, rfl, hNA⟩ := HX3.out.l.here hp
      have hrr := rrefs_any b o cap l w3 h30 hNA
      have hli : (l.length : Int) ≤ 30 := by omega
      have hl1 : 1 ≤ (l.length : Int) := by omega
      obtain ⟨ml, hml⟩ : ∃ ml, l.length - 1 = ml := ⟨_, rfl⟩
      have HML := hid_of hml
      have hsub : (l.length : Int) - 1 = (ml : Int) := by omega
      clear hrg hNA hml
      go_wp2_with fail
      refine hrr.mono ?_
      rintro e w4 ⟨⟨v, R, rfl, hown, hRf⟩, hb4⟩
      have HB4 := hid_of (onB HB3.out hb4)
      have HX4 := hid_of (HX3.out.later hb4)
      have HRf : Hid (RefsTo l l.length R) := hRf
      obtain ⟨Ar, cr, hv⟩ := own_form hown
      subst hv
      have HOw := hid_of hown
      obtain ⟨mr, hmr⟩ : ∃ mr, R.length = mr := ⟨_, rfl⟩
      have HMR := hid_of hmr
      have hmri : (mr : Int) ≤ 30 := by have := hRf.1; omega
      rw [hmr]
      clear hb4 hrr hown hRf hmr
      go_upto_block 4 with fail
      go_cut [8, 12] from 23 (fun s8 s12 wx => s8 = .int .i64 7 ∧ Below w4.heap.size w4 wx)
      case first => as_aux_lemma =>
        rcases Nat.eq_zero_or_pos mr with hc0 | hc0
        · have hci : (mr : Int) = 0 := by omega
          go_wp2_with fail
          refine wp_loop_rounds 1 ?_
          rw [rounds_succ]
          go_wp2_with fail
          go_meet
          exact ⟨rfl, Below.refl _ _⟩
        · have hci : 0 < (mr : Int) := by omega
          go_wp2_with fail
          refine wp_loop_rounds 1 ?_
          rw [rounds_succ]
          go_wp2_with fail
          go_meet
          exact ⟨rfl, Below.refl _ _⟩
      case rest => as_aux_lemma =>
        obtain ⟨rfl, hBc⟩ := hcut
        obtain ⟨w5, rfl⟩ : ∃ wx : World, wx = wc := ⟨_, rfl⟩
        have HB5 := hid_of (onB HB4.out hBc)
        have HX5 := hid_of (HX4.out.later hBc)
        clear hBc
        obtain ⟨V5, hV5⟩ : ∃ V5, w5.alloc (.cells #[.int .i64 0, .int .i64 0] 28) = V5 := ⟨_, rfl⟩
        have hbV5 : Below w5.heap.size w5 V5 := by rw [← hV5]; exact (Below.refl _ _).alloc (Nat.le_refl _) _
        have hgV5 : V5.heap[w5.heap.size]? = some (.cells #[.int .i64 0, .int .i64 0] 28 (0, 0)) := by rw [← hV5]; exact heap_alloc_new _ _
        have HBV5 := hid_of (onB HB5.out hbV5)
        have HXV5 := hid_of (HX5.out.later hbV5)
        have HGV5 := hid_of hgV5
        clear hbV5 hgV5
        obtain ⟨V6, hV6⟩ : ∃ V6, V5 = V6 := ⟨_, rfl⟩
        have HW6 : Hid (V6.heap[w5.heap.size]? = some (.cells #[.int .i64 0, .int .i64 0] 28 (0, 0))) := by show _ = _; rw [← hV6]; exact HGV5.out
        have HBV6 := hid_of HBV5.out
        have HXV6 := hid_of HXV5.out
        rw [hV6] at HBV6 HXV6 hV5
        clear HGV5 HBV5 HXV5 hV6
        have hval := value_any _ cap l An cn N Ac cc C V6 HXV6.out.l HXV6.out.n HXV6.out.c
        rw [HMN.out, HMC.out, HVE.out.1, HVE.out.2, errV_some (by decide)] at hval
        obtain ⟨VC, hVC⟩ : ∃ VC, noC = VC := ⟨_, rfl⟩
        rw [hVC] at hval
        have HVC0 : Hid (VC = (0, 0)) := hVC.symm
        clear hVC
        go_wp2_with fail
        refine hval.mono ?_
        rintro e w7 ⟨rfl, hb7⟩
        have HB7 := hid_of (onB HBV6.out hb7)
        have HX7 := hid_of (HXV6.out.later hb7)
        have hW7 := (hb7.block w5.heap.size (Array.getElem?_eq_some_iff.1 HW6.out).1).trans HW6.out
        obtain ⟨V7, hV7⟩ : ∃ V7, w7.alloc (.cells #[.int .i64 VC.1, .int .i64 VC.2] 28) = V7 := ⟨_, rfl⟩
        have HGot : Hid (V7.heap[w7.heap.size]? = some (.cells #[.int .i64 VC.1, .int .i64 VC.2] 28 (0, 0))) := by show _ = _; rw [← hV7]; exact heap_alloc_new _ _
        have HWant : Hid (V7.heap[w5.heap.size]? = some (.cells #[.int .i64 0, .int .i64 0] 28 (0, 0))) := by show _ = _; rw [← hV7, heap_alloc_old _ _ (Array.getElem?_eq_some_iff.1 hW7).1]; exact hW7
        have hbV7 : Below w7.heap.size w7 V7 := by rw [← hV7]; exact (Below.refl _ _).alloc (Nat.le_refl _) _
        have HBV7 := hid_of (onB HB7.out hbV7)
        have HXV7 := hid_of (HX7.out.later hbV7)
        have hsame := same_errK (7) V7 HXV7.out.k
        rw [errV_some (by decide)] at hsame
        clear hb7 hW7 hbV7 hval hV5
        go_wp2_with fail
        refine hsame.mono ?_
        rintro e w8 ⟨rfl, hb8⟩
        have HC8 := hid_of hb8
        have HX8 := hid_of (HXV7.out.later hb8)
        clear hb8 hsame hV7
        obtain ⟨b', o', hAe, hNA⟩ := HX8.out.l.here (by omega)
        cases hAe
        have hsw := rswapped_all b o cap l HFE.out ml HML.out w8 hNA
        clear hNA
        go_wp2_with fail
        refine hsw.mono ?_
        rintro e w9 ⟨⟨As, cs, rfl, hNs⟩, hb9⟩
        have HC9 := hid_of (onB HC8.out hb9)
        have HX9 := hid_of (HX8.out.later hb9)
        have HNs := hid_of hNs
        clear hb9 hsw hNs
        have hsp := swap_any _ cap l w9 HX9.out.l
        rw [HFE.out, errV_zero] at hsp
        go_wp2_with fail
        refine hsp.mono ?_
        rintro e w10 ⟨⟨Ax, cx, rfl, hNx⟩, hb10⟩
        have HC10 := hid_of (onB HC9.out hb10)
        have HX10 := hid_of (HX9.out.later hb10)
        have HNx := hid_of hNx
        have HNt := hid_of (HNs.out.later hb10)
        have hse := same_errK (0) w10 HX10.out.k
        rw [errV_zero] at hse
        clear hb10 hsp hNx
        go_wp2_with fail
        refine hse.mono ?_
        rintro e w11 ⟨rfl, hb11⟩
        have HC11 := hid_of (onB HC10.out hb11)
        have HX11 := hid_of (HX10.out.later hb11)
        have hsn := samends_any Ax As cx cs (swpL l) w11 (by rw [(swp_form HFE.out).2.2]; omega) (HNx.out.later hb11) (HNt.out.later hb11)
        clear hb11 hse
        go_wp2_with fail
        refine hsn.mono ?_
        rintro e w12 ⟨rfl, hb12⟩
        have HC12 := hid_of (onB HC11.out hb12)
        have HX12 := hid_of (HX11.out.later hb12)
        have hcs := const_any _ cap l w12 HX12.out.l
        obtain ⟨cb, hcb⟩ : ∃ cb, cstB l = cb := ⟨_, rfl⟩
        have HCb : Hid (cb = decide ((mr : Int) = 0)) := by show _ = _; rw [← hcb, refs_const HFE.out HRf.out, HMR.out]
        rw [HFE.out, hcb, errV_zero] at hcs
        clear hcb
        clear hb12 hsn
        go_wp2_with fail
        refine hcs.mono ?_
        rintro e w13 ⟨rfl, hb13⟩
        have HC13 := hid_of (onB HC12.out hb13)
        have HX13 := hid_of (HX12.out.later hb13)
        have hs3 := same_errK (0) w13 HX13.out.k
        rw [errV_zero] at hs3
        clear hb13 hcs
        go_wp2_with fail
        refine hs3.mono ?_
        rintro e w14 ⟨rfl, hb14⟩
        have HC14 := hid_of (onB HC13.out hb14)
        have hB14 := onB HBV7.out HC14.out
        have HB14 := hid_of hB14
        obtain ⟨q1, q2, q3, -, -⟩ := box2 HWant.out HC14.out
        obtain ⟨p1, p2, p3, -, -⟩ := box2 HGot.out HC14.out
        have hz1 : VC.1 = 0 := by rw [HVC0.out]
        have hz2 : VC.2 = 0 := by rw [HVC0.out]
        rw [hz1] at p2
        rw [hz2] at p3
        clear hz1 hz2
        clear hb14 hs3 hB14
        by_cases hm0 : mr = 0
        · have hcb : cb = true := by rw [HCb.out]; exact decide_eq_true (by omega)
          subst hcb
          have hmi0 : ((mr : Int) == 0) = true := by simp; omega
          clear hm0
          go_wp2_with fail
          go_ret
          exact ⟨rfl, HB14.out⟩
        · have hcb : cb = false := by rw [HCb.out]; exact decide_eq_false (by omega)
          subst hcb
          have hmi0 : ((mr : Int) == 0) = false := by simp; omega
          clear hm0
          go_wp2_with fail
          go_ret
          exact ⟨rfl, HB14.out⟩
end Go.Proofs.YtklfenojapgmnaeDoor

namespace Go.Proofs.YtklfenojapgmnaeDoor
open Go.ChangeShapes Go.WideShapes Go.ChangeAt Go.RowKit
set_option maxRecDepth 20000

set_option maxHeartbeats 8000000 in
theorem rkt5 (A : Option Addr) (cap : Nat) (l : List Nd) (An : Option Addr) (cn : Nat) (N : List ByteArray) (Ac : Option Addr) (cc : Nat) (C : List (Int × Int)) (w : World) (hX : CtxK A cap l An cn N Ac cc C w) (hE : formErr l = 0) (hck : ckErr N C = 0) (hms : missT N (treeOf l (l.length - 1)) = true) :
    Calls Tryd.prog 3 #[.slice A l.length cap, .slice An N.length cn, .slice Ac C.length cc] w fun e w' => e = .returned (.bool true) ∧ Below w.heap.size w w' := by
  have HX : Hid (CtxK A cap l An cn N Ac cc C w) := hX
  have hrf := rform_any A cap l w hX.l
  rw [hE] at hrf
  have HFE := hid_of hE
  obtain ⟨hlen, hg, hd⟩ := ck_right hck
  have hne : ((N.length : Int) != (C.length : Int)) = false := by simp; omega
  have HCL : Hid (C.length = N.length) := hlen
  have HG := hid_of hg
  have HDn := hid_of hd
  have HCk := hid_of hck
  have HMs := hid_of hms
  have hVE := val_all (l := l) hE hck
  rw [hms] at hVE
  have HVE : Hid (valE l N C = 5 ∧ valC l N C = noC) := hVE
  clear hE hX hVE hlen hg hd hck hms
  obtain ⟨mc, hmc⟩ : ∃ mc, C.length = mc := ⟨_, rfl⟩
  obtain ⟨mn, hmn⟩ : ∃ mn, N.length = mn := ⟨_, rfl⟩
  have HMC := hid_of hmc
  have HMN := hid_of hmn
  rw [hmc, hmn] at hne
  rw [hmc, hmn]
  clear hmc hmn
  go_enter Tryd.func3, Tryd.ntmps3
  go_wp2_with fail
  refine hrf.mono ?_
  rintro e w1 ⟨rfl, hb1⟩
  have HB1 := hid_of hb1
  have HX1 := hid_of (HX.out.later hb1)
  clear hb1 hrf
  go_upto_block 0 with fail
  go_cut [8, 9] from 23 (fun s8 s9 wx => s8 = .int .i64 0 ∧ Below w1.heap.size w1 wx)
  case first => as_aux_lemma =>
    have HM : Hid (C.length = mc) := HMC.out
    have hmi : (mc : Int) < 4611686018427387904 := by have := HCL.out; have := HMC.out; have := HX1.out.n.2.1; omega
    go_wp2_with fail
    go_loopg [8, 9] (mc + 1) (fun g s8 s9 wr => ∃ (k : Nat), k ≤ mc ∧ g = mc + 1 - k ∧ s9 = .int .i64 k ∧ s8 = .int .i64 0 ∧ Below w1.heap.size w1 wr)
    case atStart => exact ⟨0, Nat.zero_le _, rfl, rfl, rfl, Below.refl _ _⟩
    case round =>
      obtain ⟨k, hk, rfl, rfl, rfl, hBw⟩ := hrel
      have HW := hid_of hBw
      clear hBw
      by_cases hlt : k < mc
      · have hki : (k : Int) < (mc : Int) := by omega
        obtain ⟨b, o, rfl, hCA⟩ := (HX1.out.later HW.out).c.here (k := k) (by rw [HM.out]; exact hlt)
        obtain ⟨x0, x1⟩ := hCA.2 k (by rw [HM.out]; exact hlt)
        have hgd := HG.out k (by rw [HM.out]; exact hlt)
        have hrc := rcell_if (C.getD k noC).1 (C.getD k noC).2
        have hgo : good (C.getD k noC).1 (C.getD k noC).2 = true := by unfold goodB at hgd; simpa using hgd
        rw [if_pos hgo] at hrc
        generalize (C.getD k noC).1 = kk at x0 hrc
        generalize (C.getD k noC).2 = nn at x1 hrc
        clear hCA hgd hgo
        go_wp2_with fail
        refine (hrc _).mono ?_
        rintro e w2 ⟨rfl, hb2⟩
        have HB2 := hid_of (onB HW.out hb2)
        clear hb2 hrc
        go_wp2_with fail
        go_roundg (mc + 1 - (k + 1))
        case measure => omega
        case rel => exact ⟨k + 1, by omega, rfl, by go_num, rfl, HB2.out⟩
      · have hke : k = mc := by omega
        subst hke
        go_wp2_with fail
        go_meet
        exact ⟨rfl, HW.out⟩
  case rest => as_aux_lemma =>
    obtain ⟨rfl, hBc⟩ := hcut
    obtain ⟨w2, rfl⟩ : ∃ wx : World, wx = wc := ⟨_, rfl⟩
    have HB2 := hid_of (onB HB1.out hBc)
    have HX2 := hid_of (HX1.out.later hBc)
    clear hBc
    go_upto_block 2 with fail
    go_cut [8, 10] from 23 (fun s8 s10 wx => s8 = .int .i64 0 ∧ Below w2.heap.size w2 wx)
    case first => as_aux_lemma =>
      have HM : Hid (N.length = mn) := HMN.out
      have hmi : (mn : Int) < 4611686018427387904 := by have := HMN.out; have := HX2.out.n.2.1; omega
      go_wp2_with fail
      go_loopg [8, 10] (mn + 1) (fun g s8 s10 wr => ∃ (i : Nat), (i = 0 ∨ i < mn) ∧ g = mn + 1 - i ∧ s10 = .int .i64 ((i : Int) + 1) ∧ s8 = .int .i64 0 ∧ Below w2.heap.size w2 wr)
      case atStart => exact ⟨0, Or.inl rfl, rfl, rfl, rfl, Below.refl _ _⟩
      case round =>
        obtain ⟨i, hi, rfl, rfl, rfl, hBw⟩ := hrel
        have HW := hid_of hBw
        clear hBw
        by_cases hlt : i + 1 < mn
        · have hki : (i : Int) + 1 < (mn : Int) := by omega
          obtain ⟨bn, on, rfl, hNb, hNA⟩ := (HX2.out.later HW.out).n.here (k := i) (by rw [HM.out]; omega)
          have c1 := hNA (i + 1) (by rw [HM.out]; exact hlt)
          have c0 := hNA i (by rw [HM.out]; omega)
          obtain ⟨x, hx⟩ : ∃ x, N.getD (i + 1) noS = x := ⟨_, rfl⟩
          obtain ⟨y, hy⟩ : ∃ y, N.getD i noS = y := ⟨_, rfl⟩
          have HD : Hid (downS N (i + 1) = (Op.bytesLess x.toList y.toList || x.toList == y.toList)) := by show _ = _; unfold downS; rw [hx, Nat.add_sub_cancel, hy]
          rw [hx] at c1
          rw [hy] at c0
          have hsub : (i : Int) + 1 - 1 = (i : Int) := by omega
          have hto : ((i : Int) + 1).toNat = i + 1 := by omega
          clear hx hy hNA
          have ht : (Op.bytesLess x.toList y.toList || x.toList == y.toList) = false := by rw [← HD.out]; exact HDn.out (i + 1) (by omega) (by rw [HM.out]; exact hlt)
          clear HD
          go_wp2_with fail
          go_quiet (fail)
          have HBq : Hid (Below w2.heap.size w2 (wr.drewN nq)) := below_drewN HW.out _
          go_wp2_with fail
          go_roundg (mn + 1 - (i + 1))
          case measure => omega
          case rel => exact ⟨i + 1, Or.inr hlt, rfl, by go_num, rfl, HBq.out⟩
        · have hni : ¬ (i : Int) + 1 < (mn : Int) := by omega
          go_wp2_with fail
          go_meet
          exact ⟨rfl, HW.out⟩
    case rest => as_aux_lemma =>
      obtain ⟨rfl, hBc⟩ := hcut
      obtain ⟨w3, rfl⟩ : ∃ wx : World, wx = wc := ⟨_, rfl⟩
      have HB3 := hid_of (onB HB2.out hBc)
      have HX3 := hid_of (HX2.out.later hBc)
      clear hBc
      obtain ⟨hp, h30, hrg, -⟩ := form_right HFE.out
      have HRg : Hid (RightL l) := hrg
      obtain ⟨b, o, rfl, hNA⟩ := HX3.out.l.here hp
      have hrr := rrefs_any b o cap l w3 h30 hNA
      have hli : (l.length : Int) ≤ 30 := by omega
      have hl1 : 1 ≤ (l.length : Int) := by omega
      obtain ⟨ml, hml⟩ : ∃ ml, l.length - 1 = ml := ⟨_, rfl⟩
      have HML := hid_of hml
      have hsub : (l.length : Int) - 1 = (ml : Int) := by omega
      clear hrg hNA hml
      go_wp2_with fail
      refine hrr.mono ?_
      rintro e w4 ⟨⟨v, R, rfl, hown, hRf⟩, hb4⟩
      have HB4 := hid_of (onB HB3.out hb4)
      have HX4 := hid_of (HX3.out.later hb4)
      have HRf : Hid (RefsTo l l.length R) := hRf
      obtain ⟨Ar, cr, hv⟩ := own_form hown
      subst hv
      have HOw := hid_of hown
      obtain ⟨mr, hmr⟩ : ∃ mr, R.length = mr := ⟨_, rfl⟩
      have HMR := hid_of hmr
      have hmri : (mr : Int) ≤ 30 := by have := hRf.1; omega
      rw [hmr]
      clear hb4 hrr hown hRf hmr
      go_upto_block 4 with fail
      go_cut [8, 12] from 23 (fun s8 s12 wx => s8 = .int .i64 5 ∧ Below w4.heap.size w4 wx)
      case first => as_aux_lemma =>
        have HAny : Hid ((R.any fun s => decide (whereS N s < 0)) = true) := by show _ = _; rw [← refs_miss HFE.out HRf.out]; exact HMs.out
        go_wp2_with fail
        go_loopg [8, 12] (mr + 1) (fun g s8 s12 wr => ∃ (k : Nat), k ≤ mr ∧ g = mr + 1 - k ∧ s12 = .int .i64 k ∧ ((s8 = .int .i64 0 ∧ ∀ j, j < k → ¬ whereS N (R.getD j noS) < 0) ∨ (s8 = .int .i64 5)) ∧ Below w4.heap.size w4 wr)
        case atStart => exact ⟨0, Nat.zero_le _, rfl, rfl, Or.inl ⟨rfl, fun j hj => absurd hj (Nat.not_lt_zero j)⟩, Below.refl _ _⟩
        case round =>
          obtain ⟨k, hk, rfl, rfl, hs | hs, hBw⟩ := hrel
          · obtain ⟨rfl, hal⟩ := hs
            have HW := hid_of hBw
            have HAl : Hid (∀ j, j < k → ¬ whereS N (R.getD j noS) < 0) := hal
            clear hBw hal
            by_cases hlt : k < mr
            · have hki : (k : Int) < (mr : Int) := by omega
              have hrow := own_later HOw.out HW.out
              rcases row_str hrow with ⟨hR0, -⟩ | ⟨g, cp, hvv, -, hgl, -, -, hcell⟩
              · have := HMR.out; rw [hR0] at this; simp at this; omega
              have hAr : Ar = some ⟨g, 0, none⟩ := by injection hvv
              subst hAr
              have c0 := hcell k (by rw [HMR.out]; exact hlt)
              have hnm := rnamed_any An cn N (R.getD k noS)
              rw [HMN.out] at hnm
              obtain ⟨s, hs0⟩ : ∃ s, R.getD k noS = s := ⟨_, rfl⟩
              have HS := hid_of hs0
              rw [hs0] at c0 hnm
              obtain ⟨ws, hws⟩ : ∃ ws, whereS N s = ws := ⟨_, rfl⟩
              have HWs := hid_of hws
              rw [hws] at hnm
              clear hcell hvv hrow hs0 hws
              by_cases hwn : ws < 0
              · go_wp2_with fail
                refine (hnm _ (HX4.out.later HW.out).n).mono ?_
                rintro e w5 ⟨rfl, hb5⟩
                have HB5 := hid_of (onB HW.out hb5)
                clear hb5 hnm
                go_wp2_with fail
                go_roundg (mr + 1 - (k + 1))
                case measure => omega
                case rel => exact ⟨k + 1, by omega, rfl, by go_num, Or.inr rfl, HB5.out⟩
              · have HNw : Hid (¬ whereS N (R.getD k noS) < 0) := by show ¬ _; rw [HS.out, HWs.out]; exact hwn
                go_wp2_with fail
                refine (hnm _ (HX4.out.later HW.out).n).mono ?_
                rintro e w5 ⟨rfl, hb5⟩
                have HB5 := hid_of (onB HW.out hb5)
                clear hb5 hnm
                go_wp2_with fail
                go_roundg (mr + 1 - (k + 1))
                case measure => omega
                case rel => exact ⟨k + 1, by omega, rfl, by go_num, Or.inl ⟨rfl, fun j hj => by rcases Nat.lt_succ_iff_lt_or_eq.1 hj with h | h; exact HAl.out j h; rw [h]; exact HNw.out⟩, HB5.out⟩
            · exfalso
              exact any_some HAny.out (fun j hj => HAl.out j (by rw [HMR.out] at hj; omega))
          · subst hs
            have HW := hid_of hBw
            clear hBw
            by_cases hlt : k < mr
            · have hki : (k : Int) < (mr : Int) := by omega
              go_wp2_with fail
              go_meet
              exact ⟨rfl, HW.out⟩
            · have hke : k = mr := by omega
              subst hke
              go_wp2_with fail
              go_meet
              exact ⟨rfl, HW.out⟩
      case rest => as_aux_lemma =>
        obtain ⟨rfl, hBc⟩ := hcut
        obtain ⟨w5, rfl⟩ : ∃ wx : World, wx = wc := ⟨_, rfl⟩
        have HB5 := hid_of (onB HB4.out hBc)
        have HX5 := hid_of (HX4.out.later hBc)
        clear hBc
        obtain ⟨V5, hV5⟩ : ∃ V5, w5.alloc (.cells #[.int .i64 0, .int .i64 0] 28) = V5 := ⟨_, rfl⟩
        have hbV5 : Below w5.heap.size w5 V5 := by rw [← hV5]; exact (Below.refl _ _).alloc (Nat.le_refl _) _
        have hgV5 : V5.heap[w5.heap.size]? = some (.cells #[.int .i64 0, .int .i64 0] 28 (0, 0)) := by rw [← hV5]; exact heap_alloc_new _ _
        have HBV5 := hid_of (onB HB5.out hbV5)
        have HXV5 := hid_of (HX5.out.later hbV5)
        have HGV5 := hid_of hgV5
        clear hbV5 hgV5
        obtain ⟨V6, hV6⟩ : ∃ V6, V5 = V6 := ⟨_, rfl⟩
        have HW6 : Hid (V6.heap[w5.heap.size]? = some (.cells #[.int .i64 0, .int .i64 0] 28 (0, 0))) := by show _ = _; rw [← hV6]; exact HGV5.out
        have HBV6 := hid_of HBV5.out
        have HXV6 := hid_of HXV5.out
        rw [hV6] at HBV6 HXV6 hV5
        clear HGV5 HBV5 HXV5 hV6
        have hval := value_any _ cap l An cn N Ac cc C V6 HXV6.out.l HXV6.out.n HXV6.out.c
        rw [HMN.out, HMC.out, HVE.out.1, HVE.out.2, errV_some (by decide)] at hval
        obtain ⟨VC, hVC⟩ : ∃ VC, noC = VC := ⟨_, rfl⟩
        rw [hVC] at hval
        have HVC0 : Hid (VC = (0, 0)) := hVC.symm
        clear hVC
        go_wp2_with fail
        refine hval.mono ?_
        rintro e w7 ⟨rfl, hb7⟩
        have HB7 := hid_of (onB HBV6.out hb7)
        have HX7 := hid_of (HXV6.out.later hb7)
        have hW7 := (hb7.block w5.heap.size (Array.getElem?_eq_some_iff.1 HW6.out).1).trans HW6.out
        obtain ⟨V7, hV7⟩ : ∃ V7, w7.alloc (.cells #[.int .i64 VC.1, .int .i64 VC.2] 28) = V7 := ⟨_, rfl⟩
        have HGot : Hid (V7.heap[w7.heap.size]? = some (.cells #[.int .i64 VC.1, .int .i64 VC.2] 28 (0, 0))) := by show _ = _; rw [← hV7]; exact heap_alloc_new _ _
        have HWant : Hid (V7.heap[w5.heap.size]? = some (.cells #[.int .i64 0, .int .i64 0] 28 (0, 0))) := by show _ = _; rw [← hV7, heap_alloc_old _ _ (Array.getElem?_eq_some_iff.1 hW7).1]; exact hW7
        have hbV7 : Below w7.heap.size w7 V7 := by rw [← hV7]; exact (Below.refl _ _).alloc (Nat.le_refl _) _
        have HBV7 := hid_of (onB HB7.out hbV7)
        have HXV7 := hid_of (HX7.out.later hbV7)
        have hsame := same_errK (5) V7 HXV7.out.k
        rw [errV_some (by decide)] at hsame
        clear hb7 hW7 hbV7 hval hV5
        go_wp2_with fail
        refine hsame.mono ?_
        rintro e w8 ⟨rfl, hb8⟩
        have HC8 := hid_of hb8
        have HX8 := hid_of (HXV7.out.later hb8)
        clear hb8 hsame hV7
        obtain ⟨b', o', hAe, hNA⟩ := HX8.out.l.here (by omega)
        cases hAe
        have hsw := rswapped_all b o cap l HFE.out ml HML.out w8 hNA
        clear hNA
        go_wp2_with fail
        refine hsw.mono ?_
        rintro e w9 ⟨⟨As, cs, rfl, hNs⟩, hb9⟩
        have HC9 := hid_of (onB HC8.out hb9)
        have HX9 := hid_of (HX8.out.later hb9)
        have HNs := hid_of hNs
        clear hb9 hsw hNs
        have hsp := swap_any _ cap l w9 HX9.out.l
        rw [HFE.out, errV_zero] at hsp
        go_wp2_with fail
        refine hsp.mono ?_
        rintro e w10 ⟨⟨Ax, cx, rfl, hNx⟩, hb10⟩
        have HC10 := hid_of (onB HC9.out hb10)
        have HX10 := hid_of (HX9.out.later hb10)
        have HNx := hid_of hNx
        have HNt := hid_of (HNs.out.later hb10)
        have hse := same_errK (0) w10 HX10.out.k
        rw [errV_zero] at hse
        clear hb10 hsp hNx
        go_wp2_with fail
        refine hse.mono ?_
        rintro e w11 ⟨rfl, hb11⟩
        have HC11 := hid_of (onB HC10.out hb11)
        have HX11 := hid_of (HX10.out.later hb11)
        have hsn := samends_any Ax As cx cs (swpL l) w11 (by rw [(swp_form HFE.out).2.2]; omega) (HNx.out.later hb11) (HNt.out.later hb11)
        clear hb11 hse
        go_wp2_with fail
        refine hsn.mono ?_
        rintro e w12 ⟨rfl, hb12⟩
        have HC12 := hid_of (onB HC11.out hb12)
        have HX12 := hid_of (HX11.out.later hb12)
        have hcs := const_any _ cap l w12 HX12.out.l
        obtain ⟨cb, hcb⟩ : ∃ cb, cstB l = cb := ⟨_, rfl⟩
        have HCb : Hid (cb = decide ((mr : Int) = 0)) := by show _ = _; rw [← hcb, refs_const HFE.out HRf.out, HMR.out]
        rw [HFE.out, hcb, errV_zero] at hcs
        clear hcb
        clear hb12 hsn
        go_wp2_with fail
        refine hcs.mono ?_
        rintro e w13 ⟨rfl, hb13⟩
        have HC13 := hid_of (onB HC12.out hb13)
        have HX13 := hid_of (HX12.out.later hb13)
        have hs3 := same_errK (0) w13 HX13.out.k
        rw [errV_zero] at hs3
        clear hb13 hcs
        go_wp2_with fail
        refine hs3.mono ?_
        rintro e w14 ⟨rfl, hb14⟩
        have HC14 := hid_of (onB HC13.out hb14)
        have hB14 := onB HBV7.out HC14.out
        have HB14 := hid_of hB14
        obtain ⟨q1, q2, q3, -, -⟩ := box2 HWant.out HC14.out
        obtain ⟨p1, p2, p3, -, -⟩ := box2 HGot.out HC14.out
        have hz1 : VC.1 = 0 := by rw [HVC0.out]
        have hz2 : VC.2 = 0 := by rw [HVC0.out]
        rw [hz1] at p2
        rw [hz2] at p3
        clear hz1 hz2
        clear hb14 hs3 hB14
        by_cases hm0 : mr = 0
        · have hcb : cb = true := by rw [HCb.out]; exact decide_eq_true (by omega)
          subst hcb
          have hmi0 : ((mr : Int) == 0) = true := by simp; omega
          clear hm0
          go_wp2_with fail
          go_ret
          exact ⟨rfl, HB14.out⟩
        · have hcb : cb = false := by rw [HCb.out]; exact decide_eq_false (by omega)
          subst hcb
          have hmi0 : ((mr : Int) == 0) = false := by simp; omega
          clear hm0
          go_wp2_with fail
          go_ret
          exact ⟨rfl, HB14.out⟩
end Go.Proofs.YtklfenojapgmnaeDoor

namespace Go.Proofs.YtklfenojapgmnaeDoor
open Go.ChangeShapes Go.WideShapes Go.ChangeAt Go.RowKit
set_option maxRecDepth 20000

set_option maxHeartbeats 8000000 in
theorem rkt6 (A : Option Addr) (cap : Nat) (l : List Nd) (An : Option Addr) (cn : Nat) (N : List ByteArray) (Ac : Option Addr) (cc : Nat) (C : List (Int × Int)) (w : World) (hX : CtxK A cap l An cn N Ac cc C w) (hE : formErr l = 0) (hck : ckErr N C = 0) (hms : missT N (treeOf l (l.length - 1)) = false) :
    Calls Tryd.prog 3 #[.slice A l.length cap, .slice An N.length cn, .slice Ac C.length cc] w fun e w' => e = .returned (.bool true) ∧ Below w.heap.size w w' := by
  have HX : Hid (CtxK A cap l An cn N Ac cc C w) := hX
  have hrf := rform_any A cap l w hX.l
  rw [hE] at hrf
  have HFE := hid_of hE
  obtain ⟨hlen, hg, hd⟩ := ck_right hck
  have hne : ((N.length : Int) != (C.length : Int)) = false := by simp; omega
  have HCL : Hid (C.length = N.length) := hlen
  have HG := hid_of hg
  have HDn := hid_of hd
  have HCk := hid_of hck
  have HMs := hid_of hms
  have hVE := val_all (l := l) hE hck
  rw [hms] at hVE
  have HVE : Hid (valE l N C = 0 ∧ valC l N C = valT N C (treeOf l (l.length - 1))) := hVE
  clear hE hX hVE hlen hg hd hck hms
  obtain ⟨mc, hmc⟩ : ∃ mc, C.length = mc := ⟨_, rfl⟩
  obtain ⟨mn, hmn⟩ : ∃ mn, N.length = mn := ⟨_, rfl⟩
  have HMC := hid_of hmc
  have HMN := hid_of hmn
  rw [hmc, hmn] at hne
  rw [hmc, hmn]
  clear hmc hmn
  go_enter Tryd.func3, Tryd.ntmps3
  go_wp2_with fail
  refine hrf.mono ?_
  rintro e w1 ⟨rfl, hb1⟩
  have HB1 := hid_of hb1
  have HX1 := hid_of (HX.out.later hb1)
  clear hb1 hrf
  go_upto_block 0 with fail
  go_cut [8, 9] from 23 (fun s8 s9 wx => s8 = .int .i64 0 ∧ Below w1.heap.size w1 wx)
  case first => as_aux_lemma =>
    have HM : Hid (C.length = mc) := HMC.out
    have hmi : (mc : Int) < 4611686018427387904 := by have := HCL.out; have := HMC.out; have := HX1.out.n.2.1; omega
    go_wp2_with fail
    go_loopg [8, 9] (mc + 1) (fun g s8 s9 wr => ∃ (k : Nat), k ≤ mc ∧ g = mc + 1 - k ∧ s9 = .int .i64 k ∧ s8 = .int .i64 0 ∧ Below w1.heap.size w1 wr)
    case atStart => exact ⟨0, Nat.zero_le _, rfl, rfl, rfl, Below.refl _ _⟩
    case round =>
      obtain ⟨k, hk, rfl, rfl, rfl, hBw⟩ := hrel
      have HW := hid_of hBw
      clear hBw
      by_cases hlt : k < mc
      · have hki : (k : Int) < (mc : Int) := by omega
        obtain ⟨b, o, rfl, hCA⟩ := (HX1.out.later HW.out).c.here (k := k) (by rw [HM.out]; exact hlt)
        obtain ⟨x0, x1⟩ := hCA.2 k (by rw [HM.out]; exact hlt)
        have hgd := HG.out k (by rw [HM.out]; exact hlt)
        have hrc := rcell_if (C.getD k noC).1 (C.getD k noC).2
        have hgo : good (C.getD k noC).1 (C.getD k noC).2 = true := by unfold goodB at hgd; simpa using hgd
        rw [if_pos hgo] at hrc
        generalize (C.getD k noC).1 = kk at x0 hrc
        generalize (C.getD k noC).2 = nn at x1 hrc
        clear hCA hgd hgo
        go_wp2_with fail
        refine (hrc _).mono ?_
        rintro e w2 ⟨rfl, hb2⟩
        have HB2 := hid_of (onB HW.out hb2)
        clear hb2 hrc
        go_wp2_with fail
        go_roundg (mc + 1 - (k + 1))
        case measure => omega
        case rel => exact ⟨k + 1, by omega, rfl, by go_num, rfl, HB2.out⟩
      · have hke : k = mc := by omega
        subst hke
        go_wp2_with fail
        go_meet
        exact ⟨rfl, HW.out⟩
  case rest => as_aux_lemma =>
    obtain ⟨rfl, hBc⟩ := hcut
    obtain ⟨w2, rfl⟩ : ∃ wx : World, wx = wc := ⟨_, rfl⟩
    have HB2 := hid_of (onB HB1.out hBc)
    have HX2 := hid_of (HX1.out.later hBc)
    clear hBc
    go_upto_block 2 with fail
    go_cut [8, 10] from 23 (fun s8 s10 wx => s8 = .int .i64 0 ∧ Below w2.heap.size w2 wx)
    case first => as_aux_lemma =>
      have HM : Hid (N.length = mn) := HMN.out
      have hmi : (mn : Int) < 4611686018427387904 := by have := HMN.out; have := HX2.out.n.2.1; omega
      go_wp2_with fail
      go_loopg [8, 10] (mn + 1) (fun g s8 s10 wr => ∃ (i : Nat), (i = 0 ∨ i < mn) ∧ g = mn + 1 - i ∧ s10 = .int .i64 ((i : Int) + 1) ∧ s8 = .int .i64 0 ∧ Below w2.heap.size w2 wr)
      case atStart => exact ⟨0, Or.inl rfl, rfl, rfl, rfl, Below.refl _ _⟩
      case round =>
        obtain ⟨i, hi, rfl, rfl, rfl, hBw⟩ := hrel
        have HW := hid_of hBw
        clear hBw
        by_cases hlt : i + 1 < mn
        · have hki : (i : Int) + 1 < (mn : Int) := by omega
          obtain ⟨bn, on, rfl, hNb, hNA⟩ := (HX2.out.later HW.out).n.here (k := i) (by rw [HM.out]; omega)
          have c1 := hNA (i + 1) (by rw [HM.out]; exact hlt)
          have c0 := hNA i (by rw [HM.out]; omega)
          obtain ⟨x, hx⟩ : ∃ x, N.getD (i + 1) noS = x := ⟨_, rfl⟩
          obtain ⟨y, hy⟩ : ∃ y, N.getD i noS = y := ⟨_, rfl⟩
          have HD : Hid (downS N (i + 1) = (Op.bytesLess x.toList y.toList || x.toList == y.toList)) := by show _ = _; unfold downS; rw [hx, Nat.add_sub_cancel, hy]
          rw [hx] at c1
          rw [hy] at c0
          have hsub : (i : Int) + 1 - 1 = (i : Int) := by omega
          have hto : ((i : Int) + 1).toNat = i + 1 := by omega
          clear hx hy hNA
          have ht : (Op.bytesLess x.toList y.toList || x.toList == y.toList) = false := by rw [← HD.out]; exact HDn.out (i + 1) (by omega) (by rw [HM.out]; exact hlt)
          clear HD
          go_wp2_with fail
          go_quiet (fail)
          have HBq : Hid (Below w2.heap.size w2 (wr.drewN nq)) := below_drewN HW.out _
          go_wp2_with fail
          go_roundg (mn + 1 - (i + 1))
          case measure => omega
          case rel => exact ⟨i + 1, Or.inr hlt, rfl, by go_num, rfl, HBq.out⟩
        · have hni : ¬ (i : Int) + 1 < (mn : Int) := by omega
          go_wp2_with fail
          go_meet
          exact ⟨rfl, HW.out⟩
    case rest => as_aux_lemma =>
      obtain ⟨rfl, hBc⟩ := hcut
      obtain ⟨w3, rfl⟩ : ∃ wx : World, wx = wc := ⟨_, rfl⟩
      have HB3 := hid_of (onB HB2.out hBc)
      have HX3 := hid_of (HX2.out.later hBc)
      clear hBc
      obtain ⟨hp, h30, hrg, -⟩ := form_right HFE.out
      have HRg : Hid (RightL l) := hrg
      obtain ⟨b, o, rfl, hNA⟩ := HX3.out.l.here hp
      have hrr := rrefs_any b o cap l w3 h30 hNA
      have hli : (l.length : Int) ≤ 30 := by omega
      have hl1 : 1 ≤ (l.length : Int) := by omega
      obtain ⟨ml, hml⟩ : ∃ ml, l.length - 1 = ml := ⟨_, rfl⟩
      have HML := hid_of hml
      have hsub : (l.length : Int) - 1 = (ml : Int) := by omega
      clear hrg hNA hml
      go_wp2_with fail
      refine hrr.mono ?_
      rintro e w4 ⟨⟨v, R, rfl, hown, hRf⟩, hb4⟩
      have HB4 := hid_of (onB HB3.out hb4)
      have HX4 := hid_of (HX3.out.later hb4)
      have HRf : Hid (RefsTo l l.length R) := hRf
      obtain ⟨Ar, cr, hv⟩ := own_form hown
      subst hv
      have HOw := hid_of hown
      obtain ⟨mr, hmr⟩ : ∃ mr, R.length = mr := ⟨_, rfl⟩
      have HMR := hid_of hmr
      have hmri : (mr : Int) ≤ 30 := by have := hRf.1; omega
      rw [hmr]
      clear hb4 hrr hown hRf hmr
      go_upto_block 4 with fail
      go_cut [8, 12] from 23 (fun s8 s12 wx => s8 = .int .i64 0 ∧ Below w4.heap.size w4 wx)
      case first => as_aux_lemma =>
        have HAny : Hid ((R.any fun s => decide (whereS N s < 0)) = false) := by show _ = _; rw [← refs_miss HFE.out HRf.out]; exact HMs.out
        go_wp2_with fail
        go_loopg [8, 12] (mr + 1) (fun g s8 s12 wr => ∃ (k : Nat), k ≤ mr ∧ g = mr + 1 - k ∧ s12 = .int .i64 k ∧ s8 = .int .i64 0 ∧ Below w4.heap.size w4 wr)
        case atStart => exact ⟨0, Nat.zero_le _, rfl, rfl, rfl, Below.refl _ _⟩
        case round =>
          obtain ⟨k, hk, rfl, rfl, rfl, hBw⟩ := hrel
          have HW := hid_of hBw
          clear hBw
          by_cases hlt : k < mr
          · have hki : (k : Int) < (mr : Int) := by omega
            have hrow := own_later HOw.out HW.out
            rcases row_str hrow with ⟨hR0, -⟩ | ⟨g, cp, hvv, -, hgl, -, -, hcell⟩
            · have := HMR.out; rw [hR0] at this; simp at this; omega
            have hAr : Ar = some ⟨g, 0, none⟩ := by injection hvv
            subst hAr
            have c0 := hcell k (by rw [HMR.out]; exact hlt)
            have hnm := rnamed_any An cn N (R.getD k noS)
            rw [HMN.out] at hnm
            obtain ⟨s, hs0⟩ : ∃ s, R.getD k noS = s := ⟨_, rfl⟩
            have HS := hid_of hs0
            rw [hs0] at c0 hnm
            obtain ⟨ws, hws⟩ : ∃ ws, whereS N s = ws := ⟨_, rfl⟩
            have HWs := hid_of hws
            rw [hws] at hnm
            clear hcell hvv hrow hs0 hws
            have hwn : ¬ ws < 0 := by rw [← HWs.out, ← HS.out]; exact any_none HAny.out (by rw [HMR.out]; exact hlt)
            go_wp2_with fail
            refine (hnm _ (HX4.out.later HW.out).n).mono ?_
            rintro e w5 ⟨rfl, hb5⟩
            have HB5 := hid_of (onB HW.out hb5)
            clear hb5 hnm
            go_wp2_with fail
            go_roundg (mr + 1 - (k + 1))
            case measure => omega
            case rel => exact ⟨k + 1, by omega, rfl, by go_num, rfl, HB5.out⟩
          · have hke : k = mr := by omega
            subst hke
            go_wp2_with fail
            go_meet
            exact ⟨rfl, HW.out⟩
      case rest => as_aux_lemma =>
        obtain ⟨rfl, hBc⟩ := hcut
        obtain ⟨w5, rfl⟩ : ∃ wx : World, wx = wc := ⟨_, rfl⟩
        have HB5 := hid_of (onB HB4.out hBc)
        have HX5 := hid_of (HX4.out.later hBc)
        clear hBc
        obtain ⟨V5, hV5⟩ : ∃ V5, w5.alloc (.cells #[.int .i64 0, .int .i64 0] 28) = V5 := ⟨_, rfl⟩
        have hbV5 : Below w5.heap.size w5 V5 := by rw [← hV5]; exact (Below.refl _ _).alloc (Nat.le_refl _) _
        have hgV5 : V5.heap[w5.heap.size]? = some (.cells #[.int .i64 0, .int .i64 0] 28 (0, 0)) := by rw [← hV5]; exact heap_alloc_new _ _
        have HBV5 := hid_of (onB HB5.out hbV5)
        have HXV5 := hid_of (HX5.out.later hbV5)
        have HGV5 := hid_of hgV5
        clear hbV5 hgV5
        obtain ⟨b', o', hAe, hNA⟩ := HXV5.out.l.here (by omega)
        cases hAe
        have hrk := rreckon_any b o cap l HRg.out (by omega) An cn N Ac cc C HCk.out ml (by have := HML.out; omega) V5 hNA HXV5.out.n HXV5.out.c (by rw [← HML.out]; exact HMs.out)
        rw [HMN.out, HMC.out] at hrk
        have HVC : Hid (valC l N C = valT N C (treeOf l ml)) := by show _ = _; rw [HVE.out.2, HML.out]
        obtain ⟨VC, hVC⟩ : ∃ VC, valT N C (treeOf l ml) = VC := ⟨_, rfl⟩
        rw [hVC] at hrk HVC
        clear hNA hVC
        go_wp2_with fail
        refine hrk.mono ?_
        rintro e w6 ⟨rfl, hb6⟩
        obtain ⟨r1, r2, r3, rf0, rf1⟩ := box2 HGV5.out hb6
        have hg6 := (hb6.block w5.heap.size (Array.getElem?_eq_some_iff.1 HGV5.out).1).trans HGV5.out
        obtain ⟨V6, hV6⟩ : ∃ V6, (w6.setCell ⟨w5.heap.size, 0, none⟩ (.int .i64 VC.1)).setCell ⟨w5.heap.size, 1, none⟩ (.int .i64 VC.2) = V6 := ⟨_, rfl⟩
        have HW6 : Hid (V6.heap[w5.heap.size]? = some (.cells #[.int .i64 VC.1, .int .i64 VC.2] 28 (0, 0))) := by
          show _ = _
          rw [← hV6]
          have h1 : (w6.setCell ⟨w5.heap.size, 0, none⟩ (.int .i64 VC.1)).heap[w5.heap.size]? = some (.cells #[.int .i64 VC.1, .int .i64 0] 28 (0, 0)) := by
            rw [setCell_eq_setRow w6 w5.heap.size 0 _ _ (0, 0) _ hg6, setRow_heap w6 w5.heap.size _ _ _ _ hg6]; rfl
          rw [setCell_eq_setRow _ w5.heap.size 1 _ _ (0, 0) _ h1, setRow_heap _ w5.heap.size _ _ _ _ h1]; rfl
        have hbW : Below w5.heap.size w5 V6 := by
          rw [← hV6]
          have h1 : Below w5.heap.size w5 V5 := by rw [← hV5]; exact (Below.refl _ _).alloc (Nat.le_refl _) _
          exact ((onB h1 hb6).setCell (Nat.le_refl _) _).setCell (Nat.le_refl _) _
        have HBV6 := hid_of (onB HB5.out hbW)
        have HXV6 := hid_of (HX5.out.later hbW)
        clear hb6 hrk hg6 hbW hV5
        have hval := value_any _ cap l An cn N Ac cc C V6 HXV6.out.l HXV6.out.n HXV6.out.c
        rw [HMN.out, HMC.out, HVE.out.1, HVC.out, errV_zero] at hval
        go_wp2_with fail
        refine hval.mono ?_
        rintro e w7 ⟨rfl, hb7⟩
        have HB7 := hid_of (onB HBV6.out hb7)
        have HX7 := hid_of (HXV6.out.later hb7)
        have hW7 := (hb7.block w5.heap.size (Array.getElem?_eq_some_iff.1 HW6.out).1).trans HW6.out
        obtain ⟨V7, hV7⟩ : ∃ V7, w7.alloc (.cells #[.int .i64 VC.1, .int .i64 VC.2] 28) = V7 := ⟨_, rfl⟩
        have HGot : Hid (V7.heap[w7.heap.size]? = some (.cells #[.int .i64 VC.1, .int .i64 VC.2] 28 (0, 0))) := by show _ = _; rw [← hV7]; exact heap_alloc_new _ _
        have HWant : Hid (V7.heap[w5.heap.size]? = some (.cells #[.int .i64 VC.1, .int .i64 VC.2] 28 (0, 0))) := by show _ = _; rw [← hV7, heap_alloc_old _ _ (Array.getElem?_eq_some_iff.1 hW7).1]; exact hW7
        have hbV7 : Below w7.heap.size w7 V7 := by rw [← hV7]; exact (Below.refl _ _).alloc (Nat.le_refl _) _
        have HBV7 := hid_of (onB HB7.out hbV7)
        have HXV7 := hid_of (HX7.out.later hbV7)
        have hsame := same_errK (0) V7 HXV7.out.k
        rw [errV_zero] at hsame
        clear hb7 hW7 hbV7 hval hV6 r1 r2 r3 rf0 rf1
        go_wp2_with fail
        refine hsame.mono ?_
        rintro e w8 ⟨rfl, hb8⟩
        have HC8 := hid_of hb8
        have HX8 := hid_of (HXV7.out.later hb8)
        clear hb8 hsame hV7
        obtain ⟨b', o', hAe, hNA⟩ := HX8.out.l.here (by omega)
        cases hAe
        have hsw := rswapped_all b o cap l HFE.out ml HML.out w8 hNA
        clear hNA
        go_wp2_with fail
        refine hsw.mono ?_
        rintro e w9 ⟨⟨As, cs, rfl, hNs⟩, hb9⟩
        have HC9 := hid_of (onB HC8.out hb9)
        have HX9 := hid_of (HX8.out.later hb9)
        have HNs := hid_of hNs
        clear hb9 hsw hNs
        have hsp := swap_any _ cap l w9 HX9.out.l
        rw [HFE.out, errV_zero] at hsp
        go_wp2_with fail
        refine hsp.mono ?_
        rintro e w10 ⟨⟨Ax, cx, rfl, hNx⟩, hb10⟩
        have HC10 := hid_of (onB HC9.out hb10)
        have HX10 := hid_of (HX9.out.later hb10)
        have HNx := hid_of hNx
        have HNt := hid_of (HNs.out.later hb10)
        have hse := same_errK (0) w10 HX10.out.k
        rw [errV_zero] at hse
        clear hb10 hsp hNx
        go_wp2_with fail
        refine hse.mono ?_
        rintro e w11 ⟨rfl, hb11⟩
        have HC11 := hid_of (onB HC10.out hb11)
        have HX11 := hid_of (HX10.out.later hb11)
        have hsn := samends_any Ax As cx cs (swpL l) w11 (by rw [(swp_form HFE.out).2.2]; omega) (HNx.out.later hb11) (HNt.out.later hb11)
        clear hb11 hse
        go_wp2_with fail
        refine hsn.mono ?_
        rintro e w12 ⟨rfl, hb12⟩
        have HC12 := hid_of (onB HC11.out hb12)
        have HX12 := hid_of (HX11.out.later hb12)
        have hcs := const_any _ cap l w12 HX12.out.l
        obtain ⟨cb, hcb⟩ : ∃ cb, cstB l = cb := ⟨_, rfl⟩
        have HCb : Hid (cb = decide ((mr : Int) = 0)) := by show _ = _; rw [← hcb, refs_const HFE.out HRf.out, HMR.out]
        rw [HFE.out, hcb, errV_zero] at hcs
        clear hcb
        clear hb12 hsn
        go_wp2_with fail
        refine hcs.mono ?_
        rintro e w13 ⟨rfl, hb13⟩
        have HC13 := hid_of (onB HC12.out hb13)
        have HX13 := hid_of (HX12.out.later hb13)
        have hs3 := same_errK (0) w13 HX13.out.k
        rw [errV_zero] at hs3
        clear hb13 hcs
        go_wp2_with fail
        refine hs3.mono ?_
        rintro e w14 ⟨rfl, hb14⟩
        have HC14 := hid_of (onB HC13.out hb14)
        have hB14 := onB HBV7.out HC14.out
        have HB14 := hid_of hB14
        obtain ⟨q1, q2, q3, -, -⟩ := box2 HWant.out HC14.out
        obtain ⟨p1, p2, p3, -, -⟩ := box2 HGot.out HC14.out
        clear hb14 hs3 hB14
        by_cases hm0 : mr = 0
        · have hcb : cb = true := by rw [HCb.out]; exact decide_eq_true (by omega)
          subst hcb
          have hmi0 : ((mr : Int) == 0) = true := by simp; omega
          clear hm0
          go_wp2_with fail
          go_ret
          exact ⟨rfl, HB14.out⟩
        · have hcb : cb = false := by rw [HCb.out]; exact decide_eq_false (by omega)
          subst hcb
          have hmi0 : ((mr : Int) == 0) = false := by simp; omega
          clear hm0
          go_wp2_with fail
          go_ret
          exact ⟨rfl, HB14.out⟩
end Go.Proofs.YtklfenojapgmnaeDoor

namespace Go.Proofs.YtklfenojapgmnaeDoor
open Go.ChangeShapes Go.WideShapes Go.ChangeAt Go.RowKit

theorem rktells_any (A : Option Addr) (cap : Nat) (l : List Nd) (An : Option Addr) (cn : Nat) (N : List ByteArray) (Ac : Option Addr) (cc : Nat) (C : List (Int × Int)) (w : World) (hK : Kind0 w) (hL : NdsV w A cap l) (hN : NmV w An cn N) (hC : CelV w Ac cc C) :
    Calls Tryd.prog 3 #[.slice A l.length cap, .slice An N.length cn, .slice Ac C.length cc] w fun e w' => e = .returned (.bool true) ∧ Below w.heap.size w w' := by
  have hX : CtxK A cap l An cn N Ac cc C w := ⟨hK, hL, hN, hC⟩
  by_cases h0 : formErr l = 0
  case neg => exact rkt1 A cap l An cn N Ac cc C w hX _ h0 rfl
  by_cases hlen : C.length = N.length
  case neg => exact rkt2 A cap l An cn N Ac cc C w hX h0 hlen
  by_cases hg : ∀ j, j < C.length → goodB C j = false
  case neg => exact rkt3 A cap l An cn N Ac cc C w hX h0 hlen hg
  by_cases hd : ∀ j, 1 ≤ j → j < N.length → downS N j = false
  case neg => exact rkt4 A cap l An cn N Ac cc C w hX h0 hlen hg hd
  cases hm : missT N (treeOf l (l.length - 1))
  · exact rkt6 A cap l An cn N Ac cc C w hX h0 (ck_good hlen hg hd) hm
  · exact rkt5 A cap l An cn N Ac cc C w hX h0 (ck_good hlen hg hd) hm
end Go.Proofs.YtklfenojapgmnaeDoor
