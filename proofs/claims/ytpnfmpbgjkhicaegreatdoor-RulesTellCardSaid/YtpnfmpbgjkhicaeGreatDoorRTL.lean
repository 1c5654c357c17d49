/-
  errors.As at a target of type *api.Errno, of an error that is an api.Errno (it is found, and set), and of nil; plain.Told and tallysame.Error of such errors.
  plain.Told and tallysame.Error: of nil 0, of an api.Errno its number.
  What tallylaw2.RulesTell answers, called in whatever memory: true.
-/
import Derived.Test.YtpnfmpbgjkhicaeGreatDoorOut2
import Derived.LaidEql
import Derived.Stop.Asserts
import Derived.RowKitTokens
import Derived.Test.YtpnfmpbgjkhicaeGreatDoorRTK
namespace Go.Proofs.YtpnfmpbgjkhicaeGreatDoor
open Go.RowKit Go.Extern.Stop Go.Stop Go.Extern

theorem valueOfP (t : Addr) (w : World) : (ReflectliteValue.unpack (.iface 111 (.pointer (some t)))).run Tryz.prog w
    = .ok (.agg #[.pointer (some ⟨7, 111, none⟩), .pointer (some ⟨w.heap.size, 0, none⟩), .int .u64 150]) (w.alloc (.cells #[.pointer (some t)] 111)) := by kernel_rfl
theorem typeP (a : Addr) (w : World) : (ReflectliteValue.methodAny (ReflectliteValue.valueError "reflectlite.Value.Type" 0) (fun t _ _ _ => ReflectliteType.toType t) #[.agg #[.pointer (some ⟨7, 111, none⟩), .pointer (some a), .int .u64 150]]).run Tryz.prog w
    = .ok (.iface 176 (.agg #[.pointer (some ⟨7, 111, none⟩)])) w := by kernel_rfl
theorem methodKind (h : Value) (w : World) : (Go.method 370 176 (.agg #[h]) "Kind").run Tryz.prog w = .ok (219, h) w := by kernel_rfl
theorem kindP (w : World) : ((ReflectliteType.abiMethod fun t => Functor.map (fun a : Nat => Value.int IntKind.u8 (a : Int)) (Rtype.kind t)) #[.pointer (some ⟨7, 111, none⟩)]).run Tryz.prog w = .ok (.int .u8 22) w := by kernel_rfl
theorem kindN (w : World) : ((ReflectliteType.abiMethod fun t => Functor.map (fun a : Nat => Value.int IntKind.u8 (a : Int)) (Rtype.kind t)) #[.pointer (some ⟨7, 72, none⟩)]).run Tryz.prog w = .ok (.int .u8 2) w := by kernel_rfl
theorem methodNil (a : Addr) (W : World) : (ReflectliteValue.method (ReflectliteValue.valueError "reflectlite.Value.IsNil" 0) ReflectliteValue.isNil #[.agg #[.pointer (some ⟨7, 111, none⟩), .pointer (some a), .int .u64 150]]).run Tryz.prog W = (ReflectliteValue.isNil 111 a 150 22).run Tryz.prog W := by kernel_rfl
theorem methodElemV (a : Addr) (W : World) : (ReflectliteValue.method (ReflectliteValue.valueError "reflectlite.Value.Elem" 0) ReflectliteValue.elem #[.agg #[.pointer (some ⟨7, 111, none⟩), .pointer (some a), .int .u64 150]]).run Tryz.prog W = (ReflectliteValue.elem 111 a 150 22).run Tryz.prog W := by kernel_rfl
theorem setRun (ta b : Addr) (W : World) : (ReflectliteValue.set #[.agg #[.pointer (some ⟨7, 72, none⟩), .pointer (some ta), .int .u64 386], .agg #[.pointer (some ⟨7, 72, none⟩), .pointer (some b), .int .u64 130]]).run Tryz.prog W = (do let v ← loadVar 72 b; storeVar 72 ta v; pure (Value.tuple #[]) : Sem Value).run Tryz.prog W := by kernel_rfl
theorem isNilP (a p : Addr) (W : World) (ha : W.cell? a = some (.pointer (some p))) :
    (ReflectliteValue.method (ReflectliteValue.valueError "reflectlite.Value.IsNil" 0) ReflectliteValue.isNil #[.agg #[.pointer (some ⟨7, 111, none⟩), .pointer (some a), .int .u64 150]]).run Tryz.prog W = .ok (.bool false) W := by
  rw [methodNil]
  simp [ReflectliteValue.isNil, loadVar, isAgg, underlying, Tryz.underlying111, ha, Result.andThen]
theorem methodElem (h : Value) (w : World) : (Go.method 370 176 (.agg #[h]) "Elem").run Tryz.prog w = .ok (229, .agg #[h]) w := by kernel_rfl
theorem methodImplements (h : Value) (w : World) : (Go.method 370 176 (.agg #[h]) "Implements").run Tryz.prog w = .ok (230, .agg #[h]) w := by kernel_rfl
theorem methodAssignableTo (h : Value) (w : World) : (Go.method 370 176 (.agg #[h]) "AssignableTo").run Tryz.prog w = .ok (227, .agg #[h]) w := by kernel_rfl
theorem elemP (w : World) : (ReflectliteType.method ReflectliteType.elem #[.agg #[.pointer (some ⟨7, 111, none⟩)]]).run Tryz.prog w = .ok (.iface 176 (.agg #[.pointer (some ⟨7, 72, none⟩)])) w := by kernel_rfl
theorem implementsN (w : World) : (ReflectliteType.relation "Implements" ReflectliteType.implements_ #[.agg #[.pointer (some ⟨7, 72, none⟩)], .iface 176 (.agg #[.pointer (some ⟨7, 24, none⟩)])]).run Tryz.prog w = .ok (.bool true) w := by kernel_rfl
theorem typeOfN (v : Value) (w : World) : (ReflectliteType.typeOf #[.iface 72 v]).run Tryz.prog w = .ok (.iface 176 (.agg #[.pointer (some ⟨7, 72, none⟩)])) w := by kernel_rfl
theorem assignableN (w : World) : (ReflectliteType.relation "AssignableTo" ReflectliteType.assignableTo #[.agg #[.pointer (some ⟨7, 72, none⟩)], .iface 176 (.agg #[.pointer (some ⟨7, 72, none⟩)])]).run Tryz.prog w = .ok (.bool true) w := by kernel_rfl
theorem valueOfN (c : Int) (w : World) : (ReflectliteValue.unpack (.iface 72 (.int .i64 c))).run Tryz.prog w
    = .ok (.agg #[.pointer (some ⟨7, 72, none⟩), .pointer (some ⟨w.heap.size, 0, none⟩), .int .u64 130]) (w.alloc (.cells #[.int .i64 c] 72)) := by kernel_rfl
theorem elemOfP (w : World) : (Rtype.elem? 111).run Tryz.prog w = .ok (some 72) w := by kernel_rfl
theorem mkN (p : Addr) (w : World) : (ReflectliteValue.mk 72 p ReflectliteValue.flagAddr).run Tryz.prog w = .ok (.agg #[.pointer (some ⟨7, 72, none⟩), .pointer (some p), .int .u64 386]) w := by kernel_rfl
theorem elemVP (a p : Addr) (W : World) (ha : W.cell? a = some (.pointer (some p))) :
    (ReflectliteValue.method (ReflectliteValue.valueError "reflectlite.Value.Elem" 0) ReflectliteValue.elem #[.agg #[.pointer (some ⟨7, 111, none⟩), .pointer (some a), .int .u64 150]]).run Tryz.prog W
      = .ok (.agg #[.pointer (some ⟨7, 72, none⟩), .pointer (some p), .int .u64 386]) W := by
  rw [methodElemV]
  simp [ReflectliteValue.elem, loadVar, isAgg, underlying, Tryz.underlying111, ha, Result.andThen, elemOfP, mkN]
theorem setN (ta b : Addr) (c : Int) (old : Value) (W : World) (hb : W.cell? b = some (.int .i64 c)) (ht : W.cell? ta = some old) (hf : W.frozen? ta = false) :
    (ReflectliteValue.set #[.agg #[.pointer (some ⟨7, 72, none⟩), .pointer (some ta), .int .u64 386], .agg #[.pointer (some ⟨7, 72, none⟩), .pointer (some b), .int .u64 130]]).run Tryz.prog W
      = .ok (.tuple #[]) (W.setCell ta (.int .i64 c)) := by
  rw [setRun]
  simp [loadVar, isAgg, underlying, Tryz.underlying72, hb, Result.andThen, storeVar, Value.cells, storeCells, Addr.add]
  rw [run_store Tryz.prog W ta _ _ (by rfl)]
  simp [ht, hf]

def Kind0 (w : World) : Prop := w.cell? ⟨0, 0, none⟩ = some (.iface 176 (.agg #[.pointer (some ⟨7, 24, none⟩)]))
theorem Kind0.lt {w : World} (h : Kind0 w) : 0 < w.heap.size := by
  rcases Nat.lt_or_ge 0 w.heap.size with h' | h'
  · exact h'
  · unfold Kind0 at h
    simp [World.cell?, Array.getElem?_eq_none h'] at h
theorem Kind0.later {w w' : World} (h : Kind0 w) (hb : Below w.heap.size w w') : Kind0 w' := (hb.cell (p := ⟨0, 0, none⟩) h.lt).trans h

set_option maxHeartbeats 4000000 in
theorem as_hit (c : Int) (b : Nat) (w : World) (hk : Kind0 w) (htl : b < w.heap.size) (ht0 : w.cell? ⟨b, 0, none⟩ = some (.int .i64 0)) (hf0 : w.frozen? ⟨b, 0, none⟩ = false) :
    Calls Tryz.prog 59 #[.iface 72 (.int .i64 c), .iface 111 (.pointer (some ⟨b, 0, none⟩))] w fun ev w' => ev = .returned (.bool true) ∧ w' = ((((w.alloc (.cells #[.pointer (some ⟨b, 0, none⟩)] 111)).alloc (.cells #[.pointer (some ⟨7, 111, none⟩), .pointer (some ⟨w.heap.size, 0, none⟩), .int .u64 150] 135)).alloc (.cells #[.pointer (some ⟨7, 111, none⟩), .pointer (some ⟨w.heap.size, 0, none⟩), .int .u64 150] 135)).alloc (.cells #[.int .i64 c] 72)).setCell ⟨b, 0, none⟩ (.int .i64 c) := by
  have x1 := @run_callFunc_extern Tryz.prog 91 _ (fun args => ReflectliteValue.unpack (args.getD 0 (.tuple #[]))) Tryz.func91 (by kernel_rfl) (by kernel_rfl) (by kernel_rfl) (by kernel_rfl)
  have x2 := @run_callFunc_extern Tryz.prog 92 _ (ReflectliteValue.methodAny (ReflectliteValue.valueError "reflectlite.Value.Type" 0) (fun t _ _ _ => ReflectliteType.toType t)) Tryz.func92 (by kernel_rfl) (by kernel_rfl) (by kernel_rfl) (by kernel_rfl)
  have x3 := @run_callFunc_extern Tryz.prog 93 _ (ReflectliteValue.method (ReflectliteValue.valueError "reflectlite.Value.IsNil" 0) ReflectliteValue.isNil) Tryz.func93 (by kernel_rfl) (by kernel_rfl) (by kernel_rfl) (by kernel_rfl)
  have x4 := @run_callFunc_extern Tryz.prog 219 _ (ReflectliteType.abiMethod fun t => do pure (.int .u8 (← Rtype.kind t))) Tryz.func219 (by kernel_rfl) (by kernel_rfl) (by kernel_rfl) (by kernel_rfl)
  have x5 := @run_callFunc_extern Tryz.prog 229 _ (ReflectliteType.method ReflectliteType.elem) Tryz.func229 (by kernel_rfl) (by kernel_rfl) (by kernel_rfl) (by kernel_rfl)
  have x6 := @run_callFunc_extern Tryz.prog 230 _ (ReflectliteType.relation "Implements" ReflectliteType.implements_) Tryz.func230 (by kernel_rfl) (by kernel_rfl) (by kernel_rfl) (by kernel_rfl)
  have x7 := @run_callFunc_extern Tryz.prog 136 _ ReflectliteType.typeOf Tryz.func136 (by kernel_rfl) (by kernel_rfl) (by kernel_rfl) (by kernel_rfl)
  have x8 := @run_callFunc_extern Tryz.prog 227 _ (ReflectliteType.relation "AssignableTo" ReflectliteType.assignableTo) Tryz.func227 (by kernel_rfl) (by kernel_rfl) (by kernel_rfl) (by kernel_rfl)
  have x9 := @run_callFunc_extern Tryz.prog 137 _ (ReflectliteValue.method (ReflectliteValue.valueError "reflectlite.Value.Elem" 0) ReflectliteValue.elem) Tryz.func137 (by kernel_rfl) (by kernel_rfl) (by kernel_rfl) (by kernel_rfl)
  have xa := @run_callFunc_extern Tryz.prog 138 _ ReflectliteValue.set Tryz.func138 (by kernel_rfl) (by kernel_rfl) (by kernel_rfl) (by kernel_rfl)
  have y1 := typeOfN
  have y2 := methodAssignableTo
  have y3 := assignableN
  have y4 := valueOfN
  have y5 := valueOfP
  have y6 := typeP
  have y7 := methodKind
  have y8 := methodElem
  have y9 := methodImplements
  have ya := kindP
  have yb := kindN
  have yc := elemP
  have yd := implementsN
  have n8 := isNilP ⟨w.heap.size, 0, none⟩ ⟨b, 0, none⟩ ((w.alloc (.cells #[.pointer (some ⟨b, 0, none⟩)] 111)).alloc (.cells #[.pointer (some ⟨7, 111, none⟩), .pointer (some ⟨w.heap.size, 0, none⟩), .int .u64 150] 135)) (by simp)
  have hlt := hk.lt
  have hg2 : ((w.alloc (.cells #[.pointer (some ⟨b, 0, none⟩)] 111)).alloc (.cells #[.pointer (some ⟨7, 111, none⟩), .pointer (some ⟨w.heap.size, 0, none⟩), .int .u64 150] 135)).cell? ⟨0, 0, none⟩ = some (.iface 176 (.agg #[.pointer (some ⟨7, 24, none⟩)])) := by
    rw [World.cell?_alloc_lt _ _ ⟨0, 0, none⟩ (by simp), World.cell?_alloc_lt _ _ ⟨0, 0, none⟩ hlt]; exact hk
  have el := elemVP ⟨w.heap.size, 0, none⟩ ⟨b, 0, none⟩ (((w.alloc (.cells #[.pointer (some ⟨b, 0, none⟩)] 111)).alloc (.cells #[.pointer (some ⟨7, 111, none⟩), .pointer (some ⟨w.heap.size, 0, none⟩), .int .u64 150] 135)).alloc (.cells #[.pointer (some ⟨7, 111, none⟩), .pointer (some ⟨w.heap.size, 0, none⟩), .int .u64 150] 135)) (by rw [World.cell?_alloc_lt _ _ ⟨w.heap.size, 0, none⟩ (by simp; omega)]; simp)
  have st := setN ⟨b, 0, none⟩ ⟨w.heap.size + 1 + 1 + 1, 0, none⟩ c (.int .i64 0) ((((w.alloc (.cells #[.pointer (some ⟨b, 0, none⟩)] 111)).alloc (.cells #[.pointer (some ⟨7, 111, none⟩), .pointer (some ⟨w.heap.size, 0, none⟩), .int .u64 150] 135)).alloc (.cells #[.pointer (some ⟨7, 111, none⟩), .pointer (some ⟨w.heap.size, 0, none⟩), .int .u64 150] 135)).alloc (.cells #[.int .i64 c] 72))
    (by rw [World.cell?_alloc_at _ _ _ _ (by simp)]; rfl)
    (by rw [World.cell?_alloc_lt _ _ ⟨b, 0, none⟩ (by simp; omega), World.cell?_alloc_lt _ _ ⟨b, 0, none⟩ (by simp; omega), World.cell?_alloc_lt _ _ ⟨b, 0, none⟩ (by simp; omega), World.cell?_alloc_lt _ _ ⟨b, 0, none⟩ htl]; exact ht0)
    (by rw [World.frozen?_alloc_old _ _ ⟨b, 0, none⟩ (by simp; omega), World.frozen?_alloc_old _ _ ⟨b, 0, none⟩ (by simp; omega), World.frozen?_alloc_old _ _ ⟨b, 0, none⟩ (by simp; omega), World.frozen?_alloc_old _ _ ⟨b, 0, none⟩ (Nat.ne_of_lt htl)]; exact hf0)
  clear hk
  go_enter Tryz.func59, Tryz.ntmps59
  go_wp2
  refine wp_loop_rounds 1 ?_
  rw [rounds_succ]
  go_wp2
  go_ret
  exact ⟨rfl, rfl⟩
end Go.Proofs.YtpnfmpbgjkhicaeGreatDoor

namespace Go.Proofs.YtpnfmpbgjkhicaeGreatDoor
open Go.ChangeShapes Go.WideShapes Go.ChangeAt Go.RowKit

theorem told_nil (w : World) : Calls Tryz.prog 27 #[.nilIface] w fun e w' => e = .returned (.int .i64 0) ∧ w' = w := by
  go_enter Tryz.func27, Tryz.ntmps27
  go_wp2
  go_ret
  exact ⟨rfl, rfl⟩

theorem told_hit (c : Int) (w : World) (hk : Kind0 w) : Calls Tryz.prog 27 #[.iface 72 (.int .i64 c)] w fun e w' => e = .returned (.int .i64 c) ∧ Below w.heap.size w w' := by
  have h := as_hit c w.heap.size (w.alloc (.cells #[.int .i64 0] 72)) (hk.later ((Below.refl _ _).alloc (Nat.le_refl _) _)) (by simp) (by simp) (by simp)
  go_enter Tryz.func27, Tryz.ntmps27
  go_wp2_with fail
  refine h.mono ?_
  rintro e w1 ⟨rfl, hw1⟩
  have hB : Below w.heap.size w w1 := by rw [hw1]; go_grown
  have hc : w1.cell? ⟨w.heap.size, 0, none⟩ = some (.int .i64 c) := by
    rw [hw1]
    refine World.cell?_setCell_same _ _ _ (u := .int .i64 0) ?_
    rw [World.cell?_alloc_lt _ _ ⟨w.heap.size, 0, none⟩ (by first | (simp; done) | (simp; omega)), World.cell?_alloc_lt _ _ ⟨w.heap.size, 0, none⟩ (by first | (simp; done) | (simp; omega)), World.cell?_alloc_lt _ _ ⟨w.heap.size, 0, none⟩ (by first | (simp; done) | (simp; omega)), World.cell?_alloc_lt _ _ ⟨w.heap.size, 0, none⟩ (by first | (simp; done) | (simp; omega))]
    simp
  clear hw1 h hk
  go_wp2_with fail
  go_ret
  exact ⟨rfl, hB⟩

theorem same_nil (n : Int) (w : World) : Calls Tryz.prog 8 #[.nilIface, .int .i64 n] w fun e w' => e = .returned (.bool (0 == n)) ∧ Below w.heap.size w w' := by
  go_enter Tryz.func8, Tryz.ntmps8
  go_wp2_with (go_at_call 27; refine (told_nil _).mono ?_; rintro e w1 ⟨rfl, rfl⟩)
  go_ret
  exact ⟨rfl, Below.refl _ _⟩
theorem same_hit (c n : Int) (w : World) (hk : Kind0 w) : Calls Tryz.prog 8 #[.iface 72 (.int .i64 c), .int .i64 n] w fun e w' => e = .returned (.bool (c == n)) ∧ Below w.heap.size w w' := by
  go_enter Tryz.func8, Tryz.ntmps8
  go_wp2_with fail
  refine (told_hit c _ hk).mono ?_
  rintro e w1 ⟨rfl, hb⟩
  go_wp2_with fail
  go_ret
  exact ⟨rfl, hb⟩
end Go.Proofs.YtpnfmpbgjkhicaeGreatDoor

namespace Go.Proofs.YtpnfmpbgjkhicaeGreatDoor
open Go.ChangeShapes Go.WideShapes Go.ChangeAt Go.RowKit
set_option maxRecDepth 20000

theorem same_errR (c : Int) (w : World) (hk : Kind0 w) : Calls Tryz.prog 8 #[errV c, .int .i64 c] w fun e w' => e = .returned (.bool true) ∧ Below w.heap.size w w' := by
  by_cases h : c = 0
  · subst h
    have := same_nil 0 w
    rw [errV_zero]
    exact this
  · have := same_hit c c w hk
    rw [errV_some h]
    simpa using this
/-- the memory with an outline's and a dim's own blocks -/
def tellW (w : World) (A0 : Option Addr) (n c0 : Nat) (d : Dm) (A1 : Option Addr) (c1 : Nat) : World := ownDim (ownOut w A0 n c0 48) d A1 c1 51
theorem tellW_below (w : World) (A0 : Option Addr) (n c0 : Nat) (d : Dm) (A1 : Option Addr) (c1 : Nat) : Below w.heap.size w (tellW w A0 n c0 d A1 c1) := onB (ownOut_below ..) (ownDim_below ..)
theorem tellW_cells {w w1 : World} {A0 : Option Addr} {n c0 : Nat} {d : Dm} {A1 : Option Addr} {c1 : Nat} (hB : Below (tellW w A0 n c0 d A1 c1).heap.size (tellW w A0 n c0 d A1 c1) w1) : w1.cell? ⟨w.heap.size, 0, none⟩ = some (.slice A0 n c0) ∧ w1.cell? ⟨w.heap.size + 1, 0, none⟩ = some (.string d.name) ∧ w1.cell? ⟨w.heap.size + 1, 1, none⟩ = some (.int .i64 d.solve) ∧ w1.cell? ⟨w.heap.size + 1, 2, none⟩ = some (.slice A1 d.n c1) ∧ w.heap.size + 1 < w1.heap.size := by
  have hS := ownOut_size w A0 n c0 48
  have h := dim_cells (w := ownOut w A0 n c0 48) (d := d) (A := A1) (cap := c1) hB
  rw [hS] at h
  have h0 : (tellW w A0 n c0 d A1 c1).cell? ⟨w.heap.size, 0, none⟩ = some (.slice A0 n c0) := ((ownDim_below (ownOut w A0 n c0 48) d A1 c1 51).cell (p := ⟨w.heap.size, 0, none⟩) (by show w.heap.size < _; omega)).trans (ownOut_at ..)
  have hS2 : (tellW w A0 n c0 d A1 c1).heap.size = w.heap.size + 2 := by unfold tellW; rw [ownDim_size, hS]
  exact ⟨(hB.cell (p := ⟨w.heap.size, 0, none⟩) (by show w.heap.size < _; omega)).trans h0, h.1, h.2.1, h.2.2.1, h.2.2.2⟩

set_option maxHeartbeats 8000000 in
theorem rtell_bad (A0 : Option Addr) (c0 n : Nat) (D : Nat → Dm) (AA : Nat → Option Addr) (C : Nat → Nat) (d : Dm) (A1 : Option Addr) (c1 : Nat) (i : Int) (w : World) (hD : DimsV w A0 c0 n D AA C) (hM : MemsV w A1 c1 d.n d.mem) (hK : Kind0 w) (he : (rErr d).2 ≠ 0) : Calls Tryz.prog 6 #[.agg #[.slice A0 n c0], dimV d A1 c1, .int .i64 i] w fun e w' => e = .returned (.bool true) ∧ Below w.heap.size w w' := by
  have hB0 := tellW_below w A0 n c0 d A1 c1
  have HBx : Hid (∀ w1, Below (tellW w A0 n c0 d A1 c1).heap.size (tellW w A0 n c0 d A1 c1) w1 → w1.cell? ⟨w.heap.size, 0, none⟩ = some (.slice A0 n c0) ∧ w1.cell? ⟨w.heap.size + 1, 0, none⟩ = some (.string d.name) ∧ w1.cell? ⟨w.heap.size + 1, 1, none⟩ = some (.int .i64 d.solve) ∧ w1.cell? ⟨w.heap.size + 1, 2, none⟩ = some (.slice A1 d.n c1) ∧ w.heap.size + 1 < w1.heap.size) := fun w1 h => tellW_cells h
  obtain ⟨W, hW⟩ : ∃ W, tellW w A0 n c0 d A1 c1 = W := ⟨_, rfl⟩
  rw [hW] at hB0 HBx
  have HB0 : Hid (Below w.heap.size w W) := hB0
  have HSr : Hid (∀ w', Below W.heap.size W w' → Calls Tryz.prog 15 #[.agg #[.slice A0 n c0]] w' fun e w'' => e = .returned (.tuple #[.int .i64 (ruErr D n).1, .int .i64 (ruErr D n).2.1, .int .i64 (ruErr D n).2.2]) ∧ Below w'.heap.size w' w'') := fun w' hB => srules_any A0 c0 n D AA C w' (hD.later (onB hB0 hB))
  have HRa : Hid (∀ w', Below W.heap.size W w' → Calls Tryz.prog 16 #[.agg #[.slice A0 n c0]] w' fun e w'' => e = .returned (.tuple #[.int .i64 (ruErr D n).1, .int .i64 (ruErr D n).2.1, errV (ruErr D n).2.2]) ∧ Below w'.heap.size w' w'') := fun w' hB => rulall_any A0 c0 n D AA C w' (hD.later (onB hB0 hB))
  have HE1 : Hid (∀ w', Below W.heap.size W w' → Calls Tryz.prog 8 #[errV (ruErr D n).2.2, .int .i64 (ruErr D n).2.2] w' fun e w'' => e = .returned (.bool true) ∧ Below w'.heap.size w' w'') := fun w' hB => same_errR _ w' (hK.later (onB hB0 hB))
  generalize errV (ruErr D n).2.2 = ev1 at HRa HE1
  generalize (ruErr D n).2.2 = e1 at HSr HE1
  generalize (ruErr D n).1 = p1 at HSr HRa
  generalize (ruErr D n).2.1 = q1 at HSr HRa
  have HSn : Hid (∀ w', Below W.heap.size W w' → Calls Tryz.prog 17 #[.agg #[.string d.name, .int .i64 d.solve, .slice A1 d.n c1]] w' fun e w'' => (∃ A' c' xs, e = .returned (.tuple #[.slice A' xs.length c', .int .i64 (rErr d).1, .int .i64 (rErr d).2]) ∧ RowsV w'' A' c' xs ∧ ((rErr d).2 = 0 → lR xs = ndL d)) ∧ Below w'.heap.size w' w'') := fun w' hB => sneeds_any d A1 c1 w' (hM.later (onB hB0 hB))
  have HCk : Hid (∀ w', Below W.heap.size W w' → Calls Tryz.prog 18 #[.agg #[.string d.name, .int .i64 d.solve, .slice A1 d.n c1]] w' fun e w'' => e = .returned (.tuple #[.int .i64 (rErr d).1, errV (rErr d).2]) ∧ Below w'.heap.size w' w'') := fun w' hB => rcheck_any d A1 c1 w' (hM.later (onB hB0 hB))
  have HOr : Hid (∀ w', Below W.heap.size W w' → Calls Tryz.prog 20 #[.agg #[.string d.name, .int .i64 d.solve, .slice A1 d.n c1]] w' fun e w'' => (∃ A' c', e = .returned (.tuple #[.slice A' (oLst d).length c', errV (rErr d).2]) ∧ IntsAt w'' A' c' (oLst d)) ∧ Below w'.heap.size w' w'') := fun w' hB => rorder_any d A1 c1 w' (hM.later (onB hB0 hB))
  have HNd : Hid (∀ w', Below W.heap.size W w' → Calls Tryz.prog 21 #[.agg #[.string d.name, .int .i64 d.solve, .slice A1 d.n c1], .int .i64 i] w' fun e w'' => (∃ A' c', e = .returned (.tuple #[.slice A' (nLst d i).length c', errV (nErr d i)]) ∧ IntT w'' A' c' (nLst d i)) ∧ Below w'.heap.size w' w'') := fun w' hB => rneed_any d A1 c1 i w' (hM.later (onB hB0 hB))
  have HE2 : Hid (∀ w', Below W.heap.size W w' → Calls Tryz.prog 8 #[errV (rErr d).2, .int .i64 (rErr d).2] w' fun e w'' => e = .returned (.bool true) ∧ Below w'.heap.size w' w'') := fun w' hB => same_errR _ w' (hK.later (onB hB0 hB))
  have HE3 : Hid (∀ w', Below W.heap.size W w' → Calls Tryz.prog 8 #[errV (nErr d i), .int .i64 (nErr d i)] w' fun e w'' => e = .returned (.bool true) ∧ Below w'.heap.size w' w'') := fun w' hB => same_errR _ w' (hK.later (onB hB0 hB))
  have hne : ((rErr d).2 == 0) = false := by simpa using he
  obtain ⟨f1, f2⟩ := ne0 (i := i) he
  have hol : oLst d = [] := by unfold oLst; rw [if_neg he]
  rw [f2] at HNd
  rw [f1] at HNd HE3
  rw [hol] at HOr
  generalize errV (rErr d).2 = ev2 at HCk HOr HNd HE2 HE3
  generalize (rErr d).2 = e2 at HSn HE2 HE3 hne
  generalize (rErr d).1 = p2 at HSn HCk
  clear he f1 f2 hol
  unfold tellW ownDim ownOut at hW
  unfold dimV
  obtain ⟨o0, d0, d1, d2, hq⟩ := HBx.out W (Below.refl _ _)
  have hc := HSr.out W (Below.refl _ _)
  clear hD hM hK hB0
  go_enter Tryz.func6, Tryz.ntmps6
  go_wp2_with fail
  refine hc.mono ?_
  rintro e w1 ⟨rfl, hb1⟩
  have HB1 : Hid (Below W.heap.size W w1) := hb1
  clear hc hb1 o0 d0 d1 d2 hq
  obtain ⟨o0, d0, d1, d2, hq⟩ := HBx.out w1 HB1.out
  have hc := HRa.out w1 HB1.out
  go_wp2_with fail
  refine hc.mono ?_
  rintro e w2 ⟨rfl, hb2⟩
  have HB2 : Hid (Below W.heap.size W w2) := onB HB1.out hb2
  clear hc hb2 o0 d0 d1 d2 hq
  obtain ⟨o0, d0, d1, d2, hq⟩ := HBx.out w2 HB2.out
  have hc := HE1.out w2 HB2.out
  go_wp2_with fail
  refine hc.mono ?_
  rintro e w3 ⟨rfl, hb3⟩
  have HB3 : Hid (Below W.heap.size W w3) := onB HB2.out hb3
  clear hc hb3 o0 d0 d1 d2 hq
  obtain ⟨o0, d0, d1, d2, hq⟩ := HBx.out w3 HB3.out
  have hc := HSn.out w3 HB3.out
  go_wp2_with fail
  refine hc.mono ?_
  rintro e w4 ⟨⟨Ax, cx, xs, rfl, -⟩, hb4⟩
  have HB4 : Hid (Below W.heap.size W w4) := onB HB3.out hb4
  generalize xs.length = xl
  clear hc hb4 o0 d0 d1 d2 hq
  obtain ⟨o0, d0, d1, d2, hq⟩ := HBx.out w4 HB4.out
  have hc := HCk.out w4 HB4.out
  go_wp2_with fail
  refine hc.mono ?_
  rintro e w5 ⟨rfl, hb5⟩
  have HB5 : Hid (Below W.heap.size W w5) := onB HB4.out hb5
  clear hc hb5 o0 d0 d1 d2 hq
  obtain ⟨o0, d0, d1, d2, hq⟩ := HBx.out w5 HB5.out
  have hc := HE2.out w5 HB5.out
  go_wp2_with fail
  refine hc.mono ?_
  rintro e w6 ⟨rfl, hb6⟩
  have HB6 : Hid (Below W.heap.size W w6) := onB HB5.out hb6
  clear hc hb6 o0 d0 d1 d2 hq
  obtain ⟨o0, d0, d1, d2, hq⟩ := HBx.out w6 HB6.out
  have hc := HOr.out w6 HB6.out
  go_wp2_with fail
  refine hc.mono ?_
  rintro e w7 ⟨⟨Ao, co, rfl, -⟩, hb7⟩
  have HB7 : Hid (Below W.heap.size W w7) := onB HB6.out hb7
  clear hc hb7 o0 d0 d1 d2 hq
  obtain ⟨o0, d0, d1, d2, hq⟩ := HBx.out w7 HB7.out
  have hc := HE2.out w7 HB7.out
  go_wp2_with fail
  refine hc.mono ?_
  rintro e w8 ⟨rfl, hb8⟩
  have HB8 : Hid (Below W.heap.size W w8) := onB HB7.out hb8
  clear hc hb8 o0 d0 d1 d2 hq
  obtain ⟨o0, d0, d1, d2, hq⟩ := HBx.out w8 HB8.out
  have hc := HNd.out w8 HB8.out
  go_wp2_with fail
  refine hc.mono ?_
  rintro e w9 ⟨⟨Ab, cb, rfl, -⟩, hb9⟩
  have HB9 : Hid (Below W.heap.size W w9) := onB HB8.out hb9
  clear hc hb9 o0 d0 d1 d2 hq
  obtain ⟨o0, d0, d1, d2, hq⟩ := HBx.out w9 HB9.out
  have hc := HE3.out w9 HB9.out
  go_wp2_with fail
  refine hc.mono ?_
  rintro e w10 ⟨rfl, hb10⟩
  have HB10 : Hid (Below W.heap.size W w10) := onB HB9.out hb10
  clear hc hb10 o0 d0 d1 d2 hq
  obtain ⟨o0, d0, d1, d2, hq⟩ := HBx.out w10 HB10.out
  have hc := sameints_any Ao none co 0 [] w10 (by simp) (IntsAt.nil _ _ _) (IntsAt.nil _ _ _)
  go_wp2_with fail
  refine hc.mono ?_
  rintro e w11 ⟨rfl, hb11⟩
  have HB11 : Hid (Below W.heap.size W w11) := onB HB10.out hb11
  clear hc hb11 o0 d0 d1 d2 hq
  obtain ⟨o0, d0, d1, d2, hq⟩ := HBx.out w11 HB11.out
  have hc := sameints_any Ab none cb 0 [] w11 (by simp) (IntsAt.nil _ _ _) (IntsAt.nil _ _ _)
  go_wp2_with fail
  refine hc.mono ?_
  rintro e w12 ⟨rfl, hb12⟩
  have HB12 : Hid (Below W.heap.size W w12) := onB HB11.out hb12
  clear hc hb12 o0 d0 d1 d2 hq
  obtain ⟨o0, d0, d1, d2, hq⟩ := HBx.out w12 HB12.out
  go_wp2_with fail
  go_ret
  exact ⟨rfl, onB HB0.out HB12.out⟩

set_option maxHeartbeats 8000000 in
theorem rtell_neg (A0 : Option Addr) (c0 n : Nat) (D : Nat → Dm) (AA : Nat → Option Addr) (C : Nat → Nat) (d : Dm) (A1 : Option Addr) (c1 : Nat) (i : Int) (w : World) (hD : DimsV w A0 c0 n D AA C) (hM : MemsV w A1 c1 d.n d.mem) (hK : Kind0 w) (he : (rErr d).2 = 0) (hi : i < 0) : Calls Tryz.prog 6 #[.agg #[.slice A0 n c0], dimV d A1 c1, .int .i64 i] w fun e w' => e = .returned (.bool true) ∧ Below w.heap.size w w' := by
  have hB0 := tellW_below w A0 n c0 d A1 c1
  have HBx : Hid (∀ w1, Below (tellW w A0 n c0 d A1 c1).heap.size (tellW w A0 n c0 d A1 c1) w1 → w1.cell? ⟨w.heap.size, 0, none⟩ = some (.slice A0 n c0) ∧ w1.cell? ⟨w.heap.size + 1, 0, none⟩ = some (.string d.name) ∧ w1.cell? ⟨w.heap.size + 1, 1, none⟩ = some (.int .i64 d.solve) ∧ w1.cell? ⟨w.heap.size + 1, 2, none⟩ = some (.slice A1 d.n c1) ∧ w.heap.size + 1 < w1.heap.size) := fun w1 h => tellW_cells h
  obtain ⟨W, hW⟩ : ∃ W, tellW w A0 n c0 d A1 c1 = W := ⟨_, rfl⟩
  rw [hW] at hB0 HBx
  have HB0 : Hid (Below w.heap.size w W) := hB0
  have HSr : Hid (∀ w', Below W.heap.size W w' → Calls Tryz.prog 15 #[.agg #[.slice A0 n c0]] w' fun e w'' => e = .returned (.tuple #[.int .i64 (ruErr D n).1, .int .i64 (ruErr D n).2.1, .int .i64 (ruErr D n).2.2]) ∧ Below w'.heap.size w' w'') := fun w' hB => srules_any A0 c0 n D AA C w' (hD.later (onB hB0 hB))
  have HRa : Hid (∀ w', Below W.heap.size W w' → Calls Tryz.prog 16 #[.agg #[.slice A0 n c0]] w' fun e w'' => e = .returned (.tuple #[.int .i64 (ruErr D n).1, .int .i64 (ruErr D n).2.1, errV (ruErr D n).2.2]) ∧ Below w'.heap.size w' w'') := fun w' hB => rulall_any A0 c0 n D AA C w' (hD.later (onB hB0 hB))
  have HE1 : Hid (∀ w', Below W.heap.size W w' → Calls Tryz.prog 8 #[errV (ruErr D n).2.2, .int .i64 (ruErr D n).2.2] w' fun e w'' => e = .returned (.bool true) ∧ Below w'.heap.size w' w'') := fun w' hB => same_errR _ w' (hK.later (onB hB0 hB))
  generalize errV (ruErr D n).2.2 = ev1 at HRa HE1
  generalize (ruErr D n).2.2 = e1 at HSr HE1
  generalize (ruErr D n).1 = p1 at HSr HRa
  generalize (ruErr D n).2.1 = q1 at HSr HRa
  have HSn : Hid (∀ w', Below W.heap.size W w' → Calls Tryz.prog 17 #[.agg #[.string d.name, .int .i64 d.solve, .slice A1 d.n c1]] w' fun e w'' => (∃ A' c' xs, e = .returned (.tuple #[.slice A' xs.length c', .int .i64 (rErr d).1, .int .i64 (rErr d).2]) ∧ RowsV w'' A' c' xs ∧ ((rErr d).2 = 0 → lR xs = ndL d)) ∧ Below w'.heap.size w' w'') := fun w' hB => sneeds_any d A1 c1 w' (hM.later (onB hB0 hB))
  have HCk : Hid (∀ w', Below W.heap.size W w' → Calls Tryz.prog 18 #[.agg #[.string d.name, .int .i64 d.solve, .slice A1 d.n c1]] w' fun e w'' => e = .returned (.tuple #[.int .i64 (rErr d).1, errV (rErr d).2]) ∧ Below w'.heap.size w' w'') := fun w' hB => rcheck_any d A1 c1 w' (hM.later (onB hB0 hB))
  have HOr : Hid (∀ w', Below W.heap.size W w' → Calls Tryz.prog 20 #[.agg #[.string d.name, .int .i64 d.solve, .slice A1 d.n c1]] w' fun e w'' => (∃ A' c', e = .returned (.tuple #[.slice A' (oLst d).length c', errV (rErr d).2]) ∧ IntsAt w'' A' c' (oLst d)) ∧ Below w'.heap.size w' w'') := fun w' hB => rorder_any d A1 c1 w' (hM.later (onB hB0 hB))
  have HNd : Hid (∀ w', Below W.heap.size W w' → Calls Tryz.prog 21 #[.agg #[.string d.name, .int .i64 d.solve, .slice A1 d.n c1], .int .i64 i] w' fun e w'' => (∃ A' c', e = .returned (.tuple #[.slice A' (nLst d i).length c', errV (nErr d i)]) ∧ IntT w'' A' c' (nLst d i)) ∧ Below w'.heap.size w' w'') := fun w' hB => rneed_any d A1 c1 i w' (hM.later (onB hB0 hB))
  have HE2 : Hid (∀ w', Below W.heap.size W w' → Calls Tryz.prog 8 #[errV (rErr d).2, .int .i64 (rErr d).2] w' fun e w'' => e = .returned (.bool true) ∧ Below w'.heap.size w' w'') := fun w' hB => same_errR _ w' (hK.later (onB hB0 hB))
  have HE3 : Hid (∀ w', Below W.heap.size W w' → Calls Tryz.prog 8 #[errV (nErr d i), .int .i64 (nErr d i)] w' fun e w'' => e = .returned (.bool true) ∧ Below w'.heap.size w' w'') := fun w' hB => same_errR _ w' (hK.later (onB hB0 hB))
  obtain ⟨f1, f2⟩ := ne1 he (Or.inl hi)
  obtain ⟨hd, -, -, -⟩ := rErr_right he
  obtain ⟨-, -, hd12, -⟩ := dimErr_right hd
  have hac := rErr_acyc he
  have hol : oLst d = ordTo (ndL d) d.n := by unfold oLst; rw [if_pos he]
  have holn : (oLst d).length = d.n := by rw [hol, ord_len (ndL_inn d) hac d.n (by rw [ndL_len]; exact Nat.le_refl _)]
  have HRi : Hid (∀ (w' : World) (A' : Option Addr) (c' : Nat) (xs : List RL), RowsV w' A' c' xs → lR xs = ndL d → Calls Tryz.prog 19 #[.slice A' d.n c'] w' fun e w'' => (∃ A2 c2, e = .returned (.slice A2 d.n c2) ∧ IntsAt w'' A2 c2 (oLst d)) ∧ Below w'.heap.size w' w'') := fun w' A' c' xs hR hL => by
    have hxl : xs.length = d.n := by rw [← lR_len, hL, ndL_len]
    have h := behind_any A' c' xs w' (by rw [hxl]; exact hd12) (by rw [hL]; exact ndL_inn d) (fun x hx => by have h := (nd_rows hL x hx).2; omega) (by rw [hL]; exact hac) hR
    rw [hL, hxl, ← hol, holn] at h
    exact h
  rw [f2] at HNd
  rw [f1] at HNd HE3
  rw [holn] at HOr
  rw [he] at HCk HOr HE2 HSn
  generalize errV 0 = ev2 at HCk HOr HE2
  generalize errV 1 = ev3 at HNd HE3
  generalize (rErr d).1 = p2 at HSn HCk
  have HMd : Hid (∀ j, j < d.n → (ndL d).getD j [] = mNd d j ∧ (mNd d j).length ≤ 12) := fun j hj => ⟨ndL_at hj, Nat.le_trans (mNd_len d j) hd12⟩
  have HLl : Hid ((ndL d).length = d.n) := ndL_len d
  obtain ⟨L, hL⟩ : ∃ L, oLst d = L := ⟨_, rfl⟩
  rw [hL] at HOr HRi holn
  obtain ⟨N, hN⟩ : ∃ N, d.n = N := ⟨_, rfl⟩
  rw [hN] at HOr HRi holn HSn HCk HNd HBx hd12 HMd HLl
  have HOln : Hid (L.length = N) := holn
  have hNI : (N : Int) ≤ 12 := by omega
  unfold tellW ownDim ownOut at hW
  unfold dimV
  rw [hN] at hW ⊢
  obtain ⟨o0, d0, d1, d2, hq⟩ := HBx.out W (Below.refl _ _)
  have hc := HSr.out W (Below.refl _ _)
  clear hD hM hK hB0 he f1 f2 hd hac hol holn hL hN
  go_enter Tryz.func6, Tryz.ntmps6
  go_wp2_with fail
  refine hc.mono ?_
  rintro e w1 ⟨rfl, hb1⟩
  have HB1 : Hid (Below W.heap.size W w1) := hb1
  clear hc hb1 o0 d0 d1 d2 hq
  obtain ⟨o0, d0, d1, d2, hq⟩ := HBx.out w1 HB1.out
  have hc := HRa.out w1 HB1.out
  go_wp2_with fail
  refine hc.mono ?_
  rintro e w2 ⟨rfl, hb2⟩
  have HB2 : Hid (Below W.heap.size W w2) := onB HB1.out hb2
  clear hc hb2 o0 d0 d1 d2 hq
  obtain ⟨o0, d0, d1, d2, hq⟩ := HBx.out w2 HB2.out
  have hc := HE1.out w2 HB2.out
  go_wp2_with fail
  refine hc.mono ?_
  rintro e w3 ⟨rfl, hb3⟩
  have HB3 : Hid (Below W.heap.size W w3) := onB HB2.out hb3
  clear hc hb3 o0 d0 d1 d2 hq
  obtain ⟨o0, d0, d1, d2, hq⟩ := HBx.out w3 HB3.out
  have hc := HSn.out w3 HB3.out
  go_wp2_with fail
  refine hc.mono ?_
  rintro e w4 ⟨⟨Ax, cx, xs, rfl, hRx, hLx⟩, hb4⟩
  have HB4 : Hid (Below W.heap.size W w4) := onB HB3.out hb4
  have HRx_4 : Hid (RowsV w4 Ax cx xs) := hRx
  have HLx : Hid (lR xs = ndL d) := hLx trivial
  have HXl : Hid (xs.length = N) := by show _ = _; rw [← lR_len, HLx.out]; exact HLl.out
  rw [HXl.out]
  clear hc hb4 o0 d0 d1 d2 hq hRx hLx
  obtain ⟨o0, d0, d1, d2, hq⟩ := HBx.out w4 HB4.out
  have hc := HCk.out w4 HB4.out
  go_wp2_with fail
  refine hc.mono ?_
  rintro e w5 ⟨rfl, hb5⟩
  have HB5 : Hid (Below W.heap.size W w5) := onB HB4.out hb5
  have HRx_5 : Hid (RowsV w5 Ax cx xs) := HRx_4.out.later hb5
  clear hc hb5 o0 d0 d1 d2 hq
  obtain ⟨o0, d0, d1, d2, hq⟩ := HBx.out w5 HB5.out
  have hc := HE2.out w5 HB5.out
  go_wp2_with fail
  refine hc.mono ?_
  rintro e w6 ⟨rfl, hb6⟩
  have HB6 : Hid (Below W.heap.size W w6) := onB HB5.out hb6
  have HRx_6 : Hid (RowsV w6 Ax cx xs) := HRx_5.out.later hb6
  clear hc hb6 o0 d0 d1 d2 hq
  obtain ⟨o0, d0, d1, d2, hq⟩ := HBx.out w6 HB6.out
  have hc := HRi.out w6 Ax cx xs HRx_6.out HLx.out
  go_wp2_with fail
  refine hc.mono ?_
  rintro e w7 ⟨⟨Ad, cd, rfl, hId⟩, hb7⟩
  have HB7 : Hid (Below W.heap.size W w7) := onB HB6.out hb7
  have HRx_7 : Hid (RowsV w7 Ax cx xs) := HRx_6.out.later hb7
  have HId_7 : Hid (IntsAt w7 Ad cd L) := hId
  clear hc hb7 o0 d0 d1 d2 hq hId
  obtain ⟨o0, d0, d1, d2, hq⟩ := HBx.out w7 HB7.out
  have hc := HOr.out w7 HB7.out
  go_wp2_with fail
  refine hc.mono ?_
  rintro e w8 ⟨⟨Ao, co, rfl, hIo⟩, hb8⟩
  have HB8 : Hid (Below W.heap.size W w8) := onB HB7.out hb8
  have HRx_8 : Hid (RowsV w8 Ax cx xs) := HRx_7.out.later hb8
  have HId_8 : Hid (IntsAt w8 Ad cd L) := HId_7.out.later hb8
  have HIo_8 : Hid (IntsAt w8 Ao co L) := hIo
  clear hc hb8 o0 d0 d1 d2 hq hIo
  obtain ⟨o0, d0, d1, d2, hq⟩ := HBx.out w8 HB8.out
  have hc := HE2.out w8 HB8.out
  go_wp2_with fail
  refine hc.mono ?_
  rintro e w9 ⟨rfl, hb9⟩
  have HB9 : Hid (Below W.heap.size W w9) := onB HB8.out hb9
  have HRx_9 : Hid (RowsV w9 Ax cx xs) := HRx_8.out.later hb9
  have HId_9 : Hid (IntsAt w9 Ad cd L) := HId_8.out.later hb9
  have HIo_9 : Hid (IntsAt w9 Ao co L) := HIo_8.out.later hb9
  clear hc hb9 o0 d0 d1 d2 hq
  obtain ⟨o0, d0, d1, d2, hq⟩ := HBx.out w9 HB9.out
  have hc := HNd.out w9 HB9.out
  go_wp2_with fail
  refine hc.mono ?_
  rintro e w10 ⟨⟨Ab, cb, rfl, -⟩, hb10⟩
  have HB10 : Hid (Below W.heap.size W w10) := onB HB9.out hb10
  have HRx_10 : Hid (RowsV w10 Ax cx xs) := HRx_9.out.later hb10
  have HId_10 : Hid (IntsAt w10 Ad cd L) := HId_9.out.later hb10
  have HIo_10 : Hid (IntsAt w10 Ao co L) := HIo_9.out.later hb10
  clear hc hb10 o0 d0 d1 d2 hq
  obtain ⟨o0, d0, d1, d2, hq⟩ := HBx.out w10 HB10.out
  have hc := HE3.out w10 HB10.out
  go_wp2_with fail
  refine hc.mono ?_
  rintro e w11 ⟨rfl, hb11⟩
  have HB11 : Hid (Below W.heap.size W w11) := onB HB10.out hb11
  have HRx_11 : Hid (RowsV w11 Ax cx xs) := HRx_10.out.later hb11
  have HId_11 : Hid (IntsAt w11 Ad cd L) := HId_10.out.later hb11
  have HIo_11 : Hid (IntsAt w11 Ao co L) := HIo_10.out.later hb11
  clear hc hb11 o0 d0 d1 d2 hq
  obtain ⟨o0, d0, d1, d2, hq⟩ := HBx.out w11 HB11.out
  have hc := sameints_any Ao Ad co cd L w11 (by rw [HOln.out]; omega) HIo_11.out HId_11.out
  rw [HOln.out] at hc
  go_wp2_with fail
  refine hc.mono ?_
  rintro e w12 ⟨rfl, hb12⟩
  have HB12 : Hid (Below W.heap.size W w12) := onB HB11.out hb12
  have HRx_12 : Hid (RowsV w12 Ax cx xs) := HRx_11.out.later hb12
  have HId_12 : Hid (IntsAt w12 Ad cd L) := HId_11.out.later hb12
  have HIo_12 : Hid (IntsAt w12 Ao co L) := HIo_11.out.later hb12
  clear hc hb12 o0 d0 d1 d2 hq
  obtain ⟨o0, d0, d1, d2, hq⟩ := HBx.out w12 HB12.out
  have hc := sameints_any Ab none cb 0 [] w12 (by simp) (IntsAt.nil _ _ _) (IntsAt.nil _ _ _)
  go_wp2_with fail
  refine hc.mono ?_
  rintro e w13 ⟨rfl, hb13⟩
  have HB13 : Hid (Below W.heap.size W w13) := onB HB12.out hb13
  have HRx_13 : Hid (RowsV w13 Ax cx xs) := HRx_12.out.later hb13
  have HId_13 : Hid (IntsAt w13 Ad cd L) := HId_12.out.later hb13
  have HIo_13 : Hid (IntsAt w13 Ao co L) := HIo_12.out.later hb13
  clear hc hb13 o0 d0 d1 d2 hq
  obtain ⟨o0, d0, d1, d2, hq⟩ := HBx.out w13 HB13.out
  go_wp2_with fail
  go_ret
  exact ⟨rfl, onB HB0.out HB13.out⟩

set_option maxHeartbeats 8000000 in
theorem rtell_big (A0 : Option Addr) (c0 n : Nat) (D : Nat → Dm) (AA : Nat → Option Addr) (C : Nat → Nat) (d : Dm) (A1 : Option Addr) (c1 : Nat) (i : Int) (w : World) (hD : DimsV w A0 c0 n D AA C) (hM : MemsV w A1 c1 d.n d.mem) (hK : Kind0 w) (he : (rErr d).2 = 0) (hi : (d.n : Int) ≤ i) : Calls Tryz.prog 6 #[.agg #[.slice A0 n c0], dimV d A1 c1, .int .i64 i] w fun e w' => e = .returned (.bool true) ∧ Below w.heap.size w w' := by
  have hB0 := tellW_below w A0 n c0 d A1 c1
  have HBx : Hid (∀ w1, Below (tellW w A0 n c0 d A1 c1).heap.size (tellW w A0 n c0 d A1 c1) w1 → w1.cell? ⟨w.heap.size, 0, none⟩ = some (.slice A0 n c0) ∧ w1.cell? ⟨w.heap.size + 1, 0, none⟩ = some (.string d.name) ∧ w1.cell? ⟨w.heap.size + 1, 1, none⟩ = some (.int .i64 d.solve) ∧ w1.cell? ⟨w.heap.size + 1, 2, none⟩ = some (.slice A1 d.n c1) ∧ w.heap.size + 1 < w1.heap.size) := fun w1 h => tellW_cells h
  obtain ⟨W, hW⟩ : ∃ W, tellW w A0 n c0 d A1 c1 = W := ⟨_, rfl⟩
  rw [hW] at hB0 HBx
  have HB0 : Hid (Below w.heap.size w W) := hB0
  have HSr : Hid (∀ w', Below W.heap.size W w' → Calls Tryz.prog 15 #[.agg #[.slice A0 n c0]] w' fun e w'' => e = .returned (.tuple #[.int .i64 (ruErr D n).1, .int .i64 (ruErr D n).2.1, .int .i64 (ruErr D n).2.2]) ∧ Below w'.heap.size w' w'') := fun w' hB => srules_any A0 c0 n D AA C w' (hD.later (onB hB0 hB))
  have HRa : Hid (∀ w', Below W.heap.size W w' → Calls Tryz.prog 16 #[.agg #[.slice A0 n c0]] w' fun e w'' => e = .returned (.tuple #[.int .i64 (ruErr D n).1, .int .i64 (ruErr D n).2.1, errV (ruErr D n).2.2]) ∧ Below w'.heap.size w' w'') := fun w' hB => rulall_any A0 c0 n D AA C w' (hD.later (onB hB0 hB))
  have HE1 : Hid (∀ w', Below W.heap.size W w' → Calls Tryz.prog 8 #[errV (ruErr D n).2.2, .int .i64 (ruErr D n).2.2] w' fun e w'' => e = .returned (.bool true) ∧ Below w'.heap.size w' w'') := fun w' hB => same_errR _ w' (hK.later (onB hB0 hB))
  generalize errV (ruErr D n).2.2 = ev1 at HRa HE1
  generalize (ruErr D n).2.2 = e1 at HSr HE1
  generalize (ruErr D n).1 = p1 at HSr HRa
  generalize (ruErr D n).2.1 = q1 at HSr HRa
  have HSn : Hid (∀ w', Below W.heap.size W w' → Calls Tryz.prog 17 #[.agg #[.string d.name, .int .i64 d.solve, .slice A1 d.n c1]] w' fun e w'' => (∃ A' c' xs, e = .returned (.tuple #[.slice A' xs.length c', .int .i64 (rErr d).1, .int .i64 (rErr d).2]) ∧ RowsV w'' A' c' xs ∧ ((rErr d).2 = 0 → lR xs = ndL d)) ∧ Below w'.heap.size w' w'') := fun w' hB => sneeds_any d A1 c1 w' (hM.later (onB hB0 hB))
  have HCk : Hid (∀ w', Below W.heap.size W w' → Calls Tryz.prog 18 #[.agg #[.string d.name, .int .i64 d.solve, .slice A1 d.n c1]] w' fun e w'' => e = .returned (.tuple #[.int .i64 (rErr d).1, errV (rErr d).2]) ∧ Below w'.heap.size w' w'') := fun w' hB => rcheck_any d A1 c1 w' (hM.later (onB hB0 hB))
  have HOr : Hid (∀ w', Below W.heap.size W w' → Calls Tryz.prog 20 #[.agg #[.string d.name, .int .i64 d.solve, .slice A1 d.n c1]] w' fun e w'' => (∃ A' c', e = .returned (.tuple #[.slice A' (oLst d).length c', errV (rErr d).2]) ∧ IntsAt w'' A' c' (oLst d)) ∧ Below w'.heap.size w' w'') := fun w' hB => rorder_any d A1 c1 w' (hM.later (onB hB0 hB))
  have HNd : Hid (∀ w', Below W.heap.size W w' → Calls Tryz.prog 21 #[.agg #[.string d.name, .int .i64 d.solve, .slice A1 d.n c1], .int .i64 i] w' fun e w'' => (∃ A' c', e = .returned (.tuple #[.slice A' (nLst d i).length c', errV (nErr d i)]) ∧ IntT w'' A' c' (nLst d i)) ∧ Below w'.heap.size w' w'') := fun w' hB => rneed_any d A1 c1 i w' (hM.later (onB hB0 hB))
  have HE2 : Hid (∀ w', Below W.heap.size W w' → Calls Tryz.prog 8 #[errV (rErr d).2, .int .i64 (rErr d).2] w' fun e w'' => e = .returned (.bool true) ∧ Below w'.heap.size w' w'') := fun w' hB => same_errR _ w' (hK.later (onB hB0 hB))
  have HE3 : Hid (∀ w', Below W.heap.size W w' → Calls Tryz.prog 8 #[errV (nErr d i), .int .i64 (nErr d i)] w' fun e w'' => e = .returned (.bool true) ∧ Below w'.heap.size w' w'') := fun w' hB => same_errR _ w' (hK.later (onB hB0 hB))
  obtain ⟨f1, f2⟩ := ne1 he (Or.inr hi)
  obtain ⟨hd, -, -, -⟩ := rErr_right he
  obtain ⟨-, -, hd12, -⟩ := dimErr_right hd
  have hac := rErr_acyc he
  have hol : oLst d = ordTo (ndL d) d.n := by unfold oLst; rw [if_pos he]
  have holn : (oLst d).length = d.n := by rw [hol, ord_len (ndL_inn d) hac d.n (by rw [ndL_len]; exact Nat.le_refl _)]
  have HRi : Hid (∀ (w' : World) (A' : Option Addr) (c' : Nat) (xs : List RL), RowsV w' A' c' xs → lR xs = ndL d → Calls Tryz.prog 19 #[.slice A' d.n c'] w' fun e w'' => (∃ A2 c2, e = .returned (.slice A2 d.n c2) ∧ IntsAt w'' A2 c2 (oLst d)) ∧ Below w'.heap.size w' w'') := fun w' A' c' xs hR hL => by
    have hxl : xs.length = d.n := by rw [← lR_len, hL, ndL_len]
    have h := behind_any A' c' xs w' (by rw [hxl]; exact hd12) (by rw [hL]; exact ndL_inn d) (fun x hx => by have h := (nd_rows hL x hx).2; omega) (by rw [hL]; exact hac) hR
    rw [hL, hxl, ← hol, holn] at h
    exact h
  rw [f2] at HNd
  rw [f1] at HNd HE3
  rw [holn] at HOr
  rw [he] at HCk HOr HE2 HSn
  generalize errV 0 = ev2 at HCk HOr HE2
  generalize errV 1 = ev3 at HNd HE3
  generalize (rErr d).1 = p2 at HSn HCk
  have HMd : Hid (∀ j, j < d.n → (ndL d).getD j [] = mNd d j ∧ (mNd d j).length ≤ 12) := fun j hj => ⟨ndL_at hj, Nat.le_trans (mNd_len d j) hd12⟩
  have HLl : Hid ((ndL d).length = d.n) := ndL_len d
  obtain ⟨L, hL⟩ : ∃ L, oLst d = L := ⟨_, rfl⟩
  rw [hL] at HOr HRi holn
  obtain ⟨N, hN⟩ : ∃ N, d.n = N := ⟨_, rfl⟩
  rw [hN] at HOr HRi holn HSn HCk HNd HBx hd12 HMd HLl
  have HOln : Hid (L.length = N) := holn
  have hNI : (N : Int) ≤ 12 := by omega
  rw [hN] at hi
  unfold tellW ownDim ownOut at hW
  unfold dimV
  rw [hN] at hW ⊢
  obtain ⟨o0, d0, d1, d2, hq⟩ := HBx.out W (Below.refl _ _)
  have hc := HSr.out W (Below.refl _ _)
  clear hD hM hK hB0 he f1 f2 hd hac hol holn hL hN
  go_enter Tryz.func6, Tryz.ntmps6
  go_wp2_with fail
  refine hc.mono ?_
  rintro e w1 ⟨rfl, hb1⟩
  have HB1 : Hid (Below W.heap.size W w1) := hb1
  clear hc hb1 o0 d0 d1 d2 hq
  obtain ⟨o0, d0, d1, d2, hq⟩ := HBx.out w1 HB1.out
  have hc := HRa.out w1 HB1.out
  go_wp2_with fail
  refine hc.mono ?_
  rintro e w2 ⟨rfl, hb2⟩
  have HB2 : Hid (Below W.heap.size W w2) := onB HB1.out hb2
  clear hc hb2 o0 d0 d1 d2 hq
  obtain ⟨o0, d0, d1, d2, hq⟩ := HBx.out w2 HB2.out
  have hc := HE1.out w2 HB2.out
  go_wp2_with fail
  refine hc.mono ?_
  rintro e w3 ⟨rfl, hb3⟩
  have HB3 : Hid (Below W.heap.size W w3) := onB HB2.out hb3
  clear hc hb3 o0 d0 d1 d2 hq
  obtain ⟨o0, d0, d1, d2, hq⟩ := HBx.out w3 HB3.out
  have hc := HSn.out w3 HB3.out
  go_wp2_with fail
  refine hc.mono ?_
  rintro e w4 ⟨⟨Ax, cx, xs, rfl, hRx, hLx⟩, hb4⟩
  have HB4 : Hid (Below W.heap.size W w4) := onB HB3.out hb4
  have HRx_4 : Hid (RowsV w4 Ax cx xs) := hRx
  have HLx : Hid (lR xs = ndL d) := hLx trivial
  have HXl : Hid (xs.length = N) := by show _ = _; rw [← lR_len, HLx.out]; exact HLl.out
  rw [HXl.out]
  clear hc hb4 o0 d0 d1 d2 hq hRx hLx
  obtain ⟨o0, d0, d1, d2, hq⟩ := HBx.out w4 HB4.out
  have hc := HCk.out w4 HB4.out
  go_wp2_with fail
  refine hc.mono ?_
  rintro e w5 ⟨rfl, hb5⟩
  have HB5 : Hid (Below W.heap.size W w5) := onB HB4.out hb5
  have HRx_5 : Hid (RowsV w5 Ax cx xs) := HRx_4.out.later hb5
  clear hc hb5 o0 d0 d1 d2 hq
  obtain ⟨o0, d0, d1, d2, hq⟩ := HBx.out w5 HB5.out
  have hc := HE2.out w5 HB5.out
  go_wp2_with fail
  refine hc.mono ?_
  rintro e w6 ⟨rfl, hb6⟩
  have HB6 : Hid (Below W.heap.size W w6) := onB HB5.out hb6
  have HRx_6 : Hid (RowsV w6 Ax cx xs) := HRx_5.out.later hb6
  clear hc hb6 o0 d0 d1 d2 hq
  obtain ⟨o0, d0, d1, d2, hq⟩ := HBx.out w6 HB6.out
  have hc := HRi.out w6 Ax cx xs HRx_6.out HLx.out
  go_wp2_with fail
  refine hc.mono ?_
  rintro e w7 ⟨⟨Ad, cd, rfl, hId⟩, hb7⟩
  have HB7 : Hid (Below W.heap.size W w7) := onB HB6.out hb7
  have HRx_7 : Hid (RowsV w7 Ax cx xs) := HRx_6.out.later hb7
  have HId_7 : Hid (IntsAt w7 Ad cd L) := hId
  clear hc hb7 o0 d0 d1 d2 hq hId
  obtain ⟨o0, d0, d1, d2, hq⟩ := HBx.out w7 HB7.out
  have hc := HOr.out w7 HB7.out
  go_wp2_with fail
  refine hc.mono ?_
  rintro e w8 ⟨⟨Ao, co, rfl, hIo⟩, hb8⟩
  have HB8 : Hid (Below W.heap.size W w8) := onB HB7.out hb8
  have HRx_8 : Hid (RowsV w8 Ax cx xs) := HRx_7.out.later hb8
  have HId_8 : Hid (IntsAt w8 Ad cd L) := HId_7.out.later hb8
  have HIo_8 : Hid (IntsAt w8 Ao co L) := hIo
  clear hc hb8 o0 d0 d1 d2 hq hIo
  obtain ⟨o0, d0, d1, d2, hq⟩ := HBx.out w8 HB8.out
  have hc := HE2.out w8 HB8.out
  go_wp2_with fail
  refine hc.mono ?_
  rintro e w9 ⟨rfl, hb9⟩
  have HB9 : Hid (Below W.heap.size W w9) := onB HB8.out hb9
  have HRx_9 : Hid (RowsV w9 Ax cx xs) := HRx_8.out.later hb9
  have HId_9 : Hid (IntsAt w9 Ad cd L) := HId_8.out.later hb9
  have HIo_9 : Hid (IntsAt w9 Ao co L) := HIo_8.out.later hb9
  have hi0 : decide (i < 0) = false := decide_eq_false (by omega)
  clear hc hb9 o0 d0 d1 d2 hq
  obtain ⟨o0, d0, d1, d2, hq⟩ := HBx.out w9 HB9.out
  have hc := HNd.out w9 HB9.out
  go_wp2_with fail
  refine hc.mono ?_
  rintro e w10 ⟨⟨Ab, cb, rfl, -⟩, hb10⟩
  have HB10 : Hid (Below W.heap.size W w10) := onB HB9.out hb10
  have HRx_10 : Hid (RowsV w10 Ax cx xs) := HRx_9.out.later hb10
  have HId_10 : Hid (IntsAt w10 Ad cd L) := HId_9.out.later hb10
  have HIo_10 : Hid (IntsAt w10 Ao co L) := HIo_9.out.later hb10
  clear hc hb10 o0 d0 d1 d2 hq
  obtain ⟨o0, d0, d1, d2, hq⟩ := HBx.out w10 HB10.out
  have hc := HE3.out w10 HB10.out
  go_wp2_with fail
  refine hc.mono ?_
  rintro e w11 ⟨rfl, hb11⟩
  have HB11 : Hid (Below W.heap.size W w11) := onB HB10.out hb11
  have HRx_11 : Hid (RowsV w11 Ax cx xs) := HRx_10.out.later hb11
  have HId_11 : Hid (IntsAt w11 Ad cd L) := HId_10.out.later hb11
  have HIo_11 : Hid (IntsAt w11 Ao co L) := HIo_10.out.later hb11
  clear hc hb11 o0 d0 d1 d2 hq
  obtain ⟨o0, d0, d1, d2, hq⟩ := HBx.out w11 HB11.out
  have hc := sameints_any Ao Ad co cd L w11 (by rw [HOln.out]; omega) HIo_11.out HId_11.out
  rw [HOln.out] at hc
  go_wp2_with fail
  refine hc.mono ?_
  rintro e w12 ⟨rfl, hb12⟩
  have HB12 : Hid (Below W.heap.size W w12) := onB HB11.out hb12
  have HRx_12 : Hid (RowsV w12 Ax cx xs) := HRx_11.out.later hb12
  have HId_12 : Hid (IntsAt w12 Ad cd L) := HId_11.out.later hb12
  have HIo_12 : Hid (IntsAt w12 Ao co L) := HIo_11.out.later hb12
  clear hc hb12 o0 d0 d1 d2 hq
  obtain ⟨o0, d0, d1, d2, hq⟩ := HBx.out w12 HB12.out
  have hc := sameints_any Ab none cb 0 [] w12 (by simp) (IntsAt.nil _ _ _) (IntsAt.nil _ _ _)
  go_wp2_with fail
  refine hc.mono ?_
  rintro e w13 ⟨rfl, hb13⟩
  have HB13 : Hid (Below W.heap.size W w13) := onB HB12.out hb13
  have HRx_13 : Hid (RowsV w13 Ax cx xs) := HRx_12.out.later hb13
  have HId_13 : Hid (IntsAt w13 Ad cd L) := HId_12.out.later hb13
  have HIo_13 : Hid (IntsAt w13 Ao co L) := HIo_12.out.later hb13
  clear hc hb13 o0 d0 d1 d2 hq
  obtain ⟨o0, d0, d1, d2, hq⟩ := HBx.out w13 HB13.out
  go_wp2_with fail
  go_ret
  exact ⟨rfl, onB HB0.out HB13.out⟩

set_option maxHeartbeats 8000000 in
theorem rtell_in (A0 : Option Addr) (c0 n : Nat) (D : Nat → Dm) (AA : Nat → Option Addr) (C : Nat → Nat) (d : Dm) (A1 : Option Addr) (c1 : Nat) (i : Int) (w : World) (hD : DimsV w A0 c0 n D AA C) (hM : MemsV w A1 c1 d.n d.mem) (hK : Kind0 w) (he : (rErr d).2 = 0) (k : Nat) (hk : k < d.n) (hik : i = k) : Calls Tryz.prog 6 #[.agg #[.slice A0 n c0], dimV d A1 c1, .int .i64 i] w fun e w' => e = .returned (.bool true) ∧ Below w.heap.size w w' := by
  subst hik
  have hB0 := tellW_below w A0 n c0 d A1 c1
  have HBx : Hid (∀ w1, Below (tellW w A0 n c0 d A1 c1).heap.size (tellW w A0 n c0 d A1 c1) w1 → w1.cell? ⟨w.heap.size, 0, none⟩ = some (.slice A0 n c0) ∧ w1.cell? ⟨w.heap.size + 1, 0, none⟩ = some (.string d.name) ∧ w1.cell? ⟨w.heap.size + 1, 1, none⟩ = some (.int .i64 d.solve) ∧ w1.cell? ⟨w.heap.size + 1, 2, none⟩ = some (.slice A1 d.n c1) ∧ w.heap.size + 1 < w1.heap.size) := fun w1 h => tellW_cells h
  obtain ⟨W, hW⟩ : ∃ W, tellW w A0 n c0 d A1 c1 = W := ⟨_, rfl⟩
  rw [hW] at hB0 HBx
  have HB0 : Hid (Below w.heap.size w W) := hB0
  have HSr : Hid (∀ w', Below W.heap.size W w' → Calls Tryz.prog 15 #[.agg #[.slice A0 n c0]] w' fun e w'' => e = .returned (.tuple #[.int .i64 (ruErr D n).1, .int .i64 (ruErr D n).2.1, .int .i64 (ruErr D n).2.2]) ∧ Below w'.heap.size w' w'') := fun w' hB => srules_any A0 c0 n D AA C w' (hD.later (onB hB0 hB))
  have HRa : Hid (∀ w', Below W.heap.size W w' → Calls Tryz.prog 16 #[.agg #[.slice A0 n c0]] w' fun e w'' => e = .returned (.tuple #[.int .i64 (ruErr D n).1, .int .i64 (ruErr D n).2.1, errV (ruErr D n).2.2]) ∧ Below w'.heap.size w' w'') := fun w' hB => rulall_any A0 c0 n D AA C w' (hD.later (onB hB0 hB))
  have HE1 : Hid (∀ w', Below W.heap.size W w' → Calls Tryz.prog 8 #[errV (ruErr D n).2.2, .int .i64 (ruErr D n).2.2] w' fun e w'' => e = .returned (.bool true) ∧ Below w'.heap.size w' w'') := fun w' hB => same_errR _ w' (hK.later (onB hB0 hB))
  generalize errV (ruErr D n).2.2 = ev1 at HRa HE1
  generalize (ruErr D n).2.2 = e1 at HSr HE1
  generalize (ruErr D n).1 = p1 at HSr HRa
  generalize (ruErr D n).2.1 = q1 at HSr HRa
  have HSn : Hid (∀ w', Below W.heap.size W w' → Calls Tryz.prog 17 #[.agg #[.string d.name, .int .i64 d.solve, .slice A1 d.n c1]] w' fun e w'' => (∃ A' c' xs, e = .returned (.tuple #[.slice A' xs.length c', .int .i64 (rErr d).1, .int .i64 (rErr d).2]) ∧ RowsV w'' A' c' xs ∧ ((rErr d).2 = 0 → lR xs = ndL d)) ∧ Below w'.heap.size w' w'') := fun w' hB => sneeds_any d A1 c1 w' (hM.later (onB hB0 hB))
  have HCk : Hid (∀ w', Below W.heap.size W w' → Calls Tryz.prog 18 #[.agg #[.string d.name, .int .i64 d.solve, .slice A1 d.n c1]] w' fun e w'' => e = .returned (.tuple #[.int .i64 (rErr d).1, errV (rErr d).2]) ∧ Below w'.heap.size w' w'') := fun w' hB => rcheck_any d A1 c1 w' (hM.later (onB hB0 hB))
  have HOr : Hid (∀ w', Below W.heap.size W w' → Calls Tryz.prog 20 #[.agg #[.string d.name, .int .i64 d.solve, .slice A1 d.n c1]] w' fun e w'' => (∃ A' c', e = .returned (.tuple #[.slice A' (oLst d).length c', errV (rErr d).2]) ∧ IntsAt w'' A' c' (oLst d)) ∧ Below w'.heap.size w' w'') := fun w' hB => rorder_any d A1 c1 w' (hM.later (onB hB0 hB))
  have HNd : Hid (∀ w', Below W.heap.size W w' → Calls Tryz.prog 21 #[.agg #[.string d.name, .int .i64 d.solve, .slice A1 d.n c1], .int .i64 (k : Int)] w' fun e w'' => (∃ A' c', e = .returned (.tuple #[.slice A' (nLst d (k : Int)).length c', errV (nErr d (k : Int))]) ∧ IntT w'' A' c' (nLst d (k : Int))) ∧ Below w'.heap.size w' w'') := fun w' hB => rneed_any d A1 c1 (k : Int) w' (hM.later (onB hB0 hB))
  have HE2 : Hid (∀ w', Below W.heap.size W w' → Calls Tryz.prog 8 #[errV (rErr d).2, .int .i64 (rErr d).2] w' fun e w'' => e = .returned (.bool true) ∧ Below w'.heap.size w' w'') := fun w' hB => same_errR _ w' (hK.later (onB hB0 hB))
  have HE3 : Hid (∀ w', Below W.heap.size W w' → Calls Tryz.prog 8 #[errV (nErr d (k : Int)), .int .i64 (nErr d (k : Int))] w' fun e w'' => e = .returned (.bool true) ∧ Below w'.heap.size w' w'') := fun w' hB => same_errR _ w' (hK.later (onB hB0 hB))
  obtain ⟨f1, f2⟩ := ne2 he hk
  obtain ⟨hd, -, -, -⟩ := rErr_right he
  obtain ⟨-, -, hd12, -⟩ := dimErr_right hd
  have hac := rErr_acyc he
  have hol : oLst d = ordTo (ndL d) d.n := by unfold oLst; rw [if_pos he]
  have holn : (oLst d).length = d.n := by rw [hol, ord_len (ndL_inn d) hac d.n (by rw [ndL_len]; exact Nat.le_refl _)]
  have HRi : Hid (∀ (w' : World) (A' : Option Addr) (c' : Nat) (xs : List RL), RowsV w' A' c' xs → lR xs = ndL d → Calls Tryz.prog 19 #[.slice A' d.n c'] w' fun e w'' => (∃ A2 c2, e = .returned (.slice A2 d.n c2) ∧ IntsAt w'' A2 c2 (oLst d)) ∧ Below w'.heap.size w' w'') := fun w' A' c' xs hR hL => by
    have hxl : xs.length = d.n := by rw [← lR_len, hL, ndL_len]
    have h := behind_any A' c' xs w' (by rw [hxl]; exact hd12) (by rw [hL]; exact ndL_inn d) (fun x hx => by have h := (nd_rows hL x hx).2; omega) (by rw [hL]; exact hac) hR
    rw [hL, hxl, ← hol, holn] at h
    exact h
  rw [f2] at HNd
  rw [f1] at HNd HE3
  rw [holn] at HOr
  rw [he] at HCk HOr HE2 HSn
  generalize errV 0 = ev2 at HCk HOr HE2 HNd HE3
  generalize (rErr d).1 = p2 at HSn HCk
  have HMd : Hid (∀ j, j < d.n → (ndL d).getD j [] = mNd d j ∧ (mNd d j).length ≤ 12) := fun j hj => ⟨ndL_at hj, Nat.le_trans (mNd_len d j) hd12⟩
  have HLl : Hid ((ndL d).length = d.n) := ndL_len d
  obtain ⟨L, hL⟩ : ∃ L, oLst d = L := ⟨_, rfl⟩
  rw [hL] at HOr HRi holn
  obtain ⟨N, hN⟩ : ∃ N, d.n = N := ⟨_, rfl⟩
  rw [hN] at HOr HRi holn HSn HCk HNd HBx hd12 HMd HLl
  have HOln : Hid (L.length = N) := holn
  have hNI : (N : Int) ≤ 12 := by omega
  rw [hN] at hk
  have hki : (k : Int) < (N : Int) := by omega
  have HMl := hid_of (HMd.out k hk).2
  have HMe := hid_of (HMd.out k hk).1
  obtain ⟨M, hMk⟩ : ∃ M, mNd d k = M := ⟨_, rfl⟩
  rw [hMk] at HNd HMl HMe
  obtain ⟨m, hm⟩ : ∃ m, M.length = m := ⟨_, rfl⟩
  have HMm : Hid (M.length = m) := hm
  rw [hm] at HNd HMl
  unfold tellW ownDim ownOut at hW
  unfold dimV
  rw [hN] at hW ⊢
  obtain ⟨o0, d0, d1, d2, hq⟩ := HBx.out W (Below.refl _ _)
  have hc := HSr.out W (Below.refl _ _)
  clear hD hM hK hB0 he f1 f2 hd hac hol holn hL hN hMk hm
  go_enter Tryz.func6, Tryz.ntmps6
  go_wp2_with fail
  refine hc.mono ?_
  rintro e w1 ⟨rfl, hb1⟩
  have HB1 : Hid (Below W.heap.size W w1) := hb1
  clear hc hb1 o0 d0 d1 d2 hq
  obtain ⟨o0, d0, d1, d2, hq⟩ := HBx.out w1 HB1.out
  have hc := HRa.out w1 HB1.out
  go_wp2_with fail
  refine hc.mono ?_
  rintro e w2 ⟨rfl, hb2⟩
  have HB2 : Hid (Below W.heap.size W w2) := onB HB1.out hb2
  clear hc hb2 o0 d0 d1 d2 hq
  obtain ⟨o0, d0, d1, d2, hq⟩ := HBx.out w2 HB2.out
  have hc := HE1.out w2 HB2.out
  go_wp2_with fail
  refine hc.mono ?_
  rintro e w3 ⟨rfl, hb3⟩
  have HB3 : Hid (Below W.heap.size W w3) := onB HB2.out hb3
  clear hc hb3 o0 d0 d1 d2 hq
  obtain ⟨o0, d0, d1, d2, hq⟩ := HBx.out w3 HB3.out
  have hc := HSn.out w3 HB3.out
  go_wp2_with fail
  refine hc.mono ?_
  rintro e w4 ⟨⟨Ax, cx, xs, rfl, hRx, hLx⟩, hb4⟩
  have HB4 : Hid (Below W.heap.size W w4) := onB HB3.out hb4
  have HRx_4 : Hid (RowsV w4 Ax cx xs) := hRx
  have HLx : Hid (lR xs = ndL d) := hLx trivial
  have HXl : Hid (xs.length = N) := by show _ = _; rw [← lR_len, HLx.out]; exact HLl.out
  rw [HXl.out]
  clear hc hb4 o0 d0 d1 d2 hq hRx hLx
  obtain ⟨o0, d0, d1, d2, hq⟩ := HBx.out w4 HB4.out
  have hc := HCk.out w4 HB4.out
  go_wp2_with fail
  refine hc.mono ?_
  rintro e w5 ⟨rfl, hb5⟩
  have HB5 : Hid (Below W.heap.size W w5) := onB HB4.out hb5
  have HRx_5 : Hid (RowsV w5 Ax cx xs) := HRx_4.out.later hb5
  clear hc hb5 o0 d0 d1 d2 hq
  obtain ⟨o0, d0, d1, d2, hq⟩ := HBx.out w5 HB5.out
  have hc := HE2.out w5 HB5.out
  go_wp2_with fail
  refine hc.mono ?_
  rintro e w6 ⟨rfl, hb6⟩
  have HB6 : Hid (Below W.heap.size W w6) := onB HB5.out hb6
  have HRx_6 : Hid (RowsV w6 Ax cx xs) := HRx_5.out.later hb6
  clear hc hb6 o0 d0 d1 d2 hq
  obtain ⟨o0, d0, d1, d2, hq⟩ := HBx.out w6 HB6.out
  have hc := HRi.out w6 Ax cx xs HRx_6.out HLx.out
  go_wp2_with fail
  refine hc.mono ?_
  rintro e w7 ⟨⟨Ad, cd, rfl, hId⟩, hb7⟩
  have HB7 : Hid (Below W.heap.size W w7) := onB HB6.out hb7
  have HRx_7 : Hid (RowsV w7 Ax cx xs) := HRx_6.out.later hb7
  have HId_7 : Hid (IntsAt w7 Ad cd L) := hId
  clear hc hb7 o0 d0 d1 d2 hq hId
  obtain ⟨o0, d0, d1, d2, hq⟩ := HBx.out w7 HB7.out
  have hc := HOr.out w7 HB7.out
  go_wp2_with fail
  refine hc.mono ?_
  rintro e w8 ⟨⟨Ao, co, rfl, hIo⟩, hb8⟩
  have HB8 : Hid (Below W.heap.size W w8) := onB HB7.out hb8
  have HRx_8 : Hid (RowsV w8 Ax cx xs) := HRx_7.out.later hb8
  have HId_8 : Hid (IntsAt w8 Ad cd L) := HId_7.out.later hb8
  have HIo_8 : Hid (IntsAt w8 Ao co L) := hIo
  clear hc hb8 o0 d0 d1 d2 hq hIo
  obtain ⟨o0, d0, d1, d2, hq⟩ := HBx.out w8 HB8.out
  have hc := HE2.out w8 HB8.out
  go_wp2_with fail
  refine hc.mono ?_
  rintro e w9 ⟨rfl, hb9⟩
  have HB9 : Hid (Below W.heap.size W w9) := onB HB8.out hb9
  have HRx_9 : Hid (RowsV w9 Ax cx xs) := HRx_8.out.later hb9
  have HId_9 : Hid (IntsAt w9 Ad cd L) := HId_8.out.later hb9
  have HIo_9 : Hid (IntsAt w9 Ao co L) := HIo_8.out.later hb9
  obtain ⟨hcX, hx0 | ⟨bx, rfl, hbx, hclx⟩, hrwx⟩ := HRx_9.out
  · have := HXl.out; rw [hx0] at this; simp at this; omega
  have cx1 := hclx k (by rw [HXl.out]; exact hk)
  have HPx : Hid ((xs.getD k noR).p = M) := by show _ = _; rw [← lR_at, HLx.out]; exact HMe.out
  have hTx := hrwx _ (rl_mem (k := k) (by rw [HXl.out]; exact hk))
  rw [HPx.out] at cx1 hTx
  rw [HMm.out] at cx1
  generalize (xs.getD k noR).A = Ak at cx1 hTx
  generalize (xs.getD k noR).c = ck at cx1 hTx
  have HTx_9 : Hid (IntsAt w9 Ak ck M) := hTx.at
  rw [HXl.out] at hcX
  have hcXi : (N : Int) ≤ (cx : Int) := by omega
  clear hclx hrwx hTx
  clear hc hb9 o0 d0 d1 d2 hq
  obtain ⟨o0, d0, d1, d2, hq⟩ := HBx.out w9 HB9.out
  have hc := HNd.out w9 HB9.out
  go_wp2_with fail
  refine hc.mono ?_
  rintro e w10 ⟨⟨Ab, cb, rfl, hTb⟩, hb10⟩
  have HB10 : Hid (Below W.heap.size W w10) := onB HB9.out hb10
  have HId_10 : Hid (IntsAt w10 Ad cd L) := HId_9.out.later hb10
  have HIo_10 : Hid (IntsAt w10 Ao co L) := HIo_9.out.later hb10
  have HTx_10 : Hid (IntsAt w10 Ak ck M) := HTx_9.out.later hb10
  have HTb_10 : Hid (IntsAt w10 Ab cb M) := hTb.at
  clear hc hb10 o0 d0 d1 d2 hq hTb cx1
  obtain ⟨o0, d0, d1, d2, hq⟩ := HBx.out w10 HB10.out
  have hc := HE3.out w10 HB10.out
  go_wp2_with fail
  refine hc.mono ?_
  rintro e w11 ⟨rfl, hb11⟩
  have HB11 : Hid (Below W.heap.size W w11) := onB HB10.out hb11
  have HId_11 : Hid (IntsAt w11 Ad cd L) := HId_10.out.later hb11
  have HIo_11 : Hid (IntsAt w11 Ao co L) := HIo_10.out.later hb11
  have HTx_11 : Hid (IntsAt w11 Ak ck M) := HTx_10.out.later hb11
  have HTb_11 : Hid (IntsAt w11 Ab cb M) := HTb_10.out.later hb11
  clear hc hb11 o0 d0 d1 d2 hq
  obtain ⟨o0, d0, d1, d2, hq⟩ := HBx.out w11 HB11.out
  have hc := sameints_any Ao Ad co cd L w11 (by rw [HOln.out]; omega) HIo_11.out HId_11.out
  rw [HOln.out] at hc
  go_wp2_with fail
  refine hc.mono ?_
  rintro e w12 ⟨rfl, hb12⟩
  have HB12 : Hid (Below W.heap.size W w12) := onB HB11.out hb12
  have HId_12 : Hid (IntsAt w12 Ad cd L) := HId_11.out.later hb12
  have HIo_12 : Hid (IntsAt w12 Ao co L) := HIo_11.out.later hb12
  have HTx_12 : Hid (IntsAt w12 Ak ck M) := HTx_11.out.later hb12
  have HTb_12 : Hid (IntsAt w12 Ab cb M) := HTb_11.out.later hb12
  clear hc hb12 o0 d0 d1 d2 hq
  obtain ⟨o0, d0, d1, d2, hq⟩ := HBx.out w12 HB12.out
  have hc := sameints_any Ab Ak cb ck M w12 (by rw [HMm.out]; exact HMl.out) HTb_12.out HTx_12.out
  rw [HMm.out] at hc
  go_wp2_with fail
  refine hc.mono ?_
  rintro e w13 ⟨rfl, hb13⟩
  have HB13 : Hid (Below W.heap.size W w13) := onB HB12.out hb13
  have HId_13 : Hid (IntsAt w13 Ad cd L) := HId_12.out.later hb13
  have HIo_13 : Hid (IntsAt w13 Ao co L) := HIo_12.out.later hb13
  have HTx_13 : Hid (IntsAt w13 Ak ck M) := HTx_12.out.later hb13
  have HTb_13 : Hid (IntsAt w13 Ab cb M) := HTb_12.out.later hb13
  clear hc hb13 o0 d0 d1 d2 hq
  obtain ⟨o0, d0, d1, d2, hq⟩ := HBx.out w13 HB13.out
  go_wp2_with fail
  go_ret
  exact ⟨rfl, onB HB0.out HB13.out⟩

theorem rtell_any (A0 : Option Addr) (c0 n : Nat) (D : Nat → Dm) (AA : Nat → Option Addr) (C : Nat → Nat) (d : Dm) (A1 : Option Addr) (c1 : Nat) (i : Int) (w : World) (hD : DimsV w A0 c0 n D AA C) (hM : MemsV w A1 c1 d.n d.mem) (hK : Kind0 w) : Calls Tryz.prog 6 #[.agg #[.slice A0 n c0], dimV d A1 c1, .int .i64 i] w fun e w' => e = .returned (.bool true) ∧ Below w.heap.size w w' := by
  by_cases he : (rErr d).2 = 0
  · by_cases h0 : i < 0
    · exact rtell_neg A0 c0 n D AA C d A1 c1 i w hD hM hK he h0
    · by_cases h1 : (d.n : Int) ≤ i
      · exact rtell_big A0 c0 n D AA C d A1 c1 i w hD hM hK he h1
      · exact rtell_in A0 c0 n D AA C d A1 c1 i w hD hM hK he i.toNat (by omega) (by omega)
  · exact rtell_bad A0 c0 n D AA C d A1 c1 i w hD hM hK he
end Go.Proofs.YtpnfmpbgjkhicaeGreatDoor
