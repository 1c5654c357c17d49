/-
  errors.As at a target of type *api.Errno, of an error that is an api.Errno (it is found, and set), and of nil; plain.Told and tallysame.Error of such errors.
  plain.Told and tallysame.Error: of nil 0, of an api.Errno its number.
  What tallylaw4.RulesRing answers, called in whatever memory: true.
-/
import Derived.Test.YtpnfmpbgjkhicafGreatDoorOut2
import Derived.LaidEql
import Derived.Stop.Asserts
import Derived.RowKitTokens
import Derived.Test.YtpnfmpbgjkhicafGreatDoorRRB
namespace Go.Proofs.YtpnfmpbgjkhicafGreatDoor
open Go.RowKit Go.Extern.Stop Go.Stop Go.Extern

theorem valueOfP (t : Addr) (w : World) : (ReflectliteValue.unpack (.iface 51 (.pointer (some t)))).run Tryz.prog w
    = .ok (.agg #[.pointer (some ⟨7, 51, none⟩), .pointer (some ⟨w.heap.size, 0, none⟩), .int .u64 150]) (w.alloc (.cells #[.pointer (some t)] 51)) := by kernel_rfl
theorem typeP (a : Addr) (w : World) : (ReflectliteValue.methodAny (ReflectliteValue.valueError "reflectlite.Value.Type" 0) (fun t _ _ _ => ReflectliteType.toType t) #[.agg #[.pointer (some ⟨7, 51, none⟩), .pointer (some a), .int .u64 150]]).run Tryz.prog w
    = .ok (.iface 89 (.agg #[.pointer (some ⟨7, 51, none⟩)])) w := by kernel_rfl
theorem methodKind (h : Value) (w : World) : (Go.method 322 89 (.agg #[h]) "Kind").run Tryz.prog w = .ok (163, h) w := by kernel_rfl
theorem kindP (w : World) : ((ReflectliteType.abiMethod fun t => Functor.map (fun a : Nat => Value.int IntKind.u8 (a : Int)) (Rtype.kind t)) #[.pointer (some ⟨7, 51, none⟩)]).run Tryz.prog w = .ok (.int .u8 22) w := by kernel_rfl
theorem kindN (w : World) : ((ReflectliteType.abiMethod fun t => Functor.map (fun a : Nat => Value.int IntKind.u8 (a : Int)) (Rtype.kind t)) #[.pointer (some ⟨7, 44, none⟩)]).run Tryz.prog w = .ok (.int .u8 2) w := by kernel_rfl
theorem methodNil (a : Addr) (W : World) : (ReflectliteValue.method (ReflectliteValue.valueError "reflectlite.Value.IsNil" 0) ReflectliteValue.isNil #[.agg #[.pointer (some ⟨7, 51, none⟩), .pointer (some a), .int .u64 150]]).run Tryz.prog W = (ReflectliteValue.isNil 51 a 150 22).run Tryz.prog W := by kernel_rfl
theorem methodElemV (a : Addr) (W : World) : (ReflectliteValue.method (ReflectliteValue.valueError "reflectlite.Value.Elem" 0) ReflectliteValue.elem #[.agg #[.pointer (some ⟨7, 51, none⟩), .pointer (some a), .int .u64 150]]).run Tryz.prog W = (ReflectliteValue.elem 51 a 150 22).run Tryz.prog W := by kernel_rfl
theorem setRun (ta b : Addr) (W : World) : (ReflectliteValue.set #[.agg #[.pointer (some ⟨7, 44, none⟩), .pointer (some ta), .int .u64 386], .agg #[.pointer (some ⟨7, 44, none⟩), .pointer (some b), .int .u64 130]]).run Tryz.prog W = (do let v ← loadVar 44 b; storeVar 44 ta v; pure (Value.tuple #[]) : Sem Value).run Tryz.prog W := by kernel_rfl
theorem isNilP (a p : Addr) (W : World) (ha : W.cell? a = some (.pointer (some p))) :
    (ReflectliteValue.method (ReflectliteValue.valueError "reflectlite.Value.IsNil" 0) ReflectliteValue.isNil #[.agg #[.pointer (some ⟨7, 51, none⟩), .pointer (some a), .int .u64 150]]).run Tryz.prog W = .ok (.bool false) W := by
  rw [methodNil]
  simp [ReflectliteValue.isNil, loadVar, isAgg, underlying, Tryz.underlying51, ha, Result.andThen]
theorem methodElem (h : Value) (w : World) : (Go.method 322 89 (.agg #[h]) "Elem").run Tryz.prog w = .ok (173, .agg #[h]) w := by kernel_rfl
theorem methodImplements (h : Value) (w : World) : (Go.method 322 89 (.agg #[h]) "Implements").run Tryz.prog w = .ok (174, .agg #[h]) w := by kernel_rfl
theorem methodAssignableTo (h : Value) (w : World) : (Go.method 322 89 (.agg #[h]) "AssignableTo").run Tryz.prog w = .ok (171, .agg #[h]) w := by kernel_rfl
theorem elemP (w : World) : (ReflectliteType.method ReflectliteType.elem #[.agg #[.pointer (some ⟨7, 51, none⟩)]]).run Tryz.prog w = .ok (.iface 89 (.agg #[.pointer (some ⟨7, 44, none⟩)])) w := by kernel_rfl
theorem implementsN (w : World) : (ReflectliteType.relation "Implements" ReflectliteType.implements_ #[.agg #[.pointer (some ⟨7, 44, none⟩)], .iface 89 (.agg #[.pointer (some ⟨7, 29, none⟩)])]).run Tryz.prog w = .ok (.bool true) w := by kernel_rfl
theorem typeOfN (v : Value) (w : World) : (ReflectliteType.typeOf #[.iface 44 v]).run Tryz.prog w = .ok (.iface 89 (.agg #[.pointer (some ⟨7, 44, none⟩)])) w := by kernel_rfl
theorem assignableN (w : World) : (ReflectliteType.relation "AssignableTo" ReflectliteType.assignableTo #[.agg #[.pointer (some ⟨7, 44, none⟩)], .iface 89 (.agg #[.pointer (some ⟨7, 44, none⟩)])]).run Tryz.prog w = .ok (.bool true) w := by kernel_rfl
theorem valueOfN (c : Int) (w : World) : (ReflectliteValue.unpack (.iface 44 (.int .i64 c))).run Tryz.prog w
    = .ok (.agg #[.pointer (some ⟨7, 44, none⟩), .pointer (some ⟨w.heap.size, 0, none⟩), .int .u64 130]) (w.alloc (.cells #[.int .i64 c] 44)) := by kernel_rfl
theorem elemOfP (w : World) : (Rtype.elem? 51).run Tryz.prog w = .ok (some 44) w := by kernel_rfl
theorem mkN (p : Addr) (w : World) : (ReflectliteValue.mk 44 p ReflectliteValue.flagAddr).run Tryz.prog w = .ok (.agg #[.pointer (some ⟨7, 44, none⟩), .pointer (some p), .int .u64 386]) w := by kernel_rfl
theorem elemVP (a p : Addr) (W : World) (ha : W.cell? a = some (.pointer (some p))) :
    (ReflectliteValue.method (ReflectliteValue.valueError "reflectlite.Value.Elem" 0) ReflectliteValue.elem #[.agg #[.pointer (some ⟨7, 51, none⟩), .pointer (some a), .int .u64 150]]).run Tryz.prog W
      = .ok (.agg #[.pointer (some ⟨7, 44, none⟩), .pointer (some p), .int .u64 386]) W := by
  rw [methodElemV]
  simp [ReflectliteValue.elem, loadVar, isAgg, underlying, Tryz.underlying51, ha, Result.andThen, elemOfP, mkN]
theorem setN (ta b : Addr) (c : Int) (old : Value) (W : World) (hb : W.cell? b = some (.int .i64 c)) (ht : W.cell? ta = some old) (hf : W.frozen? ta = false) :
    (ReflectliteValue.set #[.agg #[.pointer (some ⟨7, 44, none⟩), .pointer (some ta), .int .u64 386], .agg #[.pointer (some ⟨7, 44, none⟩), .pointer (some b), .int .u64 130]]).run Tryz.prog W
      = .ok (.tuple #[]) (W.setCell ta (.int .i64 c)) := by
  rw [setRun]
  simp [loadVar, isAgg, underlying, Tryz.underlying44, hb, Result.andThen, storeVar, Value.cells, storeCells, Addr.add]
  rw [run_store Tryz.prog W ta _ _ (by rfl)]
  simp [ht, hf]

def Kind0 (w : World) : Prop := w.cell? ⟨0, 0, none⟩ = some (.iface 89 (.agg #[.pointer (some ⟨7, 29, none⟩)]))
theorem Kind0.lt {w : World} (h : Kind0 w) : 0 < w.heap.size := by
  rcases Nat.lt_or_ge 0 w.heap.size with h' | h'
  · exact h'
  · unfold Kind0 at h
    simp [World.cell?, Array.getElem?_eq_none h'] at h
theorem Kind0.later {w w' : World} (h : Kind0 w) (hb : Below w.heap.size w w') : Kind0 w' := (hb.cell (p := ⟨0, 0, none⟩) h.lt).trans h

set_option maxHeartbeats 4000000 in
theorem as_hit (c : Int) (b : Nat) (w : World) (hk : Kind0 w) (htl : b < w.heap.size) (ht0 : w.cell? ⟨b, 0, none⟩ = some (.int .i64 0)) (hf0 : w.frozen? ⟨b, 0, none⟩ = false) :
    Calls Tryz.prog 19 #[.iface 44 (.int .i64 c), .iface 51 (.pointer (some ⟨b, 0, none⟩))] w fun ev w' => ev = .returned (.bool true) ∧ w' = ((((w.alloc (.cells #[.pointer (some ⟨b, 0, none⟩)] 51)).alloc (.cells #[.pointer (some ⟨7, 51, none⟩), .pointer (some ⟨w.heap.size, 0, none⟩), .int .u64 150] 65)).alloc (.cells #[.pointer (some ⟨7, 51, none⟩), .pointer (some ⟨w.heap.size, 0, none⟩), .int .u64 150] 65)).alloc (.cells #[.int .i64 c] 44)).setCell ⟨b, 0, none⟩ (.int .i64 c) := by
  have x1 := @run_callFunc_extern Tryz.prog 32 _ (fun args => ReflectliteValue.unpack (args.getD 0 (.tuple #[]))) Tryz.func32 (by kernel_rfl) (by kernel_rfl) (by kernel_rfl) (by kernel_rfl)
  have x2 := @run_callFunc_extern Tryz.prog 33 _ (ReflectliteValue.methodAny (ReflectliteValue.valueError "reflectlite.Value.Type" 0) (fun t _ _ _ => ReflectliteType.toType t)) Tryz.func33 (by kernel_rfl) (by kernel_rfl) (by kernel_rfl) (by kernel_rfl)
  have x3 := @run_callFunc_extern Tryz.prog 34 _ (ReflectliteValue.method (ReflectliteValue.valueError "reflectlite.Value.IsNil" 0) ReflectliteValue.isNil) Tryz.func34 (by kernel_rfl) (by kernel_rfl) (by kernel_rfl) (by kernel_rfl)
  have x4 := @run_callFunc_extern Tryz.prog 163 _ (ReflectliteType.abiMethod fun t => do pure (.int .u8 (← Rtype.kind t))) Tryz.func163 (by kernel_rfl) (by kernel_rfl) (by kernel_rfl) (by kernel_rfl)
  have x5 := @run_callFunc_extern Tryz.prog 173 _ (ReflectliteType.method ReflectliteType.elem) Tryz.func173 (by kernel_rfl) (by kernel_rfl) (by kernel_rfl) (by kernel_rfl)
  have x6 := @run_callFunc_extern Tryz.prog 174 _ (ReflectliteType.relation "Implements" ReflectliteType.implements_) Tryz.func174 (by kernel_rfl) (by kernel_rfl) (by kernel_rfl) (by kernel_rfl)
  have x7 := @run_callFunc_extern Tryz.prog 47 _ ReflectliteType.typeOf Tryz.func47 (by kernel_rfl) (by kernel_rfl) (by kernel_rfl) (by kernel_rfl)
  have x8 := @run_callFunc_extern Tryz.prog 171 _ (ReflectliteType.relation "AssignableTo" ReflectliteType.assignableTo) Tryz.func171 (by kernel_rfl) (by kernel_rfl) (by kernel_rfl) (by kernel_rfl)
  have x9 := @run_callFunc_extern Tryz.prog 48 _ (ReflectliteValue.method (ReflectliteValue.valueError "reflectlite.Value.Elem" 0) ReflectliteValue.elem) Tryz.func48 (by kernel_rfl) (by kernel_rfl) (by kernel_rfl) (by kernel_rfl)
  have xa := @run_callFunc_extern Tryz.prog 49 _ ReflectliteValue.set Tryz.func49 (by kernel_rfl) (by kernel_rfl) (by kernel_rfl) (by kernel_rfl)
  have y1 := typeOfN
  have y2 := methodAssignableTo
  have y3 := assignableN
  have y4 := valueOfN
  have y5 := valueOfP
  have y6 := typeP
  have y7 := methodKind
  have y8 := methodElem
  have y9 := methodImplements
  have ya := kindP
  have yb := kindN
  have yc := elemP
  have yd := implementsN
  have n8 := isNilP ⟨w.heap.size, 0, none⟩ ⟨b, 0, none⟩ ((w.alloc (.cells #[.pointer (some ⟨b, 0, none⟩)] 51)).alloc (.cells #[.pointer (some ⟨7, 51, none⟩), .pointer (some ⟨w.heap.size, 0, none⟩), .int .u64 150] 65)) (by simp)
  have hlt := hk.lt
  have hg2 : ((w.alloc (.cells #[.pointer (some ⟨b, 0, none⟩)] 51)).alloc (.cells #[.pointer (some ⟨7, 51, none⟩), .pointer (some ⟨w.heap.size, 0, none⟩), .int .u64 150] 65)).cell? ⟨0, 0, none⟩ = some (.iface 89 (.agg #[.pointer (some ⟨7, 29, none⟩)])) := by
    rw [World.cell?_alloc_lt _ _ ⟨0, 0, none⟩ (by simp), World.cell?_alloc_lt _ _ ⟨0, 0, none⟩ hlt]; exact hk
  have el := elemVP ⟨w.heap.size, 0, none⟩ ⟨b, 0, none⟩ (((w.alloc (.cells #[.pointer (some ⟨b, 0, none⟩)] 51)).alloc (.cells #[.pointer (some ⟨7, 51, none⟩), .pointer (some ⟨w.heap.size, 0, none⟩), .int .u64 150] 65)).alloc (.cells #[.pointer (some ⟨7, 51, none⟩), .pointer (some ⟨w.heap.size, 0, none⟩), .int .u64 150] 65)) (by rw [World.cell?_alloc_lt _ _ ⟨w.heap.size, 0, none⟩ (by simp; omega)]; simp)
  have st := setN ⟨b, 0, none⟩ ⟨w.heap.size + 1 + 1 + 1, 0, none⟩ c (.int .i64 0) ((((w.alloc (.cells #[.pointer (some ⟨b, 0, none⟩)] 51)).alloc (.cells #[.pointer (some ⟨7, 51, none⟩), .pointer (some ⟨w.heap.size, 0, none⟩), .int .u64 150] 65)).alloc (.cells #[.pointer (some ⟨7, 51, none⟩), .pointer (some ⟨w.heap.size, 0, none⟩), .int .u64 150] 65)).alloc (.cells #[.int .i64 c] 44))
    (by rw [World.cell?_alloc_at _ _ _ _ (by simp)]; rfl)
    (by rw [World.cell?_alloc_lt _ _ ⟨b, 0, none⟩ (by simp; omega), World.cell?_alloc_lt _ _ ⟨b, 0, none⟩ (by simp; omega), World.cell?_alloc_lt _ _ ⟨b, 0, none⟩ (by simp; omega), World.cell?_alloc_lt _ _ ⟨b, 0, none⟩ htl]; exact ht0)
    (by rw [World.frozen?_alloc_old _ _ ⟨b, 0, none⟩ (by simp; omega), World.frozen?_alloc_old _ _ ⟨b, 0, none⟩ (by simp; omega), World.frozen?_alloc_old _ _ ⟨b, 0, none⟩ (by simp; omega), World.frozen?_alloc_old _ _ ⟨b, 0, none⟩ (Nat.ne_of_lt htl)]; exact hf0)
  clear hk
  go_enter Tryz.func19, Tryz.ntmps19
  go_wp2
  refine wp_loop_rounds 1 ?_
  rw [rounds_succ]
  go_wp2
  go_ret
  exact ⟨rfl, rfl⟩
end Go.Proofs.YtpnfmpbgjkhicafGreatDoor

namespace Go.Proofs.YtpnfmpbgjkhicafGreatDoor
open Go.ChangeShapes Go.WideShapes Go.ChangeAt Go.RowKit

theorem told_nil (w : World) : Calls Tryz.prog 12 #[.nilIface] w fun e w' => e = .returned (.int .i64 0) ∧ w' = w := by
  go_enter Tryz.func12, Tryz.ntmps12
  go_wp2
  go_ret
  exact ⟨rfl, rfl⟩

theorem told_hit (c : Int) (w : World) (hk : Kind0 w) : Calls Tryz.prog 12 #[.iface 44 (.int .i64 c)] w fun e w' => e = .returned (.int .i64 c) ∧ Below w.heap.size w w' := by
  have h := as_hit c w.heap.size (w.alloc (.cells #[.int .i64 0] 44)) (hk.later ((Below.refl _ _).alloc (Nat.le_refl _) _)) (by simp) (by simp) (by simp)
  go_enter Tryz.func12, Tryz.ntmps12
  go_wp2_with fail
  refine h.mono ?_
  rintro e w1 ⟨rfl, hw1⟩
  have hB : Below w.heap.size w w1 := by rw [hw1]; go_grown
  have hc : w1.cell? ⟨w.heap.size, 0, none⟩ = some (.int .i64 c) := by
    rw [hw1]
    refine World.cell?_setCell_same _ _ _ (u := .int .i64 0) ?_
    rw [World.cell?_alloc_lt _ _ ⟨w.heap.size, 0, none⟩ (by first | (simp; done) | (simp; omega)), World.cell?_alloc_lt _ _ ⟨w.heap.size, 0, none⟩ (by first | (simp; done) | (simp; omega)), World.cell?_alloc_lt _ _ ⟨w.heap.size, 0, none⟩ (by first | (simp; done) | (simp; omega)), World.cell?_alloc_lt _ _ ⟨w.heap.size, 0, none⟩ (by first | (simp; done) | (simp; omega))]
    simp
  clear hw1 h hk
  go_wp2_with fail
  go_ret
  exact ⟨rfl, hB⟩

theorem same_nil (n : Int) (w : World) : Calls Tryz.prog 9 #[.nilIface, .int .i64 n] w fun e w' => e = .returned (.bool (0 == n)) ∧ Below w.heap.size w w' := by
  go_enter Tryz.func9, Tryz.ntmps9
  go_wp2_with (go_at_call 12; refine (told_nil _).mono ?_; rintro e w1 ⟨rfl, rfl⟩)
  go_ret
  exact ⟨rfl, Below.refl _ _⟩
theorem same_hit (c n : Int) (w : World) (hk : Kind0 w) : Calls Tryz.prog 9 #[.iface 44 (.int .i64 c), .int .i64 n] w fun e w' => e = .returned (.bool (c == n)) ∧ Below w.heap.size w w' := by
  go_enter Tryz.func9, Tryz.ntmps9
  go_wp2_with fail
  refine (told_hit c _ hk).mono ?_
  rintro e w1 ⟨rfl, hb⟩
  go_wp2_with fail
  go_ret
  exact ⟨rfl, hb⟩
end Go.Proofs.YtpnfmpbgjkhicafGreatDoor

namespace Go.Proofs.YtpnfmpbgjkhicafGreatDoor
open Go.ChangeShapes Go.WideShapes Go.ChangeAt Go.RowKit
set_option maxRecDepth 20000

theorem ring_rem (i n : Nat) : ((i : Int) + 1).tmod (n : Int) = (((i + 1) % n : Nat) : Int) := rfl
/-- what is told of the ring -/
theorem ring_check (n g cap : Nat) (w : World) (hn : n < 11) (hc : n + 1 ≤ cap) (hM : MemsAt w g 0 (n + 1) (ringM (n + 1))) : Calls Tryz.prog 6 #[.agg #[.string ⟨#[97]⟩, .int .i64 0, .slice (some ⟨g, 0, none⟩) (n + 1) cap]] w fun e w' => e = .returned (.tuple #[.int .i64 0, .iface 44 (.int .i64 8)]) ∧ Below w.heap.size w w' := by
  have h := rcheck_any (ringD (n + 1)) (some ⟨g, 0, none⟩) cap w ⟨hc, Or.inr ⟨g, 0, rfl, hM⟩⟩
  rw [ring_err n hn] at h
  exact h
theorem open_check (n g cap : Nat) (w : World) (hn : n < 11) (hc : n + 1 ≤ cap) (hM : MemsAt w g 0 (n + 1) (openM (n + 1))) : Calls Tryz.prog 6 #[.agg #[.string ⟨#[97]⟩, .int .i64 0, .slice (some ⟨g, 0, none⟩) (n + 1) cap]] w fun e w' => e = .returned (.tuple #[.int .i64 (-1), .nilIface]) ∧ Below w.heap.size w w' := by
  have h := rcheck_any (openD (n + 1)) (some ⟨g, 0, none⟩) cap w ⟨hc, Or.inr ⟨g, 0, rfl, hM⟩⟩
  rw [open_err n hn] at h
  exact h
theorem open_order (n g cap : Nat) (w : World) (hn : n < 11) (hc : n + 1 ≤ cap) (hM : MemsAt w g 0 (n + 1) (openM (n + 1))) : Calls Tryz.prog 5 #[.agg #[.string ⟨#[97]⟩, .int .i64 0, .slice (some ⟨g, 0, none⟩) (n + 1) cap]] w fun e w' => (∃ b c', e = .returned (.tuple #[.slice (some ⟨b, 0, none⟩) (n + 1) c', .nilIface]) ∧ n + 1 ≤ c' ∧ b < w'.heap.size ∧ w'.cell? ⟨b, 0, none⟩ = some (.int .i64 n)) ∧ Below w.heap.size w w' := by
  have h := rorder_any (openD (n + 1)) (some ⟨g, 0, none⟩) cap w ⟨hc, Or.inr ⟨g, 0, rfl, hM⟩⟩
  obtain ⟨h1, h2⟩ := open_lst n hn
  rw [open_err n hn, h1] at h
  refine h.mono fun e w' ⟨⟨A', c', he, hI⟩, hb⟩ => ⟨?_, hb⟩
  obtain ⟨hc', h0 | ⟨b, rfl, hbl, hcl⟩⟩ := hI
  · rw [h0] at h1; simp at h1
  · rw [h1] at hc'
    refine ⟨b, c', he, hc', hbl, ?_⟩
    rw [hcl 0 (by rw [h1]; omega), h2]

set_option maxHeartbeats 8000000 in
theorem rring_core (n : Nat) (op : Bool) (w : World) (hn : n < 11) (hK : Kind0 w) : Calls Tryz.prog 4 #[.int .i64 ((n : Int) + 1), .bool op] w fun e w' => e = .returned (.bool true) ∧ Below w.heap.size w w' := by
  obtain ⟨i0, hi0, hz0, hz1, hz2⟩ := info_parts Tryz.infoMemF
  obtain ⟨m, hm⟩ : ∃ m, n + 1 = m := ⟨_, rfl⟩
  have hmI : (n : Int) + 1 = (m : Int) := by omega
  have HN : Hid (n + 1 = m) := hm
  have HNn : Hid (n < 11) := hn
  have HK : Hid (Kind0 w) := hK
  rw [hmI]
  have hm1 : 1 ≤ (m : Int) := by omega
  have hm2 : (m : Int) ≤ 11 := by omega
  have hmz : ((m : Int) == 0) = false := by simp; omega
  have HR0 : Hid (RingAt w m 0 (.slice none 0 0) (w.alloc (.cells #[.string ⟨#[97]⟩, .int .i64 0, .slice none 0 0] 24))) := ⟨World.ownsRow_nil _ _ _ _, heap_alloc_new _ _, (Below.refl _ _).alloc (Nat.le_refl _) _⟩
  have hb1 : decide ((m : Int) < 1) = false := decide_eq_false (by omega)
  have hb2 : decide (11 < (m : Int)) = false := decide_eq_false (by omega)
  clear hn hK hm hmI
  go_enter Tryz.func4, Tryz.ntmps4
  go_wp2_with fail
  go_loopg [6] m (fun g s6 wr => ∃ (k : Nat) (v : Value), k ≤ m ∧ g = m - k ∧ s6 = .int .i64 k ∧ RingAt w m k v wr)
  case atStart => exact ⟨0, _, Nat.zero_le _, rfl, rfl, HR0.out⟩
  case round =>
    obtain ⟨k, v, hk, rfl, rfl, hrel⟩ := hrel
    have HR : Hid (RingAt w m k v wr) := hrel
    have hqr := hrel.lt
    have c0 : wr.cell? ⟨w.heap.size, 0, none⟩ = some (.string ⟨#[97]⟩) := by rw [Lib.cell_of_heap hrel.box]; rfl
    have c1 : wr.cell? ⟨w.heap.size, 1, none⟩ = some (.int .i64 0) := by rw [Lib.cell_of_heap hrel.box]; rfl
    have c2 : wr.cell? ⟨w.heap.size, 2, none⟩ = some v := by rw [Lib.cell_of_heap hrel.box]; rfl
    have c3 : wr.frozen? ⟨w.heap.size, 2, none⟩ = false := Lib.frozen_of_heap hrel.box 2
    by_cases hlt : k < m
    · have hki : (k : Int) < (m : Int) := by omega
      have htm := ring_rem k m
      obtain ⟨j, hj⟩ : ∃ j, (k + 1) % m = j := ⟨_, rfl⟩
      have hjm : j < m := by rw [← hj]; exact Nat.mod_lt _ (by omega)
      rw [hj] at htm
      have hjI : (j : Int) < (m : Int) := by omega
      have hwk : IntKind.i64.wrap ((k : Int) + 1) = (k : Int) + 1 := IntWalk.i64_in _ (by omega)
      have hm0 : (m = 0) = False := by simp; omega
      have hwj : IntKind.i64.wrap (j : Int) = (j : Int) := IntWalk.i64_in _ (by omega)
      have HO : Hid (wr.ownsRow (w.heap.size + 1) 26 4 v k (cellsRg m k)) := hrel.own
      have HC : Hid (∀ w', Below wr.heap.size wr w' → w'.cell? ⟨w.heap.size, 2, none⟩ = some v ∧ w'.frozen? ⟨w.heap.size, 2, none⟩ = false) := fun w' hw' => ⟨(hw'.cell (p := ⟨w.heap.size, 2, none⟩) hqr).trans c2, (hw'.frozen (p := ⟨w.heap.size, 2, none⟩) hqr).trans c3⟩
      have HNE : Hid (some w.heap.size ≠ v.ownBlock) := fun e => by have := (hrel.own.lt _ e.symm).1; omega
      have hk12 : k < 12 := by omega
      have hj12 : j < 12 := by omega
      have hls : (lettF j).size = 2 := rfl
      have HL : Hid (∀ (x : Nat), x < 12 → ∀ w', Calls Tryz.prog 8 #[.int .i64 x] w' fun e w'' => e = .returned (.string (lettF x)) ∧ Below w'.heap.size w' w'') := fun x hx w' => lettF_any x w' hx
      have HCe : Hid (cellsRg m (k + 1) = cellsRg m k ++ [.string (lettF k), .int .i64 (-1), .int .i64 0, .string (lettF j ++ ⟨#[43, 49]⟩)]) := by show _ = _; rw [cellsRg, hj]; rfl
      clear hrel hj c0 c1
      go_upto_region 7 with fail
      go_region_law ((first
          | (refine step_append_lies _ (by rfl) _ _ _ (by rfl) (w.heap.size + 1) 26 i0 _ 4 48 Tryz.underlying22 hi0 hz0 hz1 hz2 rfl (by omega) v k (cellsRg m k) (by rfl) (own_stays HO.out (by go_grown)) ⟨w4.heap.size, 0, none⟩ 1 1 [.string (lettF k), .int .i64 (-1), .int .i64 0, .string (lettF j ++ ⟨#[43, 49]⟩)] (by rfl) (by rfl) (World.news_of_block (cs := #[.string (lettF k), .int .i64 (-1), .int .i64 0, .string (lettF j ++ ⟨#[43, 49]⟩)]) (t := 26) (fr := (0, 0)) (heap_alloc_new w4 _)) (by simp [Value.oneCell']) (by omega) (by unfold maxLen; omega) (by omega) (by simp; omega) (w4.heap.size + 1) (by simp) ?_; intro gg cg w6 hown6 hgrow hat hlt6; have y1 := (hgrow.cell_far ⟨w.heap.size, 2, none⟩ (by simp; omega) HNE.out).trans (HC.out _ (by go_grown)).1; have y2 := (hgrow.frozen_far ⟨w.heap.size, 2, none⟩ (by simp; omega) HNE.out).trans (HC.out _ (by go_grown)).2)
          | (go_simp; refine (HL.out _ (by first | exact hk12 | exact hj12) _).mono ?_; rintro e w4 ⟨rfl, hb4⟩; have hN4 := onB (W0 := wr) (by go_grown) hb4; have hs4 := hN4.size; obtain ⟨x1, x2⟩ := HC.out _ hN4; have hq4 : w.heap.size < w4.heap.size := Nat.lt_of_lt_of_le hqr hs4; clear hb4)))
      all_goals (have HS := ring_step HR.out (by go_grown) (by rw [HCe.out]; exact hown6) hgrow)
      all_goals clear hown6 hgrow
      all_goals go_wp2_with fail
      all_goals go_roundg (m - (k + 1))
      all_goals first | omega | exact ⟨k + 1, _, by omega, rfl, by go_num, HS⟩
    · have hke : m = k := by omega
      subst hke
      obtain ⟨g, cap, rfl, hcap, hg, hMs, cur, hcur, hcs⟩ := hrel.mems (by omega)
      have hmn := HN.out
      have HB : Hid (Below w.heap.size w wr) := hrel.below
      have hcapI : (m : Int) ≤ (cap : Int) := by omega
      have hgl : g < wr.heap.size := (Array.getElem?_eq_some_iff.1 hcur).1
      cases op
      · have hck := ring_check n g cap wr HNn.out (by omega) (by rw [hmn]; exact hMs)
        rw [hmn] at hck
        have HKr : Hid (∀ w', Below wr.heap.size wr w' → Kind0 w') := fun w' hB => HK.out.later (onB HB.out hB)
        clear hrel hMs hcur hcs
        go_wp2_with fail
        refine hck.mono ?_
        rintro e w1 ⟨rfl, hb1⟩
        have hse := same_hit 8 8 w1 (HKr.out w1 hb1)
        have HB1 : Hid (Below w.heap.size w w1) := onB HB.out hb1
        clear hb1 hck
        go_wp2_with fail
        refine hse.mono ?_
        rintro e w2 ⟨rfl, hb2⟩
        go_wp2_with fail
        go_ret
        exact ⟨rfl, onB HB1.out hb2⟩
      · have hMo : MemsAt (wr.setCell ⟨g, n * 4 + 3, none⟩ (.string ⟨#[]⟩)) g 0 m (openM m) := by
          have h := open_mems (n := m) (by omega) hcur (by omega) hMs
          rw [show m - 1 = n by omega] at h
          exact h
        have hb2 : (wr.setCell ⟨g, n * 4 + 3, none⟩ (.string ⟨#[]⟩)).heap[w.heap.size]? = wr.heap[w.heap.size]? := by
          simp only [World.setCell, Array.getElem?_modify]
          rw [if_neg (by omega)]
        have HB2 : Hid (Below w.heap.size w (wr.setCell ⟨g, n * 4 + 3, none⟩ (.string ⟨#[]⟩))) := hrel.below.setCell (show w.heap.size ≤ g by omega) _
        have cg : ∃ old, wr.cell? ⟨g, n * 4 + 3, none⟩ = some old := by
          rw [Lib.cell_of_heap hcur, Array.getElem?_eq_getElem (by omega)]
          exact ⟨_, rfl⟩
        obtain ⟨old, cg⟩ := cg
        have fg : wr.frozen? ⟨g, n * 4 + 3, none⟩ = false := Lib.frozen_of_heap hcur _
        obtain ⟨W2, hW2⟩ : ∃ W2, wr.setCell ⟨g, n * 4 + 3, none⟩ (.string ⟨#[]⟩) = W2 := ⟨_, rfl⟩
        rw [hW2] at hMo hb2 HB2
        have hbx := hb2.trans hrel.box
        have e0 : W2.cell? ⟨w.heap.size, 0, none⟩ = some (.string ⟨#[97]⟩) := by rw [Lib.cell_of_heap hbx]; rfl
        have e1 : W2.cell? ⟨w.heap.size, 1, none⟩ = some (.int .i64 0) := by rw [Lib.cell_of_heap hbx]; rfl
        have e2 : W2.cell? ⟨w.heap.size, 2, none⟩ = some (.slice (some ⟨g, 0, none⟩) m cap) := by rw [Lib.cell_of_heap hbx]; rfl
        have hq2 : w.heap.size < W2.heap.size := (Array.getElem?_eq_some_iff.1 hbx).1
        have hsub : (m : Int) - 1 = (n : Int) := by omega
        have hwn : IntKind.i64.wrap (n : Int) = (n : Int) := IntWalk.i64_in _ (by omega)
        have hnm : (n : Int) < (m : Int) := by omega
        have hck := open_check n g cap W2 HNn.out (by omega) (by rw [hmn]; exact hMo)
        have HOr : Hid (∀ w', Below W2.heap.size W2 w' → Calls Tryz.prog 5 #[.agg #[.string ⟨#[97]⟩, .int .i64 0, .slice (some ⟨g, 0, none⟩) m cap]] w' fun e w'' => (∃ b c', e = .returned (.tuple #[.slice (some ⟨b, 0, none⟩) m c', .nilIface]) ∧ m ≤ c' ∧ b < w''.heap.size ∧ w''.cell? ⟨b, 0, none⟩ = some (.int .i64 n)) ∧ Below w'.heap.size w' w'') := fun w' hB => by
          have h := open_order n g cap w' HNn.out (by omega) (by rw [hmn]; exact hMo.later hB)
          rw [hmn] at h
          exact h
        rw [hmn] at hck
        clear hrel hMs hcur hcs hMo hb2 hbx hmn
        go_wp2_with fail
        refine hck.mono ?_
        rintro e w3 ⟨rfl, hb3⟩
        have hor := HOr.out w3 hb3
        have f0 := (hb3.cell (p := ⟨w.heap.size, 0, none⟩) hq2).trans e0
        have f1 := (hb3.cell (p := ⟨w.heap.size, 1, none⟩) hq2).trans e1
        have f2 := (hb3.cell (p := ⟨w.heap.size, 2, none⟩) hq2).trans e2
        have hq3 : w.heap.size < w3.heap.size := Nat.lt_of_lt_of_le hq2 hb3.size
        have HB3 : Hid (Below w.heap.size w w3) := onB HB2.out hb3
        clear hb3 hck e0 e1 e2 cg fg hW2
        go_wp2_with fail
        refine hor.mono ?_
        rintro e w4 ⟨⟨b, c', rfl, hc', hbl, hc0⟩, hb4⟩
        have hc'i : (m : Int) ≤ (c' : Int) := by omega
        have HB4 : Hid (Below w.heap.size w w4) := onB HB3.out hb4
        clear hb4 hor f0 f1 f2
        go_wp2_with fail
        go_ret
        exact ⟨rfl, HB4.out⟩

theorem rring_any (n : Int) (op : Bool) (w : World) (hK : Kind0 w) : Calls Tryz.prog 4 #[.int .i64 n, .bool op] w fun e w' => e = .returned (.bool true) ∧ Below w.heap.size w w' := by
  by_cases h1 : n < 1
  · clear hK
    go_enter Tryz.func4, Tryz.ntmps4
    go_wp2
    go_ret
    exact ⟨rfl, Below.refl _ _⟩
  by_cases h2 : 11 < n
  · clear hK
    go_enter Tryz.func4, Tryz.ntmps4
    go_wp2
    go_ret
    exact ⟨rfl, Below.refl _ _⟩
  obtain ⟨N, rfl⟩ : ∃ N : Nat, n = (N : Int) + 1 := ⟨(n - 1).toNat, by omega⟩
  exact rring_core N op w (by omega) hK
end Go.Proofs.YtpnfmpbgjkhicafGreatDoor
