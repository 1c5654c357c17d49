/-
 The table of numbers of strings.IndexByte at this program; the place of a sign among the four.
 The table of numbers of internal/stringslite.Clone at this program; what strings.Clone answers: the same bytes.
-/
import Derived.Shelf.Small.Strs
import Derived.Test.YtjffbmejobjmjafGreatDoorProg
import Derived.Test.YtjffbmejobjmjafGreatDoorJTAF
import Derived.Shelf.Pu.Clone
namespace Go.Proofs
open Go.Shelf
def Tryz.lays137_ren : Go.Shelf.Ren := ⟨fun | 137 => 180 | 217 => 208 | 266 => 231 | n => n, fun | 9 => 9 | 5 => 5 | 3 => 3 | n => n, fun | n => n⟩
theorem Tryz.lays137 : Go.Proofs.Lays.n137 Tryz.prog Tryz.lays137_ren := {
 mixed := by kernel_rfl
 f137 := Tryz.func180.trans (congrArg some (by kernel_rfl))
 f217 := Tryz.func208.trans (congrArg some (by kernel_rfl))
 f266 := Tryz.func231.trans (congrArg some (by kernel_rfl))
 t3 := Tryz.underlying3
 a3 := Tryz.isAgg3
 z3 := Tryz.sizeOf3
 v3 := Tryz.zeroValue3
 t5 := Tryz.underlying5
 a5 := Tryz.isAgg5
 z5 := Tryz.sizeOf5
 v5 := Tryz.zeroValue5
 t9 := Tryz.underlying9
 a9 := Tryz.isAgg9
 z9 := Tryz.sizeOf9
 v9 := Tryz.zeroValue9 }
namespace YtjffbmejobjmjafGreatDoor
open Go.ChangeShapes Go.WideShapes Go.ChangeAt Go.RowKit
theorem signI_fin : ∀ c : Fin 256, Lib.indexByte [43, 45, 42, 47] c.val.toUInt8 = signI (c.val : Int) := by decide +kernel
theorem signI_eq (c : Int) (h0 : 0 ≤ c) (h1 : c < 256) : Lib.indexByte [43, 45, 42, 47] c.toNat.toUInt8 = signI c := by
 have h := signI_fin ⟨c.toNat, by omega⟩
 simp only at h
 rw [h, show ((c.toNat : Nat) : Int) = c by omega]
theorem signix_any (c : Int) (h0 : 0 ≤ c) (h1 : c < 256) (w : World) : Calls Tryz.prog 180 #[.string ⟨#[43, 45, 42, 47]⟩, .int .u8 c] w fun e w' => e = .returned (.int .i64 (signI c)) ∧ Below w.heap.size w w' :=
 (Any.strings_IndexByte Tryz.lays137 ⟨#[43, 45, 42, 47]⟩ c w).mono fun e w' ⟨he, hw⟩ => ⟨by rw [he, signI_eq c h0 h1], by rw [hw]; exact Below.refl _ _⟩
theorem byteN_range (s : ByteArray) (i : Nat) : 0 ≤ byteN s i ∧ byteN s i < 256 := by
 unfold byteN
 have := (s.data.toList.getD i 0).toNat_lt
 omega
theorem nextB_range (s : ByteArray) (i : Nat) : 0 ≤ nextB s i ∧ nextB s i < 256 := by
 unfold nextB
 split
 ·omega
 ·exact byteN_range s i
end YtjffbmejobjmjafGreatDoor
end Go.Proofs

namespace Go.Proofs
open Go.Shelf
def Tryz.laysK_ren : Go.Shelf.Ren := ⟨fun | 25 => 186 | n => n, fun | 0 => 0 | 3 => 3 | 4 => 4 | 5 => 5 | 9 => 9 | 37 => 213 | 47 => 262 | n => n, fun | n => n⟩
theorem Tryz.laysK : Go.Proofs.LaysPu.n25 Tryz.prog Tryz.laysK_ren := {
 mixed := by kernel_rfl
 f25 := Tryz.func186.trans (congrArg some (by kernel_rfl))
 t0 := Tryz.underlying0
 a0 := Tryz.isAgg0
 z0 := Tryz.sizeOf0
 v0 := Tryz.zeroValue0
 i0 := by kernel_rfl
 t3 := Tryz.underlying3
 a3 := Tryz.isAgg3
 z3 := Tryz.sizeOf3
 v3 := Tryz.zeroValue3
 i3 := by kernel_rfl
 t4 := Tryz.underlying4
 a4 := Tryz.isAgg4
 z4 := Tryz.sizeOf4
 v4 := Tryz.zeroValue4
 i4 := by kernel_rfl
 t5 := Tryz.underlying5
 a5 := Tryz.isAgg5
 z5 := Tryz.sizeOf5
 v5 := Tryz.zeroValue5
 i5 := by kernel_rfl
 t9 := Tryz.underlying9
 a9 := Tryz.isAgg9
 z9 := Tryz.sizeOf9
 v9 := Tryz.zeroValue9
 i9 := by kernel_rfl
 t37 := Tryz.underlying213
 a37 := Tryz.isAgg213
 z37 := Tryz.sizeOf213
 v37 := Tryz.zeroValue213
 i37 := by kernel_rfl
 t47 := Tryz.underlying262
 a47 := Tryz.isAgg262
 z47 := Tryz.sizeOf262
 v47 := Tryz.zeroValue262
 i47 := by kernel_rfl }
namespace YtjffbmejobjmjafGreatDoor
open Go.ChangeShapes Go.WideShapes Go.ChangeAt Go.RowKit
theorem sclone_any (s : ByteArray) (w : World) (hs : s.size ≤ 281474976710656) : Calls Tryz.prog 157 #[.string s] w fun e w' => e = .returned (.string s) ∧ Below w.heap.size w w' := by
 have h := AnyPu.stringslite_Clone Tryz.laysK s w hs
 go_enter Tryz.func157, Tryz.ntmps157
 go_wp2_with fail
 refine Calls.mono h ?_
 rintro e w1 ⟨rfl, hb1⟩
 go_wp2_with fail
 go_ret
 exact ⟨rfl, hb1⟩
end YtjffbmejobjmjafGreatDoor
end Go.Proofs

