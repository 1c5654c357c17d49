/-
  The table of numbers of strings.IndexByte at this program; the place of a sign among the four.
-/
import Derived.Shelf.Small.Strs
import Derived.Test.YtpnfmpbgjkhicafGreatDoorProg
import Derived.Test.YtpnfmpbgjkhicafGreatDoorFmB
namespace Go.Proofs
open Go.Shelf
def Tryz.lays137_ren : Go.Shelf.Ren := ⟨fun | 137 => 66 | 217 => 90 | 266 => 113 | n => n, fun | 9 => 9 | 5 => 5 | 3 => 3 | n => n, fun | n => n⟩
theorem Tryz.lays137 : Go.Proofs.Lays.n137 Tryz.prog Tryz.lays137_ren := {
  mixed := by kernel_rfl
  f137 := Tryz.func66.trans (congrArg some (by kernel_rfl))
  f217 := Tryz.func90.trans (congrArg some (by kernel_rfl))
  f266 := Tryz.func113.trans (congrArg some (by kernel_rfl))
  t3 := Tryz.underlying3
  a3 := Tryz.isAgg3
  z3 := Tryz.sizeOf3
  v3 := Tryz.zeroValue3
  t5 := Tryz.underlying5
  a5 := Tryz.isAgg5
  z5 := Tryz.sizeOf5
  v5 := Tryz.zeroValue5
  t9 := Tryz.underlying9
  a9 := Tryz.isAgg9
  z9 := Tryz.sizeOf9
  v9 := Tryz.zeroValue9 }
namespace YtpnfmpbgjkhicafGreatDoor
open Go.ChangeShapes Go.WideShapes Go.ChangeAt Go.RowKit
theorem signI_fin : ∀ c : Fin 256, Lib.indexByte [43, 45, 42, 47] c.val.toUInt8 = signI (c.val : Int) := by decide +kernel
theorem signI_eq (c : Int) (h0 : 0 ≤ c) (h1 : c < 256) : Lib.indexByte [43, 45, 42, 47] c.toNat.toUInt8 = signI c := by
  have h := signI_fin ⟨c.toNat, by omega⟩
  simp only at h
  rw [h, show ((c.toNat : Nat) : Int) = c by omega]
theorem signix_any (c : Int) (h0 : 0 ≤ c) (h1 : c < 256) (w : World) : Calls Tryz.prog 66 #[.string ⟨#[43, 45, 42, 47]⟩, .int .u8 c] w fun e w' => e = .returned (.int .i64 (signI c)) ∧ Below w.heap.size w w' :=
  (Any.strings_IndexByte Tryz.lays137 ⟨#[43, 45, 42, 47]⟩ c w).mono fun e w' ⟨he, hw⟩ => ⟨by rw [he, signI_eq c h0 h1], by rw [hw]; exact Below.refl _ _⟩
theorem byteN_range (s : ByteArray) (i : Nat) : 0 ≤ byteN s i ∧ byteN s i < 256 := by
  unfold byteN
  have := (s.data.toList.getD i 0).toNat_lt
  omega
theorem nextB_range (s : ByteArray) (i : Nat) : 0 ≤ nextB s i ∧ nextB s i < 256 := by
  unfold nextB
  split
  · omega
  · exact byteN_range s i
end YtpnfmpbgjkhicafGreatDoor
end Go.Proofs
