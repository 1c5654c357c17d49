/-
 The table of numbers of strings.IndexByte at this program; the place of a sign among the four.
 The table of numbers of internal/stringslite.Clone at this program; what strings.Clone answers: the same bytes.
 An argument of the type api.Outline, opened: where its dims and members lie, what they hold, and that each list of members takes no more bytes than a list may.
-/
import Derived.Shelf.Small.Strs
import Derived.Test.YtjffbmejobjmjafGreatDoorProg
import Derived.Test.YtjffbmejobjmjafGreatDoorJBAF
import Derived.Shelf.Pu.Clone
import Derived.SizedLaws
namespace Go.Proofs
open Go.Shelf
def Tryz.lays137_ren : Go.Shelf.Ren := ⟨fun | 137 => 180 | 217 => 208 | 266 => 231 | n => n, fun | 9 => 9 | 5 => 5 | 3 => 3 | n => n, fun | n => n⟩
theorem Tryz.lays137 : Go.Proofs.Lays.n137 Tryz.prog Tryz.lays137_ren := {
 mixed := by kernel_rfl
 f137 := Tryz.func180.trans (congrArg some (by kernel_rfl))
 f217 := Tryz.func208.trans (congrArg some (by kernel_rfl))
 f266 := Tryz.func231.trans (congrArg some (by kernel_rfl))
 t3 := Tryz.underlying3
 a3 := Tryz.isAgg3
 z3 := Tryz.sizeOf3
 v3 := Tryz.zeroValue3
 t5 := Tryz.underlying5
 a5 := Tryz.isAgg5
 z5 := Tryz.sizeOf5
 v5 := Tryz.zeroValue5
 t9 := Tryz.underlying9
 a9 := Tryz.isAgg9
 z9 := Tryz.sizeOf9
 v9 := Tryz.zeroValue9 }
namespace YtjffbmejobjmjafGreatDoor
open Go.ChangeShapes Go.WideShapes Go.ChangeAt Go.RowKit
theorem signI_fin : ∀ c : Fin 256, Lib.indexByte [43, 45, 42, 47] c.val.toUInt8 = signI (c.val : Int) := by decide +kernel
theorem signI_eq (c : Int) (h0 : 0 ≤ c) (h1 : c < 256) : Lib.indexByte [43, 45, 42, 47] c.toNat.toUInt8 = signI c := by
 have h := signI_fin ⟨c.toNat, by omega⟩
 simp only at h
 rw [h, show ((c.toNat : Nat) : Int) = c by omega]
theorem signix_any (c : Int) (h0 : 0 ≤ c) (h1 : c < 256) (w : World) : Calls Tryz.prog 180 #[.string ⟨#[43, 45, 42, 47]⟩, .int .u8 c] w fun e w' => e = .returned (.int .i64 (signI c)) ∧ Below w.heap.size w w' :=
 (Any.strings_IndexByte Tryz.lays137 ⟨#[43, 45, 42, 47]⟩ c w).mono fun e w' ⟨he, hw⟩ => ⟨by rw [he, signI_eq c h0 h1], by rw [hw]; exact Below.refl _ _⟩
theorem byteN_range (s : ByteArray) (i : Nat) : 0 ≤ byteN s i ∧ byteN s i < 256 := by
 unfold byteN
 have := (s.data.toList.getD i 0).toNat_lt
 omega
theorem nextB_range (s : ByteArray) (i : Nat) : 0 ≤ nextB s i ∧ nextB s i < 256 := by
 unfold nextB
 split
 ·omega
 ·exact byteN_range s i
end YtjffbmejobjmjafGreatDoor
end Go.Proofs

namespace Go.Proofs
open Go.Shelf
def Tryz.laysK_ren : Go.Shelf.Ren := ⟨fun | 25 => 186 | n => n, fun | 0 => 0 | 3 => 3 | 4 => 4 | 5 => 5 | 9 => 9 | 37 => 213 | 47 => 262 | n => n, fun | n => n⟩
theorem Tryz.laysK : Go.Proofs.LaysPu.n25 Tryz.prog Tryz.laysK_ren := {
 mixed := by kernel_rfl
 f25 := Tryz.func186.trans (congrArg some (by kernel_rfl))
 t0 := Tryz.underlying0
 a0 := Tryz.isAgg0
 z0 := Tryz.sizeOf0
 v0 := Tryz.zeroValue0
 i0 := by kernel_rfl
 t3 := Tryz.underlying3
 a3 := Tryz.isAgg3
 z3 := Tryz.sizeOf3
 v3 := Tryz.zeroValue3
 i3 := by kernel_rfl
 t4 := Tryz.underlying4
 a4 := Tryz.isAgg4
 z4 := Tryz.sizeOf4
 v4 := Tryz.zeroValue4
 i4 := by kernel_rfl
 t5 := Tryz.underlying5
 a5 := Tryz.isAgg5
 z5 := Tryz.sizeOf5
 v5 := Tryz.zeroValue5
 i5 := by kernel_rfl
 t9 := Tryz.underlying9
 a9 := Tryz.isAgg9
 z9 := Tryz.sizeOf9
 v9 := Tryz.zeroValue9
 i9 := by kernel_rfl
 t37 := Tryz.underlying213
 a37 := Tryz.isAgg213
 z37 := Tryz.sizeOf213
 v37 := Tryz.zeroValue213
 i37 := by kernel_rfl
 t47 := Tryz.underlying262
 a47 := Tryz.isAgg262
 z47 := Tryz.sizeOf262
 v47 := Tryz.zeroValue262
 i47 := by kernel_rfl }
namespace YtjffbmejobjmjafGreatDoor
open Go.ChangeShapes Go.WideShapes Go.ChangeAt Go.RowKit
theorem sclone_any (s : ByteArray) (w : World) (hs : s.size ≤ 281474976710656) : Calls Tryz.prog 157 #[.string s] w fun e w' => e = .returned (.string s) ∧ Below w.heap.size w w' := by
 have h := AnyPu.stringslite_Clone Tryz.laysK s w hs
 go_enter Tryz.func157, Tryz.ntmps157
 go_wp2_with fail
 refine Calls.mono h ?_
 rintro e w1 ⟨rfl, hb1⟩
 go_wp2_with fail
 go_ret
 exact ⟨rfl, hb1⟩
end YtjffbmejobjmjafGreatDoor
end Go.Proofs

namespace Go.Proofs.YtjffbmejobjmjafGreatDoor
open Go Go.ChangeShapes Go.WideShapes Go.ChangeAt Go.RowKit Go.Deep
set_option maxRecDepth 100000

section
variable {H : Type} {enc : TypeId × Value → H} {w : World} {held : Bool}
def LowW (t : Nat) (d : DataW H) : Prop := ∀ k ∈ d.weights Tryz.prog t, k ≤ reachBytes
theorem weights_all {P : Program} {e : TypeId} {n : Nat} : ∀ {l : List (DataW H)} {d : DataW H}, d ∈ l → n ∈ d.weights P e → n ∈ DataW.weightsAll P e l
 | x :: r, d, h, hn => by
  rw [DataW.weightsAll, List.mem_append]
  rcases List.mem_cons.1 h with rfl | h
  ·exact Or.inl hn
  ·exact Or.inr (weights_all h hn)
theorem bytesM : Tryz.prog.bytesOf 26 = 48 := by kernel_rfl
theorem members_z {fuel : Nat} {A : Option Addr} {n cap : Nat} {x : DataW H × List MemPlace} (h : DataW.trod enc Tryz.prog w 0 (fun _ => true) held fuel 22 [.slice A n cap] = some x) (hz : LowW 22 x.1) : n * 48 ≤ reachBytes := by
 rcases open_slice Tryz.underlying22 h with ⟨h1, -⟩ | ⟨a, len, cap, m, k, D, Pl, h1, -, hl, -, hm, rfl, -⟩
 ·simp at h1
  rw [h1.2.1]
  exact Nat.zero_le _
 ·simp at h1
  have h2 := hz ((((List.range len).map D).length + ((List.range (m - len)).map fun j => D (len + j)).length) * Tryz.prog.bytesOf 26) (by simp [DataW.weights, Tryz.underlying22])
  rw [bytesM] at h2
  simp at h2
  rw [h1.2.1]
  omega
theorem dim_z {fuel : Nat} {d : Dm} {A : Option Addr} {c : Nat} {x : DataW H × List MemPlace} (h : DataW.trod enc Tryz.prog w 0 (fun _ => true) held fuel 24 [.string d.name, .int .i64 d.solve, .slice A d.n c] = some x) (hz : LowW 24 x.1) : d.n * 48 ≤ reachBytes := by
 obtain ⟨y0, y1, y2, n, rfl, -, -, -, h2⟩ := trod_struct3 Tryz.underlying24 h
 refine members_z (A := A) (cap := c) (x := y2) (fuel := n) h2 fun k hk => hz k ?_
 simp only [DataW.weights, Tryz.underlying24]
 exact DataW.weights_mem_each (j := 2) rfl rfl k hk
theorem dims_z {fuel : Nat} {A0 : Option Addr} {n cap : Nat} {D : Nat → Dm} {A : Nat → Option Addr} {C : Nat → Nat} {x : DataW H × List MemPlace} (h : DataW.trod enc Tryz.prog w 0 (fun _ => true) held fuel 40 [.slice A0 n cap] = some x) (hD : DimsV w A0 cap n D A C) (hz : LowW 40 x.1) : ∀ i, i < n → (D i).n * 48 ≤ reachBytes := by
 intro i hi
 rcases open_slice Tryz.underlying40 h with ⟨h1, -⟩ | ⟨a, len, cap', m, k, E, Pl, h1, -, hl, -, hm, rfl, hx⟩
 ·simp at h1
  omega
 ·simp at h1
  obtain ⟨rfl, rfl, rfl⟩ := h1
  obtain ⟨cs', c1, c2⟩ := hx i (by simp at hm; omega)
  rw [cellsD] at c1
  obtain ⟨-, h0 | ⟨b, o, hb, hMs⟩⟩ := hD
  ·omega
  simp at hb
  subst hb
  obtain ⟨d0, d1, d2, -⟩ := hMs.2 i hi
  have hc := (World.cells?_some c1)
  have e : cs' = [.string (D i).name, .int .i64 (D i).solve, .slice (A i) (D i).n (C i)] := by
   have hl3 := hc.2.1
   have g : ∀ j, j < 3 → w.cell? ⟨b, o + i * 3 + j, none⟩ = cs'[j]? := fun j hj => by
    have := hc.2.2 j hj
    rw [plain_add, plain_add] at this
    exact this
   match cs', hl3, g with
   | [v0, v1, v2], _, g =>
    have e0 := (g 0 (by omega)).symm.trans d0
    have e1 := (g 1 (by omega)).symm.trans d1
    have e2 := (g 2 (by omega)).symm.trans d2
    simp at e0 e1 e2
    rw [e0, e1, e2]
  rw [e] at c2
  refine dim_z c2 fun q hq => hz q ?_
  simp only [DataW.weights, Tryz.underlying40]
  refine List.mem_cons_of_mem _ (List.mem_append.2 (Or.inl (weights_all (d := E i) (List.mem_map.2 ⟨i, List.mem_range.2 hi, rfl⟩) hq)))
theorem outline_z {d : DataW H} {p : List MemPlace} {A0 : Option Addr} {n cap : Nat} {D : Nat → Dm} {A : Nat → Option Addr} {C : Nat → Nat} (h : DataW.Trod enc Tryz.prog w 0 (fun _ => true) held 42 (.agg #[.slice A0 n cap]) d p) (hD : DimsV w A0 cap n D A C) (hz : LowW 42 d) : ∀ i, i < n → (D i).n * 48 ≤ reachBytes := by
 obtain ⟨fuel, hf⟩ := h
 obtain ⟨xs, k, _, hx, hl, hlen, hfs⟩ := DataW.trod_struct Tryz.underlying42 hf
 match xs, hlen with
 | [y], _ =>
  have h0 := hfs 0 _ rfl
  have h1 : DataW.trod enc Tryz.prog w 0 (fun _ => true) held k 40 [.slice A0 n cap] = some y := h0
  have hd : d = .agg [y.1] := by
   have := congrArg Prod.fst hx
   exact this
  refine dims_z h1 hD fun q hq => hz q ?_
  rw [hd]
  simp only [DataW.weights, Tryz.underlying42]
  exact DataW.weights_mem_each (j := 0) rfl rfl q hq
end
end Go.Proofs.YtjffbmejobjmjafGreatDoor

