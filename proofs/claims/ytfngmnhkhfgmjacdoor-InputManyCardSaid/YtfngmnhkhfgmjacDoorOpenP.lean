/-
  What is read of an argument of the type api.Place: where its numbers lie.
-/
import Derived.Test.YtfngmnhkhfgmjacDoorPl2
import Derived.Test.YtfngmnhkhfgmjacDoorOpen
import Derived.OpenShut
namespace Go.Proofs.YtfngmnhkhfgmjacDoor
open Go Go.ChangeShapes Go.WideShapes Go.ChangeAt Go.RowKit Go.Deep
set_option maxRecDepth 100000

theorem open_place {H : Type} {enc : TypeId × Value → H} {w : World} {held : Bool} {r : Reach} {b0 : Nat} {v : Value} {d : DataW H} {p : List MemPlace} (hv : Value.okWide Tryd.prog w r b0 40 v) (h : DataW.Trod enc Tryd.prog w 0 (fun _ => true) held 40 v d p) :
    ∃ (Ap : Option Addr) (cp : Nat) (L : List Int), v = .slice Ap L.length cp ∧ PlAt w Ap cp L := by
  obtain ⟨a, len, cap, rfl⟩ := okWide_slice Tryd.underlying40 hv
  obtain ⟨fuel, hf⟩ := h
  have hf' : DataW.trod enc Tryd.prog w 0 (fun _ => true) held fuel 40 [.slice a len cap] = some (d, p) := hf
  rcases open_ints Tryd.underlying40 Tryd.underlying3 (by kernel_rfl) hf' with ⟨e, _⟩ | ⟨a', len', cap', zs, e, _, hl, _, hzl, _, hc, _⟩
  · simp at e
    obtain ⟨rfl, rfl, rfl⟩ := e
    exact ⟨none, 0, [], rfl, PlAt.nil _ _ _⟩
  · simp at e hzl
    obtain ⟨rfl, rfl, rfl⟩ := e
    have hlen : (zs.take len).length = len := by simp; omega
    refine ⟨some a', cap, zs.take len, by rw [hlen], by rw [hlen]; exact hl, ?_⟩
    rcases Nat.eq_zero_or_pos len with h0 | h0
    · left
      subst h0
      simp
    right
    have c0 := hc 0 (by omega)
    have hp := addr_plain c0 rfl
    have hb := World.block_lt_of_cell? _ _ c0
    refine ⟨a'.block, a'.off, by rw [← hp], by simpa [Addr.add] using hb, fun j hj => ?_⟩
    rw [hlen] at hj
    have := hc j (by omega)
    rw [hp, plain_add] at this
    rw [this]
    simp [List.getD, hj]
end Go.Proofs.YtfngmnhkhfgmjacDoor
