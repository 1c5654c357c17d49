/-
 A dim of two members, of whom the first refers to the second: what is needed there, and in which order.
-/
import Derived.Test.YtjffbmejobjmjafGreatDoorJBBA
namespace Go.Proofs.YtjffbmejobjmjafGreatDoor
open Go.ChangeShapes Go.WideShapes Go.ChangeAt Go.RowKit
set_option maxRecDepth 20000

def omA : Mem := ⟨⟨#[98]⟩, -1, 0, ⟨#[99, 43, 49]⟩⟩
def omB : Mem := ⟨⟨#[99]⟩, -1, 0, ⟨#[]⟩⟩
def oneM (i : Nat) : Mem := if i = 0 then omA else omB
def oneDm : Dm := ⟨⟨#[97]⟩, 0, 2, oneM⟩
theorem one_nd : ndL oneDm = [[1], []] := by decide +kernel
theorem up_acyc {N : List (List Int)} (h : ∀ (a : Int), ∀ x ∈ rowN N a, a < x) (i : Nat) : cycB N i = false := by
 rw [cyc_not]
 intro hr
 have hlt : ∀ {a b : Int}, Rch N a b → a < b := by
  intro a b hab
  induction hab with
  | one hx => exact h _ _ hx
  | more hx _ ih => have := h _ _ hx; omega
 have := hlt hr
 omega
theorem one_acyc (i : Nat) : cycB (ndL oneDm) i = false := by
 rw [one_nd]
 refine up_acyc (fun a x hx => ?_) i
 unfold rowN at hx
 rcases h : a.toNat with _ | _ | k
 ·rw [h] at hx
  simp at hx
  omega
 ·rw [h] at hx
  simp at hx
 ·rw [h] at hx
  simp at hx
end Go.Proofs.YtjffbmejobjmjafGreatDoor

