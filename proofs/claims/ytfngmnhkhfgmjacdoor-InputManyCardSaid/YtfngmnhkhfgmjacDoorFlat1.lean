/-
  Dims of a whole and so many parts, and outlines of such dims, on plain data: when they are right, how many cells they have.
-/
import Derived.Test.YtfngmnhkhfgmjacDoorOut9
namespace Go.Proofs.YtfngmnhkhfgmjacDoor

def lettF (k : Nat) : ByteArray := ⟨#[97, (97 + k).toUInt8]⟩
def flatM (k : Nat) : Mem := match k with
  | 0 => ⟨⟨#[97, 108, 108]⟩, -1, 0, ⟨#[]⟩⟩
  | k + 1 => ⟨lettF k, 0, 1, ⟨#[]⟩⟩
/-- a whole, and n parts -/
def flatD (name : ByteArray) (n : Nat) : Dm := ⟨name, 0, n + 1, flatM⟩
def fullD (n : Nat) (i : Nat) : Dm := flatD (lettF i) n
def powN (n : Nat) : Nat → Nat
  | 0 => 1
  | k + 1 => powN n k * n
def fullErr (m n : Nat) : Int := if 4 < m ∨ 12 < n ∨ 3000 < powN n m then 4 else 0
theorem full_all : ∀ m : Fin 5, ∀ n : Fin 13, (allErr (fullD n.val) (m.val + 1)).2.2 = fullErr (m.val + 1) (n.val + 1) ∧ prodN (fullD n.val) (m.val + 1) = powN (n.val + 1) (m.val + 1) := by decide +kernel
def squareD (n : Nat) (i : Nat) : Dm := flatD (if i = 0 then ⟨#[120]⟩ else ⟨#[121]⟩) n
theorem square_all : ∀ n : Fin 11, (allErr (squareD n.val) 2).2.2 = 0 ∧ prodN (squareD n.val) 2 = (n.val + 1) * (n.val + 1) := by decide +kernel
end Go.Proofs.YtfngmnhkhfgmjacDoor
