/-
  So many edits of a square, one behind the other, on plain data: each is right, and as many entries come of them.
-/
import Derived.Test.YtfngmnhkhfgmjacDoorInp1
import Derived.Test.YtfngmnhkhfgmjacDoorFlat1
namespace Go.Proofs.YtfngmnhkhfgmjacDoor

def manyX (i : Nat) : Ed := ⟨[((1 + i / 9 % 9 : Nat) : Int), ((1 + i % 9 : Nat) : Int)], (i : Int), false⟩
def manyL (k : Nat) : List Ed := (List.range k).map manyX
theorem many_all : ∀ k : Fin 61, (editsFrom (squareD 9) 2 [] 0 (manyL k.val)).2 = (0, 0) ∧ (editsFrom (squareD 9) 2 [] 0 (manyL k.val)).1.length = k.val := by decide +kernel
theorem many_right {k : Nat} (h : k ≤ 60) : (editsV (squareD 9) 2 [] (manyL k)).2 = (0, 0) ∧ (editsV (squareD 9) 2 [] (manyL k)).1.length = k := by
  have h1 := many_all ⟨k, by omega⟩
  have h2 : entsErr (squareD 9) 2 [] = 0 := by decide +kernel
  unfold editsV
  rw [if_neg (by simp [manyL]; omega), if_neg (by simpa using h2)]
  exact h1
theorem many_full {k : Nat} (h : 60 < k) : editsV (squareD 9) 2 [] (manyL k) = ([], 0, 4) := by
  unfold editsV
  rw [if_pos (by simp [manyL]; omega)]
end Go.Proofs.YtfngmnhkhfgmjacDoor
