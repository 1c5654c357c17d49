/-
  No cell of these rows narrows 'for every input' (looked for: loops, veiled, ifaces, maps, wideKeys, modest, calm, conditions, laid).
  DERIVED. THE GIVEN ROWS OF THIS SEAT. 4 by the template 'for every input the law returns true; each argument reads behind the call as it read before'; 0 by the template 'total and deterministic' (their statements: YtfngmnhkhfgmjadTotals.lean).
  GIVEN WITH THE SEED: the statements are not yours to turn. If you find one false, say at which input.
  Laid BY PROGRAM, IN A SANDBOX (cutbox-rows.mjs): the forced cells as the released guide's own fill.sh prints them over the translation 70694a9dff074db6… (all of the seat's roots in one cut). By AI agents, Wed Nov 11 2026. No macro, syntax, notation, axiom, sorry.
-/
import Derived.Test.YtfngmnhkhfgmjadChecked
import GoSem.Claim
import GoSem.ClaimJoined
import GoSem.ClaimMapViews
import Derived.JoinedTies
import Derived.KernelRfl
namespace Go.Proofs.Ytfngmnhkhfgmjad
/- THE CELL 'sum', in the pinned program and in every row, IS THE sha256 OF THE DUMP (.gsa) THAT YtfngmnhkhfgmjadProg.lean LOADS. Nothing in Lean hashes anything: it is a label: what it is worth is what the hold of that sum in a sandbox is worth. -/
noncomputable def Try.pinned : Pinned := { name := "ytfngmnhkhfgmjad", sum := "70694a9dff074db63cd9d2231ad4c85b7960a0a2b1c44dc29422170d8d5665ed", checked := Try.checked }
namespace Rows
def none {H : Type} : Left H := { results := [], args := [] }

/-- 'tallylaw1.RollAdds': WHATEVER THE INPUT: true; the input reads as it did. -/
def rollAddsSpec : ChangeSpec := { name := "rollAdds", fn := fun _ => fun
  | [d1, d2, d3, d4, d5] => { results := [.lit (.bool true)], args := [d1, d2, d3, d4, d5] }
  | _ => none }
def rollAddsRow : OpenClaim := { program := "ytfngmnhkhfgmjad", sum := "70694a9dff074db63cd9d2231ad4c85b7960a0a2b1c44dc29422170d8d5665ed", func := "tallyhall/tallylaw1.RollAdds", spec := "rollAdds", inPlace := ["slices.overlaps[tallyhall/api.Entry]"], unfollowed := true, recurses := true, apart := false }
def RollAddsSaid : Prop := rollAddsRow.holds Try.pinned (OpenSpec.ofChange rollAddsSpec)

/-- ITS FALSE NEIGHBOUR: 'it returns false'. Refute it at one input. -/
def rollAddsWrong : ChangeSpec := { name := "rollAdds", fn := fun _ => fun
  | [d1, d2, d3, d4, d5] => { results := [.lit (.bool false)], args := [d1, d2, d3, d4, d5] }
  | _ => none }
def RollAddsWrongFalsely : Prop := rollAddsRow.holds Try.pinned (OpenSpec.ofChange rollAddsWrong)

/-- 'tallylaw4.RollCorner': WHATEVER THE INPUT: true; the input reads as it did. -/
def rollCornerSpec : ChangeSpec := { name := "rollCorner", fn := fun _ => fun
  | [d1, d2] => { results := [.lit (.bool true)], args := [d1, d2] }
  | _ => none }
def rollCornerRow : OpenClaim := { program := "ytfngmnhkhfgmjad", sum := "70694a9dff074db63cd9d2231ad4c85b7960a0a2b1c44dc29422170d8d5665ed", func := "tallyhall/tallylaw4.RollCorner", spec := "rollCorner", inPlace := ["slices.overlaps[tallyhall/api.Entry]"], unfollowed := true, recurses := true, apart := false }
def RollCornerSaid : Prop := rollCornerRow.holds Try.pinned (OpenSpec.ofChange rollCornerSpec)

/-- ITS FALSE NEIGHBOUR: 'it returns false'. Refute it at one input. -/
def rollCornerWrong : ChangeSpec := { name := "rollCorner", fn := fun _ => fun
  | [d1, d2] => { results := [.lit (.bool false)], args := [d1, d2] }
  | _ => none }
def RollCornerWrongFalsely : Prop := rollCornerRow.holds Try.pinned (OpenSpec.ofChange rollCornerWrong)

/-- 'tallylaw1.FoldOrders': WHATEVER THE INPUT: true; the input reads as it did. -/
def foldOrdersSpec : ChangeSpec := { name := "foldOrders", fn := fun _ => fun
  | [d1, d2, d3, d4, d5] => { results := [.lit (.bool true)], args := [d1, d2, d3, d4, d5] }
  | _ => none }
def foldOrdersRow : OpenClaim := { program := "ytfngmnhkhfgmjad", sum := "70694a9dff074db63cd9d2231ad4c85b7960a0a2b1c44dc29422170d8d5665ed", func := "tallyhall/tallylaw1.FoldOrders", spec := "foldOrders", unfollowed := true, recurses := true, apart := false }
def FoldOrdersSaid : Prop := foldOrdersRow.holds Try.pinned (OpenSpec.ofChange foldOrdersSpec)

/-- ITS FALSE NEIGHBOUR: 'it returns false'. Refute it at one input. -/
def foldOrdersWrong : ChangeSpec := { name := "foldOrders", fn := fun _ => fun
  | [d1, d2, d3, d4, d5] => { results := [.lit (.bool false)], args := [d1, d2, d3, d4, d5] }
  | _ => none }
def FoldOrdersWrongFalsely : Prop := foldOrdersRow.holds Try.pinned (OpenSpec.ofChange foldOrdersWrong)

/-- 'tallylaw4.FoldOnce': WHATEVER THE INPUT: true; the input reads as it did. -/
def foldOnceSpec : ChangeSpec := { name := "foldOnce", fn := fun _ => fun
  | [d1, d2, d3] => { results := [.lit (.bool true)], args := [d1, d2, d3] }
  | _ => none }
def foldOnceRow : OpenClaim := { program := "ytfngmnhkhfgmjad", sum := "70694a9dff074db63cd9d2231ad4c85b7960a0a2b1c44dc29422170d8d5665ed", func := "tallyhall/tallylaw4.FoldOnce", spec := "foldOnce", unfollowed := true, recurses := true, apart := false }
def FoldOnceSaid : Prop := foldOnceRow.holds Try.pinned (OpenSpec.ofChange foldOnceSpec)

/-- ITS FALSE NEIGHBOUR: 'it returns false'. Refute it at one input. -/
def foldOnceWrong : ChangeSpec := { name := "foldOnce", fn := fun _ => fun
  | [d1, d2, d3] => { results := [.lit (.bool false)], args := [d1, d2, d3] }
  | _ => none }
def FoldOnceWrongFalsely : Prop := foldOnceRow.holds Try.pinned (OpenSpec.ofChange foldOnceWrong)

/- THE SECOND FORM. 'bulk': how many values and letters a reading holds, each counted each time it is reached (what is shared counts as often as it is met; a slice's spare places count too). A statement '..UptoSaid' is the law's where the arguments, and the package variables that the reading takes, are together of bulk at most 1048576: NARROWER than '..Said'. Prove '..Said' where nothing that the law and all that it calls make is longer than what came in: it says more and counts as full. Else prove '..UptoSaid'. A law counts once. -/
mutual
def uptoBulk {H : Type} : DataW H → Nat
  | .lit (.string bytes) => bytes.length + 1
  | .lit _ => 1
  | .nil => 1
  | .ptr d => uptoBulk d + 1
  | .slice elems spare => uptoBulkAll elems + uptoBulkAll spare + 1
  | .agg parts => uptoBulkAll parts + 1
  | .iface _ d => uptoBulk d + 1
  | .map entries => uptoBulkEntries entries + 1
  | .held _ => 1
def uptoBulkAll {H : Type} : List (DataW H) → Nat
  | [] => 0
  | d :: r => uptoBulk d + uptoBulkAll r
def uptoBulkEntries {H : Type} : List (Lit × DataW H) → Nat
  | [] => 0
  | x :: r => uptoBulkEntry x + uptoBulkEntries r
def uptoBulkEntry {H : Type} : Lit × DataW H → Nat
  | (.string bytes, d) => bytes.length + uptoBulk d + 1
  | (_, d) => uptoBulk d + 1
 end
def uptoSmall : (H : Type) → List (DataW H) → Bool := fun _ ds => decide (uptoBulkAll ds ≤ 1048576)
def OpenSpec.upto (s : _root_.Go.ChangeSpec) : _root_.Go.OpenSpec := { _root_.Go.OpenSpec.ofChange s with cond := some uptoSmall }

/-- 'tallylaw1.RollAdds', WHERE WHAT IT READS IS OF BULK AT MOST 1048576: true; the input reads as it did. -/
def rollAddsUptoRow : OpenClaim := { program := "ytfngmnhkhfgmjad", sum := "70694a9dff074db63cd9d2231ad4c85b7960a0a2b1c44dc29422170d8d5665ed", func := "tallyhall/tallylaw1.RollAdds", spec := "rollAdds", inPlace := ["slices.overlaps[tallyhall/api.Entry]"], unfollowed := true, recurses := true, apart := false, narrowed := true }
def RollAddsUptoSaid : Prop := rollAddsUptoRow.holds Try.pinned (OpenSpec.upto rollAddsSpec)

/-- 'tallylaw4.RollCorner', WHERE WHAT IT READS IS OF BULK AT MOST 1048576: true; the input reads as it did. -/
def rollCornerUptoRow : OpenClaim := { program := "ytfngmnhkhfgmjad", sum := "70694a9dff074db63cd9d2231ad4c85b7960a0a2b1c44dc29422170d8d5665ed", func := "tallyhall/tallylaw4.RollCorner", spec := "rollCorner", inPlace := ["slices.overlaps[tallyhall/api.Entry]"], unfollowed := true, recurses := true, apart := false, narrowed := true }
def RollCornerUptoSaid : Prop := rollCornerUptoRow.holds Try.pinned (OpenSpec.upto rollCornerSpec)

/-- 'tallylaw1.FoldOrders', WHERE WHAT IT READS IS OF BULK AT MOST 1048576: true; the input reads as it did. -/
def foldOrdersUptoRow : OpenClaim := { program := "ytfngmnhkhfgmjad", sum := "70694a9dff074db63cd9d2231ad4c85b7960a0a2b1c44dc29422170d8d5665ed", func := "tallyhall/tallylaw1.FoldOrders", spec := "foldOrders", unfollowed := true, recurses := true, apart := false, narrowed := true }
def FoldOrdersUptoSaid : Prop := foldOrdersUptoRow.holds Try.pinned (OpenSpec.upto foldOrdersSpec)

/-- 'tallylaw4.FoldOnce', WHERE WHAT IT READS IS OF BULK AT MOST 1048576: true; the input reads as it did. -/
def foldOnceUptoRow : OpenClaim := { program := "ytfngmnhkhfgmjad", sum := "70694a9dff074db63cd9d2231ad4c85b7960a0a2b1c44dc29422170d8d5665ed", func := "tallyhall/tallylaw4.FoldOnce", spec := "foldOnce", unfollowed := true, recurses := true, apart := false, narrowed := true }
def FoldOnceUptoSaid : Prop := foldOnceUptoRow.holds Try.pinned (OpenSpec.upto foldOnceSpec)

end Rows
end Go.Proofs.Ytfngmnhkhfgmjad
