/-
  What the small functions of package formula answer, called in whatever memory: isDigit, isLetter, binds, joins, bracketed; how many bytes a text begins with that are so.
-/
import Derived.Test.YtklfenojapgmnaeDoorFmA
import Derived.Test.YtklfenojapgmnaeDoorForm2
import Derived.Test.YtklfenojapgmnaeDoorOut2
import Derived.Test.YtklfenojapgmnaeDoorTree3
import Derived.BigQuiet
namespace Go.Proofs.YtklfenojapgmnaeDoor
open Go.ChangeShapes Go.WideShapes Go.ChangeAt Go.RowKit
set_option maxRecDepth 20000

theorem binds_any (op : Int) (w : World) : Calls Tryd.prog 34 #[.int .i64 op] w fun e w' => e = .returned (.int .i64 (bindN op)) ∧ Below w.heap.size w w' := by
  unfold bindN
  by_cases h3 : op = 3
  · subst h3
    go_enter Tryd.func34, Tryd.ntmps34
    go_wp2
    go_ret
    exact ⟨by simp, by go_grown⟩
  by_cases h4 : op = 4
  · subst h4
    go_enter Tryd.func34, Tryd.ntmps34
    go_wp2
    go_ret
    exact ⟨by simp, by go_grown⟩
  by_cases h5 : op = 5
  · subst h5
    go_enter Tryd.func34, Tryd.ntmps34
    go_wp2
    go_ret
    exact ⟨by simp, by go_grown⟩
  by_cases h6 : op = 6
  · subst h6
    go_enter Tryd.func34, Tryd.ntmps34
    go_wp2
    go_ret
    exact ⟨by simp, by go_grown⟩
  rw [if_neg (by omega), if_neg (by omega)]
  go_enter Tryd.func34, Tryd.ntmps34
  go_wp2
  go_ret
  exact ⟨rfl, by go_grown⟩
theorem joins_any (op : Int) (w : World) : Calls Tryd.prog 51 #[.int .i64 op] w fun e w' => e = .returned (.bool (decide (op ≠ 1 ∧ op ≠ 2))) ∧ Below w.heap.size w w' := by
  by_cases h1 : op = 1
  · subst h1
    go_enter Tryd.func51, Tryd.ntmps51
    go_wp2
    go_ret
    exact ⟨by simp, by go_grown⟩
  by_cases h2 : op = 2
  · subst h2
    go_enter Tryd.func51, Tryd.ntmps51
    go_wp2
    go_ret
    exact ⟨by simp, by go_grown⟩
  go_enter Tryd.func51, Tryd.ntmps51
  go_wp2
  go_ret
  exact ⟨by simp [h1, h2], by go_grown⟩
/-- a text in brackets, if that is asked for -/
def brk (t : ByteArray) (b : Bool) : ByteArray := if b then ⟨#[40]⟩ ++ t ++ ⟨#[41]⟩ else t
theorem brk_any (t : ByteArray) (b : Bool) (w : World) (ht : t.size ≤ 4611686018427387904) : Calls Tryd.prog 33 #[.string t, .bool b] w fun e w' => e = .returned (.string (brk t b)) ∧ Below w.heap.size w w' := by
  have h1 : ¬ 9223372036854775807 < 1 + t.size := by omega
  have h2 : ¬ 9223372036854775807 < 1 + t.size + 1 := by omega
  cases b
  · go_enter Tryd.func33, Tryd.ntmps33
    go_wp2
    go_ret
    exact ⟨rfl, by go_grown⟩
  · go_enter Tryd.func33, Tryd.ntmps33
    go_wp2
    go_ret
    exact ⟨rfl, by go_grown⟩

theorem byteN_get (s : ByteArray) (k : Nat) (h : k < s.size) : ((s[k]'h).toNat : Int) = byteN s k := by
  unfold byteN
  rw [List.getD, List.getElem?_eq_getElem (by simpa using h)]
  rfl
theorem lead_miss {p : Int → Bool} {t : ByteArray} {f i : Nat} (h : p (byteN t i) = false) : leadTo p t (f + 1) i = i := by simp [leadTo, h]
theorem lead_hit {p : Int → Bool} {t : ByteArray} {f i : Nat} (h : p (byteN t i) = true) : leadTo p t (f + 1) i = leadTo p t f (i + 1) := by simp [leadTo, h]

end Go.Proofs.YtklfenojapgmnaeDoor
