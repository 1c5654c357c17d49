/-
  What the small functions of package cell answer, called in whatever memory: within, Of, Check: of all numbers, with new memory alone.
-/
import Derived.Test.YtfgegmpoejilnaaGreatDoorProg
import Derived.WalkKit
import Derived.ProofKit
import Derived.OpenShut
import Derived.Handy
import Derived.Outline
namespace Go.Proofs.YtfgegmpoejilnaaGreatDoor
open Go.ChangeShapes Go.WideShapes Go.ChangeAt Go.RowKit
def ofP (n:Int):Int×Int:=if -1000000000000≤n∧n≤1000000000000 then (1,n) else (2,0)
theorem ofP_in {n:Int} (h1 : -1000000000000≤n) (h2:n≤1000000000000):ofP n=(1,n):=by unfold ofP;rw [if_pos ⟨h1,h2⟩]
theorem ofP_out {n:Int} (h:n < -1000000000000∨1000000000000<n):ofP n=(2,0):=by unfold ofP;rw [if_neg (by omega)]
theorem of_any (n:Int) (w:World):Calls Tryz.prog 15 #[.int .i64 n] w fun e w'=>e=.returned (.agg #[.int .i64 (ofP n).1,.int .i64 (ofP n).2])∧Below w.heap.size w w':=by
 by_cases h1 : -1000000000000≤n
 ·by_cases h2:n≤1000000000000
  ·rw [ofP_in h1 h2]
   go_enter Tryz.func15,Tryz.ntmps15
   go_wp2
   go_returns
   exact ⟨rfl,by go_grown⟩
  ·rw [ofP_out (by omega)]
   go_enter Tryz.func15,Tryz.ntmps15
   go_wp2
   go_returns
   exact ⟨rfl,by go_grown⟩
 ·rw [ofP_out (by omega)]
  go_enter Tryz.func15,Tryz.ntmps15
  go_wp2
  go_returns
  exact ⟨rfl,by go_grown⟩
def good (k n:Int):Bool:=decide ((k=1∧-1000000000000≤n∧n≤1000000000000)∨((k=0∨k=2)∧n=0))
theorem check_any (k n:Int) (w:World):Calls Tryz.prog 103 #[.agg #[.int .i64 k,.int .i64 n]] w fun e w'=>e=.returned (if good k n=true then .nilIface else .iface 95 (.int .i64 1))∧Below w.heap.size w w':=by
 by_cases hk1:k=1
 ·subst hk1
  by_cases h1 : -1000000000000≤n
  ·by_cases h2:n≤1000000000000
   ·rw [if_pos (by simp [good];omega)]
    go_enter Tryz.func103,Tryz.ntmps103
    go_wp2
    go_returns
    exact ⟨rfl,by go_grown⟩
   ·rw [if_neg (by simp [good];omega)]
    go_enter Tryz.func103,Tryz.ntmps103
    go_wp2
    go_returns
    exact ⟨rfl,by go_grown⟩
  ·rw [if_neg (by simp [good];omega)]
   go_enter Tryz.func103,Tryz.ntmps103
   go_wp2
   go_returns
   exact ⟨rfl,by go_grown⟩
 ·by_cases hk:k=0∨k=2
  ·by_cases hn:n=0
   ·rw [if_pos (by simp [good];omega)]
    subst hn
    rcases hk with rfl | rfl
    all_goals
     go_enter Tryz.func103,Tryz.ntmps103
     go_wp2
     go_returns
     exact ⟨rfl,by go_grown⟩
   ·rw [if_neg (by simp [good];omega)]
    rcases hk with rfl | rfl
    all_goals
     go_enter Tryz.func103,Tryz.ntmps103
     go_wp2
     go_returns
     exact ⟨rfl,by go_grown⟩
  ·have hk0:(k == 0)=false:=by simp;omega
   have hk2:(k == 2)=false:=by simp;omega
   have hk3:(k == 1)=false:=by simp;omega
   rw [if_neg (by simp [good];omega)]
   clear hk hk1
   go_enter Tryz.func103,Tryz.ntmps103
   go_wp2
   go_returns
   exact ⟨rfl,by go_grown⟩
end Go.Proofs.YtfgegmpoejilnaaGreatDoor
