/-
  tallyref2.Change: Move's test (124 s).
-/
import Derived.Test.YtfldgghobddgkaaGreatDoorJDBL
namespace Go.Proofs.YtfldgghobddgkaaGreatDoor
open Go Go.ChangeShapes Go.WideShapes Go.ChangeAt Go.RowKit
set_option maxRecDepth 1000000
set_option maxHeartbeats 64000000
theorem ctL68 (T:Array Value) (s:Nat→Value) (p q g m C i xl ce:Nat) (AE:Option Addr) (dm tg par:Int) (fo:ByteArray) (wr:Bool) (w:World) (hF:ctF T s) (h1:s 1=.slice AE xl ce) (h5:s 5=.pointer (some ⟨(p+1),0,none⟩)) (h10:s 10=.pointer (some ⟨q,0,none⟩)) (h12:s 12=.int .i64 (i:Nat)) (c1:w.cell? ⟨p+1,1,none⟩=some (.int .i64 dm)) (c4:w.cell? ⟨p+1,4,none⟩=some (.int .i64 tg)) (d2:w.cell? ⟨q,2,none⟩=some (.slice (some ⟨g,0,none⟩) m C)) (hx:w.cell? ⟨g,i*4+1,none⟩=some (.int .i64 par)) (hi:i<m) (hmC:m≤C) (ht:tg<(i:Int)) (hfo:∀ t:Nat,tg=(t:Int)→w.cell? ⟨g,t*4+3,none⟩=some (.string fo)) (hcall:∀ w1,Below w.heap.size w w1→Calls Tryz.prog 11 #[.slice AE xl ce,.int .i64 dm,.int .i64 tg] w1 fun e w'=>e=.returned (.bool wr)∧Below w1.heap.size w1 w') (J:Act→World→Prop) (Q:Exit→Act→World→Prop)
  (hJ:∀ T' w',ctF T' s→Act.eval ⟨T',[]⟩ (.tmp 379)=.bool (decide (tg=par∨0≤tg∧(fo.toList.isEmpty=false∨wr=true)))→Below w.heap.size w w'→J ⟨T',[]⟩ w'):Code.wp Tryz.prog (ctC [1,1,1,1,1,1,1,1,1,0,1,3,1,5,1,5,1,5,1,2,1,0,0]) (Exit.then J Q) ⟨T,[]⟩ w:=by
 obtain ⟨xF,rfl⟩:=ct_open hF
 unfold ctL
 rw [h1,h5,h10,h12]
 have HJ:=hid_of hJ
 have H1:=hid_of h1
 have H5:=hid_of h5
 have H10:=hid_of h10
 have H12:=hid_of h12
 clear hJ hF h1 h5 h10 h12
 have hiI:(i:Int)<(m:Int):=by omega
 have hmI:(m:Int)≤(C:Int):=by omega
 conv=>arg 2;whnf
 have HS0:Hid (∀ w',Below w.heap.size w w'→w'.cell? ⟨p+1,1,none⟩=some (.int .i64 dm)∧w'.cell? ⟨p+1,4,none⟩=some (.int .i64 tg)∧w'.cell? ⟨q,2,none⟩=some (.slice (some ⟨g,0,none⟩) m C)∧w'.cell? ⟨g,i*4+1,none⟩=some (.int .i64 par)):=fun w' hb=>⟨later_cell c1 hb,later_cell c4 hb,later_cell d2 hb,later_cell hx hb⟩
 by_cases h0:tg=par
 ·have HL:=hid_of (decide_eq_true (p:=tg=par∨0≤tg∧(fo.toList.isEmpty=false∨wr=true)) (Or.inl h0))
  have h0b:(tg == par)=true:=by simpa using h0
  have h1d:=h0b
  have hbe:=h0b
  have HS:=HS0
  clear hcall h0
  refine wp_region_noPanic ?_
  refine wp_region_held_drew (S:=fun w'=>Below w.heap.size w w'∧w'.cell? ⟨p+1,1,none⟩=some (.int .i64 dm)∧w'.cell? ⟨p+1,4,none⟩=some (.int .i64 tg)∧w'.cell? ⟨q,2,none⟩=some (.slice (some ⟨g,0,none⟩) m C)∧w'.cell? ⟨g,i*4+1,none⟩=some (.int .i64 par)) (by kernel_rfl) (by (refine (fun hB=>⟨hB,HS.out _ hB⟩) ?_;go_grown)) (fun hHeld=>?_)
  refine wpAnyH_take (i := 0) (oi := { dst := some 348, op := Go.Op.fieldAddr 27 (Go.Operand.tmp 5) 4, type := 0, pos := "more.go:802", after := #[], guard := none }) (v := ?vb0) rfl (by kernel_rfl) (by kernel_rfl) (by kernel_rfl) (fun _ _ _ h => h) (Or.inl ⟨by kernel_rfl, ?yb0⟩) hHeld ?rb0
  case yb0=>(intro w hSw;go_simp;try rfl)
  (try simp only [Act.put,List.setIfInBounds_toArray,List.set_cons_zero,List.set_cons_succ])
  refine wpAnyH_take (i := 1) (oi := { dst := some 349, op := Go.Op.load 3 (Go.Operand.tmp 348), type := 3, pos := "more.go:802", after := #[{ on := 0, ground := Go.Ground.data }], guard := none }) (v := ?vb1) rfl (by kernel_rfl) (by kernel_rfl) (by kernel_rfl) (fun _ _ _ h => h) (Or.inl ⟨by kernel_rfl, ?yb1⟩) hHeld ?rb1
  case yb1=>(intro w hSw;go_simp;try rfl)
  (try simp only [Act.put,List.setIfInBounds_toArray,List.set_cons_zero,List.set_cons_succ])
  refine wpAnyH_take (i := 2) (oi := { dst := some 350, op := Go.Op.fieldAddr 41 (Go.Operand.tmp 10) 2, type := 0, pos := "more.go:802", after := #[], guard := none }) (v := ?vb2) rfl (by kernel_rfl) (by kernel_rfl) (by kernel_rfl) (fun _ _ _ h => h) (Or.inl ⟨by kernel_rfl, ?yb2⟩) hHeld ?rb2
  case yb2=>(intro w hSw;go_simp;try rfl)
  (try simp only [Act.put,List.setIfInBounds_toArray,List.set_cons_zero,List.set_cons_succ])
  refine wpAnyH_take (i := 3) (oi := { dst := some 351, op := Go.Op.load 39 (Go.Operand.tmp 350), type := 39, pos := "more.go:802", after := #[{ on := 2, ground := Go.Ground.data }], guard := none }) (v := ?vb3) rfl (by kernel_rfl) (by kernel_rfl) (by kernel_rfl) (fun _ _ _ h => h) (Or.inl ⟨by kernel_rfl, ?yb3⟩) hHeld ?rb3
  case yb3=>(intro w hSw;go_simp;try rfl)
  (try simp only [Act.put,List.setIfInBounds_toArray,List.set_cons_zero,List.set_cons_succ])
  refine wpAnyH_take (i := 4) (oi := { dst := some 352, op := Go.Op.move (Go.Operand.tmp 12), type := 3, pos := "more.go:802", after := #[], guard := none }) (v := ?vb4) rfl (by kernel_rfl) (by kernel_rfl) (by kernel_rfl) (fun _ _ _ h => h) (Or.inl ⟨by kernel_rfl, ?yb4⟩) hHeld ?rb4
  case yb4=>(intro w hSw;go_simp;try rfl)
  (try simp only [Act.put,List.setIfInBounds_toArray,List.set_cons_zero,List.set_cons_succ])
  refine wpAnyH_take (i := 5) (oi := { dst := some 353, op := Go.Op.indexAddr 39 (Go.Operand.tmp 351) (Go.Operand.tmp 352), type := 0, pos := "more.go:802", after := #[{ on := 3, ground := Go.Ground.data }, { on := 4, ground := Go.Ground.data }], guard := none }) (v := ?vb5) rfl (by kernel_rfl) (by kernel_rfl) (by kernel_rfl) (fun _ _ _ h => h) (Or.inl ⟨by kernel_rfl, ?yb5⟩) hHeld ?rb5
  case yb5=>(intro w hSw;go_simp;try rfl)
  (try simp only [Act.put,List.setIfInBounds_toArray,List.set_cons_zero,List.set_cons_succ])
  refine wpAnyH_take (i := 6) (oi := { dst := some 354, op := Go.Op.fieldAddr 43 (Go.Operand.tmp 353) 1, type := 0, pos := "more.go:802", after := #[{ on := 5, ground := Go.Ground.data }], guard := none }) (v := ?vb6) rfl (by kernel_rfl) (by kernel_rfl) (by kernel_rfl) (fun _ _ _ h => h) (Or.inl ⟨by kernel_rfl, ?yb6⟩) hHeld ?rb6
  case yb6=>(intro w hSw;go_simp;try rfl)
  (try simp only [Act.put,List.setIfInBounds_toArray,List.set_cons_zero,List.set_cons_succ])
  refine wpAnyH_take (i := 7) (oi := { dst := some 355, op := Go.Op.load 3 (Go.Operand.tmp 354), type := 3, pos := "more.go:802", after := #[{ on := 6, ground := Go.Ground.data }], guard := none }) (v := ?vb7) rfl (by kernel_rfl) (by kernel_rfl) (by kernel_rfl) (fun _ _ _ h => h) (Or.inl ⟨by kernel_rfl, ?yb7⟩) hHeld ?rb7
  case yb7=>(intro w hSw;go_simp;try rfl)
  (try simp only [Act.put,List.setIfInBounds_toArray,List.set_cons_zero,List.set_cons_succ])
  refine wpAnyH_take (i := 8) (oi := { dst := some 356, op := Go.Op.binOp Go.BinOp.eql 3 (Go.Operand.tmp 349) (Go.Operand.tmp 355) 3, type := 4, pos := "more.go:802", after := #[{ on := 1, ground := Go.Ground.data }, { on := 7, ground := Go.Ground.data }], guard := none }) (v := .bool true) rfl (by kernel_rfl) (by kernel_rfl) (by kernel_rfl) (fun _ _ _ h => h) (Or.inl ⟨by kernel_rfl, ?yb8⟩) hHeld ?rb8
  case yb8=>(intro w hSw;go_simp;try (first | rfl | simp [h0b] | simp [h1d] | simp [hbe] | simp [hbe,h0b]))
  (try simp only [Act.put,List.setIfInBounds_toArray,List.set_cons_zero,List.set_cons_succ])
  refine wpAnyH_take (i := 9) (oi := { dst := some 357, op := Go.Op.move (Go.Operand.tmp 356), type := 4, pos := "more.go:802", after := #[{ on := 8, ground := Go.Ground.data }], guard := none }) (v := ?vb9) rfl (by kernel_rfl) (by kernel_rfl) (by kernel_rfl) (fun _ _ _ h => h) (Or.inl ⟨by kernel_rfl, ?yb9⟩) hHeld ?rb9
  case yb9=>(intro w hSw;go_simp;try rfl)
  (try simp only [Act.put,List.setIfInBounds_toArray,List.set_cons_zero,List.set_cons_succ])
  refine wpAnyH_take (i := 10) (oi := { dst := some 358, op := Go.Op.fieldAddr 27 (Go.Operand.tmp 5) 4, type := 0, pos := "more.go:802", after := #[{ on := 9, ground := Go.Ground.guard }], guard := some (9, false) }) (v := undef) rfl (by kernel_rfl) (by kernel_rfl) (by kernel_rfl) (fun _ _ _ h => h) (Or.inr ⟨by kernel_rfl, rfl⟩) hHeld ?rb10
  (try simp only [Act.put,List.setIfInBounds_toArray,List.set_cons_zero,List.set_cons_succ])
  refine wpAnyH_take (i := 11) (oi := { dst := some 359, op := Go.Op.load 3 (Go.Operand.tmp 358), type := 3, pos := "more.go:802", after := #[{ on := 10, ground := Go.Ground.data }, { on := 9, ground := Go.Ground.guard }], guard := some (9, false) }) (v := undef) rfl (by kernel_rfl) (by kernel_rfl) (by kernel_rfl) (fun _ _ _ h => h) (Or.inr ⟨by kernel_rfl, rfl⟩) hHeld ?rb11
  (try simp only [Act.put,List.setIfInBounds_toArray,List.set_cons_zero,List.set_cons_succ])
  refine wpAnyH_take (i := 12) (oi := { dst := some 360, op := Go.Op.binOp Go.BinOp.geq 3 (Go.Operand.tmp 359) (Go.Operand.const (Go.Value.int Go.IntKind.i64 0)) 3, type := 4, pos := "more.go:802", after := #[{ on := 11, ground := Go.Ground.data }, { on := 9, ground := Go.Ground.guard }], guard := some (9, false) }) (v := undef) rfl (by kernel_rfl) (by kernel_rfl) (by kernel_rfl) (fun _ _ _ h => h) (Or.inr ⟨by kernel_rfl, rfl⟩) hHeld ?rb12
  (try simp only [Act.put,List.setIfInBounds_toArray,List.set_cons_zero,List.set_cons_succ])
  refine wpAnyH_take (i := 13) (oi := { dst := some 361, op := Go.Op.move (Go.Operand.tmp 360), type := 4, pos := "more.go:802", after := #[{ on := 12, ground := Go.Ground.data }, { on := 9, ground := Go.Ground.chain }, { on := 9, ground := Go.Ground.guard }], guard := some (9, false) }) (v := undef) rfl (by kernel_rfl) (by kernel_rfl) (by kernel_rfl) (fun _ _ _ h => h) (Or.inr ⟨by kernel_rfl, rfl⟩) hHeld ?rb13
  (try simp only [Act.put,List.setIfInBounds_toArray,List.set_cons_zero,List.set_cons_succ])
  refine wpAnyH_take (i := 14) (oi := { dst := some 362, op := Go.Op.fieldAddr 41 (Go.Operand.tmp 10) 2, type := 0, pos := "more.go:802", after := #[{ on := 13, ground := Go.Ground.guard }], guard := some (13, true) }) (v := undef) rfl (by kernel_rfl) (by kernel_rfl) (by kernel_rfl) (fun _ _ _ h => h) (Or.inr ⟨by kernel_rfl, rfl⟩) hHeld ?rb14
  (try simp only [Act.put,List.setIfInBounds_toArray,List.set_cons_zero,List.set_cons_succ])
  refine wpAnyH_take (i := 15) (oi := { dst := some 363, op := Go.Op.load 39 (Go.Operand.tmp 362), type := 39, pos := "more.go:802", after := #[{ on := 14, ground := Go.Ground.data }, { on := 13, ground := Go.Ground.guard }], guard := some (13, true) }) (v := undef) rfl (by kernel_rfl) (by kernel_rfl) (by kernel_rfl) (fun _ _ _ h => h) (Or.inr ⟨by kernel_rfl, rfl⟩) hHeld ?rb15
  (try simp only [Act.put,List.setIfInBounds_toArray,List.set_cons_zero,List.set_cons_succ])
  refine wpAnyH_take (i := 16) (oi := { dst := some 364, op := Go.Op.fieldAddr 27 (Go.Operand.tmp 5) 4, type := 0, pos := "more.go:802", after := #[{ on := 13, ground := Go.Ground.guard }], guard := some (13, true) }) (v := undef) rfl (by kernel_rfl) (by kernel_rfl) (by kernel_rfl) (fun _ _ _ h => h) (Or.inr ⟨by kernel_rfl, rfl⟩) hHeld ?rb16
  (try simp only [Act.put,List.setIfInBounds_toArray,List.set_cons_zero,List.set_cons_succ])
  refine wpAnyH_take (i := 17) (oi := { dst := some 365, op := Go.Op.load 3 (Go.Operand.tmp 364), type := 3, pos := "more.go:802", after := #[{ on := 16, ground := Go.Ground.data }, { on := 13, ground := Go.Ground.guard }], guard := some (13, true) }) (v := undef) rfl (by kernel_rfl) (by kernel_rfl) (by kernel_rfl) (fun _ _ _ h => h) (Or.inr ⟨by kernel_rfl, rfl⟩) hHeld ?rb17
  (try simp only [Act.put,List.setIfInBounds_toArray,List.set_cons_zero,List.set_cons_succ])
  refine wpAnyH_take (i := 18) (oi := { dst := some 366, op := Go.Op.indexAddr 39 (Go.Operand.tmp 363) (Go.Operand.tmp 365), type := 0, pos := "more.go:802", after := #[{ on := 15, ground := Go.Ground.data }, { on := 17, ground := Go.Ground.data }, { on := 13, ground := Go.Ground.guard }], guard := some (13, true) }) (v := undef) rfl (by kernel_rfl) (by kernel_rfl) (by kernel_rfl) (fun _ _ _ h => h) (Or.inr ⟨by kernel_rfl, rfl⟩) hHeld ?rb18
  (try simp only [Act.put,List.setIfInBounds_toArray,List.set_cons_zero,List.set_cons_succ])
  refine wpAnyH_take (i := 19) (oi := { dst := some 367, op := Go.Op.fieldAddr 43 (Go.Operand.tmp 366) 3, type := 0, pos := "more.go:802", after := #[{ on := 18, ground := Go.Ground.data }, { on := 13, ground := Go.Ground.guard }], guard := some (13, true) }) (v := undef) rfl (by kernel_rfl) (by kernel_rfl) (by kernel_rfl) (fun _ _ _ h => h) (Or.inr ⟨by kernel_rfl, rfl⟩) hHeld ?rb19
  (try simp only [Act.put,List.setIfInBounds_toArray,List.set_cons_zero,List.set_cons_succ])
  refine wpAnyH_take (i := 20) (oi := { dst := some 368, op := Go.Op.load 9 (Go.Operand.tmp 367), type := 9, pos := "more.go:802", after := #[{ on := 19, ground := Go.Ground.data }, { on := 13, ground := Go.Ground.guard }], guard := some (13, true) }) (v := undef) rfl (by kernel_rfl) (by kernel_rfl) (by kernel_rfl) (fun _ _ _ h => h) (Or.inr ⟨by kernel_rfl, rfl⟩) hHeld ?rb20
  (try simp only [Act.put,List.setIfInBounds_toArray,List.set_cons_zero,List.set_cons_succ])
  refine wpAnyH_take (i := 21) (oi := { dst := some 369, op := Go.Op.binOp Go.BinOp.neq 9 (Go.Operand.tmp 368) (Go.Operand.const (Go.Value.string { data := #[] })) 9, type := 4, pos := "more.go:802", after := #[{ on := 20, ground := Go.Ground.data }, { on := 13, ground := Go.Ground.guard }], guard := some (13, true) }) (v := undef) rfl (by kernel_rfl) (by kernel_rfl) (by kernel_rfl) (fun _ _ _ h => h) (Or.inr ⟨by kernel_rfl, rfl⟩) hHeld ?rb21
  (try simp only [Act.put,List.setIfInBounds_toArray,List.set_cons_zero,List.set_cons_succ])
  refine wpAnyH_take (i := 22) (oi := { dst := some 370, op := Go.Op.move (Go.Operand.tmp 369), type := 4, pos := "more.go:802", after := #[{ on := 21, ground := Go.Ground.data }, { on := 13, ground := Go.Ground.chain }, { on := 13, ground := Go.Ground.guard }], guard := some (13, true) }) (v := undef) rfl (by kernel_rfl) (by kernel_rfl) (by kernel_rfl) (fun _ _ _ h => h) (Or.inr ⟨by kernel_rfl, rfl⟩) hHeld ?rb22
  (try simp only [Act.put,List.setIfInBounds_toArray,List.set_cons_zero,List.set_cons_succ])
  refine wpAnyH_take (i := 23) (oi := { dst := some 371, op := Go.Op.move (Go.Operand.tmp 1), type := 25, pos := "more.go:802", after := #[{ on := 22, ground := Go.Ground.guard }], guard := some (22, false) }) (v := undef) rfl (by kernel_rfl) (by kernel_rfl) (by kernel_rfl) (fun _ _ _ h => h) (Or.inr ⟨by kernel_rfl, rfl⟩) hHeld ?rb23
  (try simp only [Act.put,List.setIfInBounds_toArray,List.set_cons_zero,List.set_cons_succ])
  refine wpAnyH_take (i := 24) (oi := { dst := some 372, op := Go.Op.fieldAddr 27 (Go.Operand.tmp 5) 1, type := 0, pos := "more.go:802", after := #[{ on := 22, ground := Go.Ground.guard }], guard := some (22, false) }) (v := undef) rfl (by kernel_rfl) (by kernel_rfl) (by kernel_rfl) (fun _ _ _ h => h) (Or.inr ⟨by kernel_rfl, rfl⟩) hHeld ?rb24
  (try simp only [Act.put,List.setIfInBounds_toArray,List.set_cons_zero,List.set_cons_succ])
  refine wpAnyH_take (i := 25) (oi := { dst := some 373, op := Go.Op.load 3 (Go.Operand.tmp 372), type := 3, pos := "more.go:802", after := #[{ on := 24, ground := Go.Ground.data }, { on := 22, ground := Go.Ground.guard }], guard := some (22, false) }) (v := undef) rfl (by kernel_rfl) (by kernel_rfl) (by kernel_rfl) (fun _ _ _ h => h) (Or.inr ⟨by kernel_rfl, rfl⟩) hHeld ?rb25
  (try simp only [Act.put,List.setIfInBounds_toArray,List.set_cons_zero,List.set_cons_succ])
  refine wpAnyH_take (i := 26) (oi := { dst := some 374, op := Go.Op.fieldAddr 27 (Go.Operand.tmp 5) 4, type := 0, pos := "more.go:802", after := #[{ on := 22, ground := Go.Ground.guard }], guard := some (22, false) }) (v := undef) rfl (by kernel_rfl) (by kernel_rfl) (by kernel_rfl) (fun _ _ _ h => h) (Or.inr ⟨by kernel_rfl, rfl⟩) hHeld ?rb26
  (try simp only [Act.put,List.setIfInBounds_toArray,List.set_cons_zero,List.set_cons_succ])
  refine wpAnyH_take (i := 27) (oi := { dst := some 375, op := Go.Op.load 3 (Go.Operand.tmp 374), type := 3, pos := "more.go:802", after := #[{ on := 26, ground := Go.Ground.data }, { on := 22, ground := Go.Ground.guard }], guard := some (22, false) }) (v := undef) rfl (by kernel_rfl) (by kernel_rfl) (by kernel_rfl) (fun _ _ _ h => h) (Or.inr ⟨by kernel_rfl, rfl⟩) hHeld ?rb27
  (try simp only [Act.put,List.setIfInBounds_toArray,List.set_cons_zero,List.set_cons_succ])
  refine wpAnyH_take (i := 28) (oi := { dst := some 376, op := Go.Op.call { callee := Go.Callee.value (Go.Operand.func 11), args := #[Go.Operand.tmp 371, Go.Operand.tmp 373, Go.Operand.tmp 375], argTypes := #[25, 3, 3] }, type := 4, pos := "more.go:802", after := #[{ on := 23, ground := Go.Ground.data }, { on := 25, ground := Go.Ground.data }, { on := 27, ground := Go.Ground.data }, { on := 22, ground := Go.Ground.chain }, { on := 22, ground := Go.Ground.guard }], guard := some (22, false) }) (v := undef) rfl (by kernel_rfl) (by kernel_rfl) (by kernel_rfl) (fun _ _ _ h => h) (Or.inr ⟨by kernel_rfl, rfl⟩) hHeld ?rb28
  (try simp only [Act.put,List.setIfInBounds_toArray,List.set_cons_zero,List.set_cons_succ])
  refine wpAnyH_take (i := 29) (oi := { dst := some 377, op := Go.Op.pick (Go.Operand.tmp 370) (Go.Operand.const (Go.Value.bool true)) (Go.Operand.tmp 376), type := 4, pos := "more.go:802", after := #[{ on := 22, ground := Go.Ground.data }, { on := 28, ground := Go.Ground.data }, { on := 13, ground := Go.Ground.guard }], guard := some (13, true) }) (v := undef) rfl (by kernel_rfl) (by kernel_rfl) (by kernel_rfl) (fun _ _ _ h => h) (Or.inr ⟨by kernel_rfl, rfl⟩) hHeld ?rb29
  (try simp only [Act.put,List.setIfInBounds_toArray,List.set_cons_zero,List.set_cons_succ])
  refine wpAnyH_take (i := 30) (oi := { dst := some 378, op := Go.Op.pick (Go.Operand.tmp 361) (Go.Operand.tmp 377) (Go.Operand.const (Go.Value.bool false)), type := 4, pos := "more.go:802", after := #[{ on := 13, ground := Go.Ground.data }, { on := 29, ground := Go.Ground.data }, { on := 9, ground := Go.Ground.guard }], guard := some (9, false) }) (v := undef) rfl (by kernel_rfl) (by kernel_rfl) (by kernel_rfl) (fun _ _ _ h => h) (Or.inr ⟨by kernel_rfl, rfl⟩) hHeld ?rb30
  (try simp only [Act.put,List.setIfInBounds_toArray,List.set_cons_zero,List.set_cons_succ])
  refine wpAnyH_take (i := 31) (oi := { dst := some 379, op := Go.Op.pick (Go.Operand.tmp 357) (Go.Operand.const (Go.Value.bool true)) (Go.Operand.tmp 378), type := 4, pos := "more.go:802", after := #[{ on := 9, ground := Go.Ground.data }, { on := 30, ground := Go.Ground.data }], guard := none }) (v := .bool true) rfl (by kernel_rfl) (by kernel_rfl) (by kernel_rfl) (fun _ _ _ h => h) (Or.inl ⟨by kernel_rfl, ?yb31⟩) hHeld ?rb31
  case yb31=>(intro w hSw;go_simp;try (first | rfl | simp [h0b] | simp [h1d] | simp [hbe] | simp [hbe,h0b]))
  (try simp only [Act.put,List.setIfInBounds_toArray,List.set_cons_zero,List.set_cons_succ])
  refine wpAnyH_done (by kernel_rfl) ?_ _
  go_wp2_with fail
  refine HJ.out _ _ ⟨rfl,?_⟩ (by rw [HL.out];rfl) (by go_grown)
  rw [←H1.out,←H5.out,←H10.out,←H12.out]
  rfl
 have h0b:(tg == par)=false:=by simpa using h0
 by_cases h1:tg<0
 ·have HL:=hid_of (decide_eq_false (p:=tg=par∨0≤tg∧(fo.toList.isEmpty=false∨wr=true)) (fun h=>h.elim h0 fun h=>by omega))
  have HS:=HS0
  have h1d : ¬ (0≤tg):=by omega
  have hbe:=h0b
  clear hcall
  refine wp_region_noPanic ?_
  refine wp_region_held_drew (S:=fun w'=>Below w.heap.size w w'∧w'.cell? ⟨p+1,1,none⟩=some (.int .i64 dm)∧w'.cell? ⟨p+1,4,none⟩=some (.int .i64 tg)∧w'.cell? ⟨q,2,none⟩=some (.slice (some ⟨g,0,none⟩) m C)∧w'.cell? ⟨g,i*4+1,none⟩=some (.int .i64 par)) (by kernel_rfl) (by (refine (fun hB=>⟨hB,HS.out _ hB⟩) ?_;go_grown)) (fun hHeld=>?_)
  refine wpAnyH_take (i := 0) (oi := { dst := some 348, op := Go.Op.fieldAddr 27 (Go.Operand.tmp 5) 4, type := 0, pos := "more.go:802", after := #[], guard := none }) (v := ?vc0) rfl (by kernel_rfl) (by kernel_rfl) (by kernel_rfl) (fun _ _ _ h => h) (Or.inl ⟨by kernel_rfl, ?yc0⟩) hHeld ?rc0
  case yc0=>(intro w hSw;go_simp;try rfl)
  (try simp only [Act.put,List.setIfInBounds_toArray,List.set_cons_zero,List.set_cons_succ])
  refine wpAnyH_take (i := 1) (oi := { dst := some 349, op := Go.Op.load 3 (Go.Operand.tmp 348), type := 3, pos := "more.go:802", after := #[{ on := 0, ground := Go.Ground.data }], guard := none }) (v := ?vc1) rfl (by kernel_rfl) (by kernel_rfl) (by kernel_rfl) (fun _ _ _ h => h) (Or.inl ⟨by kernel_rfl, ?yc1⟩) hHeld ?rc1
  case yc1=>(intro w hSw;go_simp;try rfl)
  (try simp only [Act.put,List.setIfInBounds_toArray,List.set_cons_zero,List.set_cons_succ])
  refine wpAnyH_take (i := 2) (oi := { dst := some 350, op := Go.Op.fieldAddr 41 (Go.Operand.tmp 10) 2, type := 0, pos := "more.go:802", after := #[], guard := none }) (v := ?vc2) rfl (by kernel_rfl) (by kernel_rfl) (by kernel_rfl) (fun _ _ _ h => h) (Or.inl ⟨by kernel_rfl, ?yc2⟩) hHeld ?rc2
  case yc2=>(intro w hSw;go_simp;try rfl)
  (try simp only [Act.put,List.setIfInBounds_toArray,List.set_cons_zero,List.set_cons_succ])
  refine wpAnyH_take (i := 3) (oi := { dst := some 351, op := Go.Op.load 39 (Go.Operand.tmp 350), type := 39, pos := "more.go:802", after := #[{ on := 2, ground := Go.Ground.data }], guard := none }) (v := ?vc3) rfl (by kernel_rfl) (by kernel_rfl) (by kernel_rfl) (fun _ _ _ h => h) (Or.inl ⟨by kernel_rfl, ?yc3⟩) hHeld ?rc3
  case yc3=>(intro w hSw;go_simp;try rfl)
  (try simp only [Act.put,List.setIfInBounds_toArray,List.set_cons_zero,List.set_cons_succ])
  refine wpAnyH_take (i := 4) (oi := { dst := some 352, op := Go.Op.move (Go.Operand.tmp 12), type := 3, pos := "more.go:802", after := #[], guard := none }) (v := ?vc4) rfl (by kernel_rfl) (by kernel_rfl) (by kernel_rfl) (fun _ _ _ h => h) (Or.inl ⟨by kernel_rfl, ?yc4⟩) hHeld ?rc4
  case yc4=>(intro w hSw;go_simp;try rfl)
  (try simp only [Act.put,List.setIfInBounds_toArray,List.set_cons_zero,List.set_cons_succ])
  refine wpAnyH_take (i := 5) (oi := { dst := some 353, op := Go.Op.indexAddr 39 (Go.Operand.tmp 351) (Go.Operand.tmp 352), type := 0, pos := "more.go:802", after := #[{ on := 3, ground := Go.Ground.data }, { on := 4, ground := Go.Ground.data }], guard := none }) (v := ?vc5) rfl (by kernel_rfl) (by kernel_rfl) (by kernel_rfl) (fun _ _ _ h => h) (Or.inl ⟨by kernel_rfl, ?yc5⟩) hHeld ?rc5
  case yc5=>(intro w hSw;go_simp;try rfl)
  (try simp only [Act.put,List.setIfInBounds_toArray,List.set_cons_zero,List.set_cons_succ])
  refine wpAnyH_take (i := 6) (oi := { dst := some 354, op := Go.Op.fieldAddr 43 (Go.Operand.tmp 353) 1, type := 0, pos := "more.go:802", after := #[{ on := 5, ground := Go.Ground.data }], guard := none }) (v := ?vc6) rfl (by kernel_rfl) (by kernel_rfl) (by kernel_rfl) (fun _ _ _ h => h) (Or.inl ⟨by kernel_rfl, ?yc6⟩) hHeld ?rc6
  case yc6=>(intro w hSw;go_simp;try rfl)
  (try simp only [Act.put,List.setIfInBounds_toArray,List.set_cons_zero,List.set_cons_succ])
  refine wpAnyH_take (i := 7) (oi := { dst := some 355, op := Go.Op.load 3 (Go.Operand.tmp 354), type := 3, pos := "more.go:802", after := #[{ on := 6, ground := Go.Ground.data }], guard := none }) (v := ?vc7) rfl (by kernel_rfl) (by kernel_rfl) (by kernel_rfl) (fun _ _ _ h => h) (Or.inl ⟨by kernel_rfl, ?yc7⟩) hHeld ?rc7
  case yc7=>(intro w hSw;go_simp;try rfl)
  (try simp only [Act.put,List.setIfInBounds_toArray,List.set_cons_zero,List.set_cons_succ])
  refine wpAnyH_take (i := 8) (oi := { dst := some 356, op := Go.Op.binOp Go.BinOp.eql 3 (Go.Operand.tmp 349) (Go.Operand.tmp 355) 3, type := 4, pos := "more.go:802", after := #[{ on := 1, ground := Go.Ground.data }, { on := 7, ground := Go.Ground.data }], guard := none }) (v := .bool false) rfl (by kernel_rfl) (by kernel_rfl) (by kernel_rfl) (fun _ _ _ h => h) (Or.inl ⟨by kernel_rfl, ?yc8⟩) hHeld ?rc8
  case yc8=>(intro w hSw;go_simp;try (first | rfl | simp [h0b] | simp [h1d] | simp [hbe] | simp [hbe,h0b]))
  (try simp only [Act.put,List.setIfInBounds_toArray,List.set_cons_zero,List.set_cons_succ])
  refine wpAnyH_take (i := 9) (oi := { dst := some 357, op := Go.Op.move (Go.Operand.tmp 356), type := 4, pos := "more.go:802", after := #[{ on := 8, ground := Go.Ground.data }], guard := none }) (v := ?vc9) rfl (by kernel_rfl) (by kernel_rfl) (by kernel_rfl) (fun _ _ _ h => h) (Or.inl ⟨by kernel_rfl, ?yc9⟩) hHeld ?rc9
  case yc9=>(intro w hSw;go_simp;try rfl)
  (try simp only [Act.put,List.setIfInBounds_toArray,List.set_cons_zero,List.set_cons_succ])
  refine wpAnyH_take (i := 10) (oi := { dst := some 358, op := Go.Op.fieldAddr 27 (Go.Operand.tmp 5) 4, type := 0, pos := "more.go:802", after := #[{ on := 9, ground := Go.Ground.guard }], guard := some (9, false) }) (v := ?vc10) rfl (by kernel_rfl) (by kernel_rfl) (by kernel_rfl) (fun _ _ _ h => h) (Or.inl ⟨by kernel_rfl, ?yc10⟩) hHeld ?rc10
  case yc10=>(intro w hSw;go_simp;try rfl)
  (try simp only [Act.put,List.setIfInBounds_toArray,List.set_cons_zero,List.set_cons_succ])
  refine wpAnyH_take (i := 11) (oi := { dst := some 359, op := Go.Op.load 3 (Go.Operand.tmp 358), type := 3, pos := "more.go:802", after := #[{ on := 10, ground := Go.Ground.data }, { on := 9, ground := Go.Ground.guard }], guard := some (9, false) }) (v := ?vc11) rfl (by kernel_rfl) (by kernel_rfl) (by kernel_rfl) (fun _ _ _ h => h) (Or.inl ⟨by kernel_rfl, ?yc11⟩) hHeld ?rc11
  case yc11=>(intro w hSw;go_simp;try rfl)
  (try simp only [Act.put,List.setIfInBounds_toArray,List.set_cons_zero,List.set_cons_succ])
  refine wpAnyH_take (i := 12) (oi := { dst := some 360, op := Go.Op.binOp Go.BinOp.geq 3 (Go.Operand.tmp 359) (Go.Operand.const (Go.Value.int Go.IntKind.i64 0)) 3, type := 4, pos := "more.go:802", after := #[{ on := 11, ground := Go.Ground.data }, { on := 9, ground := Go.Ground.guard }], guard := some (9, false) }) (v := .bool false) rfl (by kernel_rfl) (by kernel_rfl) (by kernel_rfl) (fun _ _ _ h => h) (Or.inl ⟨by kernel_rfl, ?yc12⟩) hHeld ?rc12
  case yc12=>(intro w hSw;go_simp;try (first | rfl | simp [h0b] | simp [h1d] | simp [hbe] | simp [hbe,h0b]))
  (try simp only [Act.put,List.setIfInBounds_toArray,List.set_cons_zero,List.set_cons_succ])
  refine wpAnyH_take (i := 13) (oi := { dst := some 361, op := Go.Op.move (Go.Operand.tmp 360), type := 4, pos := "more.go:802", after := #[{ on := 12, ground := Go.Ground.data }, { on := 9, ground := Go.Ground.chain }, { on := 9, ground := Go.Ground.guard }], guard := some (9, false) }) (v := ?vc13) rfl (by kernel_rfl) (by kernel_rfl) (by kernel_rfl) (fun _ _ _ h => h) (Or.inl ⟨by kernel_rfl, ?yc13⟩) hHeld ?rc13
  case yc13=>(intro w hSw;go_simp;try rfl)
  (try simp only [Act.put,List.setIfInBounds_toArray,List.set_cons_zero,List.set_cons_succ])
  refine wpAnyH_take (i := 14) (oi := { dst := some 362, op := Go.Op.fieldAddr 41 (Go.Operand.tmp 10) 2, type := 0, pos := "more.go:802", after := #[{ on := 13, ground := Go.Ground.guard }], guard := some (13, true) }) (v := undef) rfl (by kernel_rfl) (by kernel_rfl) (by kernel_rfl) (fun _ _ _ h => h) (Or.inr ⟨by kernel_rfl, rfl⟩) hHeld ?rc14
  (try simp only [Act.put,List.setIfInBounds_toArray,List.set_cons_zero,List.set_cons_succ])
  refine wpAnyH_take (i := 15) (oi := { dst := some 363, op := Go.Op.load 39 (Go.Operand.tmp 362), type := 39, pos := "more.go:802", after := #[{ on := 14, ground := Go.Ground.data }, { on := 13, ground := Go.Ground.guard }], guard := some (13, true) }) (v := undef) rfl (by kernel_rfl) (by kernel_rfl) (by kernel_rfl) (fun _ _ _ h => h) (Or.inr ⟨by kernel_rfl, rfl⟩) hHeld ?rc15
  (try simp only [Act.put,List.setIfInBounds_toArray,List.set_cons_zero,List.set_cons_succ])
  refine wpAnyH_take (i := 16) (oi := { dst := some 364, op := Go.Op.fieldAddr 27 (Go.Operand.tmp 5) 4, type := 0, pos := "more.go:802", after := #[{ on := 13, ground := Go.Ground.guard }], guard := some (13, true) }) (v := undef) rfl (by kernel_rfl) (by kernel_rfl) (by kernel_rfl) (fun _ _ _ h => h) (Or.inr ⟨by kernel_rfl, rfl⟩) hHeld ?rc16
  (try simp only [Act.put,List.setIfInBounds_toArray,List.set_cons_zero,List.set_cons_succ])
  refine wpAnyH_take (i := 17) (oi := { dst := some 365, op := Go.Op.load 3 (Go.Operand.tmp 364), type := 3, pos := "more.go:802", after := #[{ on := 16, ground := Go.Ground.data }, { on := 13, ground := Go.Ground.guard }], guard := some (13, true) }) (v := undef) rfl (by kernel_rfl) (by kernel_rfl) (by kernel_rfl) (fun _ _ _ h => h) (Or.inr ⟨by kernel_rfl, rfl⟩) hHeld ?rc17
  (try simp only [Act.put,List.setIfInBounds_toArray,List.set_cons_zero,List.set_cons_succ])
  refine wpAnyH_take (i := 18) (oi := { dst := some 366, op := Go.Op.indexAddr 39 (Go.Operand.tmp 363) (Go.Operand.tmp 365), type := 0, pos := "more.go:802", after := #[{ on := 15, ground := Go.Ground.data }, { on := 17, ground := Go.Ground.data }, { on := 13, ground := Go.Ground.guard }], guard := some (13, true) }) (v := undef) rfl (by kernel_rfl) (by kernel_rfl) (by kernel_rfl) (fun _ _ _ h => h) (Or.inr ⟨by kernel_rfl, rfl⟩) hHeld ?rc18
  (try simp only [Act.put,List.setIfInBounds_toArray,List.set_cons_zero,List.set_cons_succ])
  refine wpAnyH_take (i := 19) (oi := { dst := some 367, op := Go.Op.fieldAddr 43 (Go.Operand.tmp 366) 3, type := 0, pos := "more.go:802", after := #[{ on := 18, ground := Go.Ground.data }, { on := 13, ground := Go.Ground.guard }], guard := some (13, true) }) (v := undef) rfl (by kernel_rfl) (by kernel_rfl) (by kernel_rfl) (fun _ _ _ h => h) (Or.inr ⟨by kernel_rfl, rfl⟩) hHeld ?rc19
  (try simp only [Act.put,List.setIfInBounds_toArray,List.set_cons_zero,List.set_cons_succ])
  refine wpAnyH_take (i := 20) (oi := { dst := some 368, op := Go.Op.load 9 (Go.Operand.tmp 367), type := 9, pos := "more.go:802", after := #[{ on := 19, ground := Go.Ground.data }, { on := 13, ground := Go.Ground.guard }], guard := some (13, true) }) (v := undef) rfl (by kernel_rfl) (by kernel_rfl) (by kernel_rfl) (fun _ _ _ h => h) (Or.inr ⟨by kernel_rfl, rfl⟩) hHeld ?rc20
  (try simp only [Act.put,List.setIfInBounds_toArray,List.set_cons_zero,List.set_cons_succ])
  refine wpAnyH_take (i := 21) (oi := { dst := some 369, op := Go.Op.binOp Go.BinOp.neq 9 (Go.Operand.tmp 368) (Go.Operand.const (Go.Value.string { data := #[] })) 9, type := 4, pos := "more.go:802", after := #[{ on := 20, ground := Go.Ground.data }, { on := 13, ground := Go.Ground.guard }], guard := some (13, true) }) (v := undef) rfl (by kernel_rfl) (by kernel_rfl) (by kernel_rfl) (fun _ _ _ h => h) (Or.inr ⟨by kernel_rfl, rfl⟩) hHeld ?rc21
  (try simp only [Act.put,List.setIfInBounds_toArray,List.set_cons_zero,List.set_cons_succ])
  refine wpAnyH_take (i := 22) (oi := { dst := some 370, op := Go.Op.move (Go.Operand.tmp 369), type := 4, pos := "more.go:802", after := #[{ on := 21, ground := Go.Ground.data }, { on := 13, ground := Go.Ground.chain }, { on := 13, ground := Go.Ground.guard }], guard := some (13, true) }) (v := undef) rfl (by kernel_rfl) (by kernel_rfl) (by kernel_rfl) (fun _ _ _ h => h) (Or.inr ⟨by kernel_rfl, rfl⟩) hHeld ?rc22
  (try simp only [Act.put,List.setIfInBounds_toArray,List.set_cons_zero,List.set_cons_succ])
  refine wpAnyH_take (i := 23) (oi := { dst := some 371, op := Go.Op.move (Go.Operand.tmp 1), type := 25, pos := "more.go:802", after := #[{ on := 22, ground := Go.Ground.guard }], guard := some (22, false) }) (v := undef) rfl (by kernel_rfl) (by kernel_rfl) (by kernel_rfl) (fun _ _ _ h => h) (Or.inr ⟨by kernel_rfl, rfl⟩) hHeld ?rc23
  (try simp only [Act.put,List.setIfInBounds_toArray,List.set_cons_zero,List.set_cons_succ])
  refine wpAnyH_take (i := 24) (oi := { dst := some 372, op := Go.Op.fieldAddr 27 (Go.Operand.tmp 5) 1, type := 0, pos := "more.go:802", after := #[{ on := 22, ground := Go.Ground.guard }], guard := some (22, false) }) (v := undef) rfl (by kernel_rfl) (by kernel_rfl) (by kernel_rfl) (fun _ _ _ h => h) (Or.inr ⟨by kernel_rfl, rfl⟩) hHeld ?rc24
  (try simp only [Act.put,List.setIfInBounds_toArray,List.set_cons_zero,List.set_cons_succ])
  refine wpAnyH_take (i := 25) (oi := { dst := some 373, op := Go.Op.load 3 (Go.Operand.tmp 372), type := 3, pos := "more.go:802", after := #[{ on := 24, ground := Go.Ground.data }, { on := 22, ground := Go.Ground.guard }], guard := some (22, false) }) (v := undef) rfl (by kernel_rfl) (by kernel_rfl) (by kernel_rfl) (fun _ _ _ h => h) (Or.inr ⟨by kernel_rfl, rfl⟩) hHeld ?rc25
  (try simp only [Act.put,List.setIfInBounds_toArray,List.set_cons_zero,List.set_cons_succ])
  refine wpAnyH_take (i := 26) (oi := { dst := some 374, op := Go.Op.fieldAddr 27 (Go.Operand.tmp 5) 4, type := 0, pos := "more.go:802", after := #[{ on := 22, ground := Go.Ground.guard }], guard := some (22, false) }) (v := undef) rfl (by kernel_rfl) (by kernel_rfl) (by kernel_rfl) (fun _ _ _ h => h) (Or.inr ⟨by kernel_rfl, rfl⟩) hHeld ?rc26
  (try simp only [Act.put,List.setIfInBounds_toArray,List.set_cons_zero,List.set_cons_succ])
  refine wpAnyH_take (i := 27) (oi := { dst := some 375, op := Go.Op.load 3 (Go.Operand.tmp 374), type := 3, pos := "more.go:802", after := #[{ on := 26, ground := Go.Ground.data }, { on := 22, ground := Go.Ground.guard }], guard := some (22, false) }) (v := undef) rfl (by kernel_rfl) (by kernel_rfl) (by kernel_rfl) (fun _ _ _ h => h) (Or.inr ⟨by kernel_rfl, rfl⟩) hHeld ?rc27
  (try simp only [Act.put,List.setIfInBounds_toArray,List.set_cons_zero,List.set_cons_succ])
  refine wpAnyH_take (i := 28) (oi := { dst := some 376, op := Go.Op.call { callee := Go.Callee.value (Go.Operand.func 11), args := #[Go.Operand.tmp 371, Go.Operand.tmp 373, Go.Operand.tmp 375], argTypes := #[25, 3, 3] }, type := 4, pos := "more.go:802", after := #[{ on := 23, ground := Go.Ground.data }, { on := 25, ground := Go.Ground.data }, { on := 27, ground := Go.Ground.data }, { on := 22, ground := Go.Ground.chain }, { on := 22, ground := Go.Ground.guard }], guard := some (22, false) }) (v := undef) rfl (by kernel_rfl) (by kernel_rfl) (by kernel_rfl) (fun _ _ _ h => h) (Or.inr ⟨by kernel_rfl, rfl⟩) hHeld ?rc28
  (try simp only [Act.put,List.setIfInBounds_toArray,List.set_cons_zero,List.set_cons_succ])
  refine wpAnyH_take (i := 29) (oi := { dst := some 377, op := Go.Op.pick (Go.Operand.tmp 370) (Go.Operand.const (Go.Value.bool true)) (Go.Operand.tmp 376), type := 4, pos := "more.go:802", after := #[{ on := 22, ground := Go.Ground.data }, { on := 28, ground := Go.Ground.data }, { on := 13, ground := Go.Ground.guard }], guard := some (13, true) }) (v := undef) rfl (by kernel_rfl) (by kernel_rfl) (by kernel_rfl) (fun _ _ _ h => h) (Or.inr ⟨by kernel_rfl, rfl⟩) hHeld ?rc29
  (try simp only [Act.put,List.setIfInBounds_toArray,List.set_cons_zero,List.set_cons_succ])
  refine wpAnyH_take (i := 30) (oi := { dst := some 378, op := Go.Op.pick (Go.Operand.tmp 361) (Go.Operand.tmp 377) (Go.Operand.const (Go.Value.bool false)), type := 4, pos := "more.go:802", after := #[{ on := 13, ground := Go.Ground.data }, { on := 29, ground := Go.Ground.data }, { on := 9, ground := Go.Ground.guard }], guard := some (9, false) }) (v := .bool false) rfl (by kernel_rfl) (by kernel_rfl) (by kernel_rfl) (fun _ _ _ h => h) (Or.inl ⟨by kernel_rfl, ?yc30⟩) hHeld ?rc30
  case yc30=>(intro w hSw;go_simp;try (first | rfl | simp [h0b] | simp [h1d] | simp [hbe] | simp [hbe,h0b]))
  (try simp only [Act.put,List.setIfInBounds_toArray,List.set_cons_zero,List.set_cons_succ])
  refine wpAnyH_take (i := 31) (oi := { dst := some 379, op := Go.Op.pick (Go.Operand.tmp 357) (Go.Operand.const (Go.Value.bool true)) (Go.Operand.tmp 378), type := 4, pos := "more.go:802", after := #[{ on := 9, ground := Go.Ground.data }, { on := 30, ground := Go.Ground.data }], guard := none }) (v := .bool false) rfl (by kernel_rfl) (by kernel_rfl) (by kernel_rfl) (fun _ _ _ h => h) (Or.inl ⟨by kernel_rfl, ?yc31⟩) hHeld ?rc31
  case yc31=>(intro w hSw;go_simp;try (first | rfl | simp [h0b] | simp [h1d] | simp [hbe] | simp [hbe,h0b]))
  (try simp only [Act.put,List.setIfInBounds_toArray,List.set_cons_zero,List.set_cons_succ])
  refine wpAnyH_done (by kernel_rfl) ?_ _
  go_wp2_with fail
  refine HJ.out _ _ ⟨rfl,?_⟩ (by rw [HL.out];rfl) (by go_grown)
  rw [←H1.out,←H5.out,←H10.out,←H12.out]
  rfl
 have h1d:0≤tg:=by omega
 obtain ⟨t,rfl⟩:∃ t:Nat,tg=(t:Int):=⟨tg.toNat,by omega⟩
 have hf:=hfo t rfl
 have htI:(t:Int)<(m:Int):=by omega
 have HS:Hid (∀ w',Below w.heap.size w w'→w'.cell? ⟨p+1,1,none⟩=some (.int .i64 dm)∧w'.cell? ⟨p+1,4,none⟩=some (.int .i64 (t:Int))∧w'.cell? ⟨q,2,none⟩=some (.slice (some ⟨g,0,none⟩) m C)∧w'.cell? ⟨g,i*4+1,none⟩=some (.int .i64 par)∧w'.cell? ⟨g,t*4+3,none⟩=some (.string fo)):=fun w' hb=>⟨later_cell c1 hb,later_cell c4 hb,later_cell d2 hb,later_cell hx hb,later_cell hf hb⟩
 have HCl:Hid (∀ w1,Below w.heap.size w w1→Calls Tryz.prog 11 #[.slice AE xl ce,.int .i64 dm,.int .i64 (t:Int)] w1 fun e w'=>e=.returned (.bool wr)∧Below w1.heap.size w1 w'):=fun w1 hb=>hcall w1 hb
 clear hcall hfo
 cases hbe:fo.toList.isEmpty
 ·have HL:=hid_of (decide_eq_true (p:=(t:Int)=par∨0≤(t:Int)∧(fo.toList.isEmpty=false∨wr=true)) (Or.inr ⟨by omega,Or.inl hbe⟩))
  refine wp_region_noPanic ?_
  refine wp_region_held_drew (S:=fun w'=>Below w.heap.size w w'∧w'.cell? ⟨p+1,1,none⟩=some (.int .i64 dm)∧w'.cell? ⟨p+1,4,none⟩=some (.int .i64 (t:Int))∧w'.cell? ⟨q,2,none⟩=some (.slice (some ⟨g,0,none⟩) m C)∧w'.cell? ⟨g,i*4+1,none⟩=some (.int .i64 par)∧w'.cell? ⟨g,t*4+3,none⟩=some (.string fo)) (by kernel_rfl) (by (refine (fun hB=>⟨hB,HS.out _ hB⟩) ?_;go_grown)) (fun hHeld=>?_)
  refine wpAnyH_take (i := 0) (oi := { dst := some 348, op := Go.Op.fieldAddr 27 (Go.Operand.tmp 5) 4, type := 0, pos := "more.go:802", after := #[], guard := none }) (v := ?vd0) rfl (by kernel_rfl) (by kernel_rfl) (by kernel_rfl) (fun _ _ _ h => h) (Or.inl ⟨by kernel_rfl, ?yd0⟩) hHeld ?rd0
  case yd0=>(intro w hSw;go_simp;try rfl)
  (try simp only [Act.put,List.setIfInBounds_toArray,List.set_cons_zero,List.set_cons_succ])
  refine wpAnyH_take (i := 1) (oi := { dst := some 349, op := Go.Op.load 3 (Go.Operand.tmp 348), type := 3, pos := "more.go:802", after := #[{ on := 0, ground := Go.Ground.data }], guard := none }) (v := ?vd1) rfl (by kernel_rfl) (by kernel_rfl) (by kernel_rfl) (fun _ _ _ h => h) (Or.inl ⟨by kernel_rfl, ?yd1⟩) hHeld ?rd1
  case yd1=>(intro w hSw;go_simp;try rfl)
  (try simp only [Act.put,List.setIfInBounds_toArray,List.set_cons_zero,List.set_cons_succ])
  refine wpAnyH_take (i := 2) (oi := { dst := some 350, op := Go.Op.fieldAddr 41 (Go.Operand.tmp 10) 2, type := 0, pos := "more.go:802", after := #[], guard := none }) (v := ?vd2) rfl (by kernel_rfl) (by kernel_rfl) (by kernel_rfl) (fun _ _ _ h => h) (Or.inl ⟨by kernel_rfl, ?yd2⟩) hHeld ?rd2
  case yd2=>(intro w hSw;go_simp;try rfl)
  (try simp only [Act.put,List.setIfInBounds_toArray,List.set_cons_zero,List.set_cons_succ])
  refine wpAnyH_take (i := 3) (oi := { dst := some 351, op := Go.Op.load 39 (Go.Operand.tmp 350), type := 39, pos := "more.go:802", after := #[{ on := 2, ground := Go.Ground.data }], guard := none }) (v := ?vd3) rfl (by kernel_rfl) (by kernel_rfl) (by kernel_rfl) (fun _ _ _ h => h) (Or.inl ⟨by kernel_rfl, ?yd3⟩) hHeld ?rd3
  case yd3=>(intro w hSw;go_simp;try rfl)
  (try simp only [Act.put,List.setIfInBounds_toArray,List.set_cons_zero,List.set_cons_succ])
  refine wpAnyH_take (i := 4) (oi := { dst := some 352, op := Go.Op.move (Go.Operand.tmp 12), type := 3, pos := "more.go:802", after := #[], guard := none }) (v := ?vd4) rfl (by kernel_rfl) (by kernel_rfl) (by kernel_rfl) (fun _ _ _ h => h) (Or.inl ⟨by kernel_rfl, ?yd4⟩) hHeld ?rd4
  case yd4=>(intro w hSw;go_simp;try rfl)
  (try simp only [Act.put,List.setIfInBounds_toArray,List.set_cons_zero,List.set_cons_succ])
  refine wpAnyH_take (i := 5) (oi := { dst := some 353, op := Go.Op.indexAddr 39 (Go.Operand.tmp 351) (Go.Operand.tmp 352), type := 0, pos := "more.go:802", after := #[{ on := 3, ground := Go.Ground.data }, { on := 4, ground := Go.Ground.data }], guard := none }) (v := ?vd5) rfl (by kernel_rfl) (by kernel_rfl) (by kernel_rfl) (fun _ _ _ h => h) (Or.inl ⟨by kernel_rfl, ?yd5⟩) hHeld ?rd5
  case yd5=>(intro w hSw;go_simp;try rfl)
  (try simp only [Act.put,List.setIfInBounds_toArray,List.set_cons_zero,List.set_cons_succ])
  refine wpAnyH_take (i := 6) (oi := { dst := some 354, op := Go.Op.fieldAddr 43 (Go.Operand.tmp 353) 1, type := 0, pos := "more.go:802", after := #[{ on := 5, ground := Go.Ground.data }], guard := none }) (v := ?vd6) rfl (by kernel_rfl) (by kernel_rfl) (by kernel_rfl) (fun _ _ _ h => h) (Or.inl ⟨by kernel_rfl, ?yd6⟩) hHeld ?rd6
  case yd6=>(intro w hSw;go_simp;try rfl)
  (try simp only [Act.put,List.setIfInBounds_toArray,List.set_cons_zero,List.set_cons_succ])
  refine wpAnyH_take (i := 7) (oi := { dst := some 355, op := Go.Op.load 3 (Go.Operand.tmp 354), type := 3, pos := "more.go:802", after := #[{ on := 6, ground := Go.Ground.data }], guard := none }) (v := ?vd7) rfl (by kernel_rfl) (by kernel_rfl) (by kernel_rfl) (fun _ _ _ h => h) (Or.inl ⟨by kernel_rfl, ?yd7⟩) hHeld ?rd7
  case yd7=>(intro w hSw;go_simp;try rfl)
  (try simp only [Act.put,List.setIfInBounds_toArray,List.set_cons_zero,List.set_cons_succ])
  refine wpAnyH_take (i := 8) (oi := { dst := some 356, op := Go.Op.binOp Go.BinOp.eql 3 (Go.Operand.tmp 349) (Go.Operand.tmp 355) 3, type := 4, pos := "more.go:802", after := #[{ on := 1, ground := Go.Ground.data }, { on := 7, ground := Go.Ground.data }], guard := none }) (v := .bool false) rfl (by kernel_rfl) (by kernel_rfl) (by kernel_rfl) (fun _ _ _ h => h) (Or.inl ⟨by kernel_rfl, ?yd8⟩) hHeld ?rd8
  case yd8=>(intro w hSw;go_simp;try (first | rfl | simp [h0b] | simp [h1d] | simp [hbe] | simp [hbe,h0b]))
  (try simp only [Act.put,List.setIfInBounds_toArray,List.set_cons_zero,List.set_cons_succ])
  refine wpAnyH_take (i := 9) (oi := { dst := some 357, op := Go.Op.move (Go.Operand.tmp 356), type := 4, pos := "more.go:802", after := #[{ on := 8, ground := Go.Ground.data }], guard := none }) (v := ?vd9) rfl (by kernel_rfl) (by kernel_rfl) (by kernel_rfl) (fun _ _ _ h => h) (Or.inl ⟨by kernel_rfl, ?yd9⟩) hHeld ?rd9
  case yd9=>(intro w hSw;go_simp;try rfl)
  (try simp only [Act.put,List.setIfInBounds_toArray,List.set_cons_zero,List.set_cons_succ])
  refine wpAnyH_take (i := 10) (oi := { dst := some 358, op := Go.Op.fieldAddr 27 (Go.Operand.tmp 5) 4, type := 0, pos := "more.go:802", after := #[{ on := 9, ground := Go.Ground.guard }], guard := some (9, false) }) (v := ?vd10) rfl (by kernel_rfl) (by kernel_rfl) (by kernel_rfl) (fun _ _ _ h => h) (Or.inl ⟨by kernel_rfl, ?yd10⟩) hHeld ?rd10
  case yd10=>(intro w hSw;go_simp;try rfl)
  (try simp only [Act.put,List.setIfInBounds_toArray,List.set_cons_zero,List.set_cons_succ])
  refine wpAnyH_take (i := 11) (oi := { dst := some 359, op := Go.Op.load 3 (Go.Operand.tmp 358), type := 3, pos := "more.go:802", after := #[{ on := 10, ground := Go.Ground.data }, { on := 9, ground := Go.Ground.guard }], guard := some (9, false) }) (v := ?vd11) rfl (by kernel_rfl) (by kernel_rfl) (by kernel_rfl) (fun _ _ _ h => h) (Or.inl ⟨by kernel_rfl, ?yd11⟩) hHeld ?rd11
  case yd11=>(intro w hSw;go_simp;try rfl)
  (try simp only [Act.put,List.setIfInBounds_toArray,List.set_cons_zero,List.set_cons_succ])
  refine wpAnyH_take (i := 12) (oi := { dst := some 360, op := Go.Op.binOp Go.BinOp.geq 3 (Go.Operand.tmp 359) (Go.Operand.const (Go.Value.int Go.IntKind.i64 0)) 3, type := 4, pos := "more.go:802", after := #[{ on := 11, ground := Go.Ground.data }, { on := 9, ground := Go.Ground.guard }], guard := some (9, false) }) (v := .bool true) rfl (by kernel_rfl) (by kernel_rfl) (by kernel_rfl) (fun _ _ _ h => h) (Or.inl ⟨by kernel_rfl, ?yd12⟩) hHeld ?rd12
  case yd12=>(intro w hSw;go_simp;try (first | rfl | simp [h0b] | simp [h1d] | simp [hbe] | simp [hbe,h0b]))
  (try simp only [Act.put,List.setIfInBounds_toArray,List.set_cons_zero,List.set_cons_succ])
  refine wpAnyH_take (i := 13) (oi := { dst := some 361, op := Go.Op.move (Go.Operand.tmp 360), type := 4, pos := "more.go:802", after := #[{ on := 12, ground := Go.Ground.data }, { on := 9, ground := Go.Ground.chain }, { on := 9, ground := Go.Ground.guard }], guard := some (9, false) }) (v := ?vd13) rfl (by kernel_rfl) (by kernel_rfl) (by kernel_rfl) (fun _ _ _ h => h) (Or.inl ⟨by kernel_rfl, ?yd13⟩) hHeld ?rd13
  case yd13=>(intro w hSw;go_simp;try rfl)
  (try simp only [Act.put,List.setIfInBounds_toArray,List.set_cons_zero,List.set_cons_succ])
  refine wpAnyH_take (i := 14) (oi := { dst := some 362, op := Go.Op.fieldAddr 41 (Go.Operand.tmp 10) 2, type := 0, pos := "more.go:802", after := #[{ on := 13, ground := Go.Ground.guard }], guard := some (13, true) }) (v := ?vd14) rfl (by kernel_rfl) (by kernel_rfl) (by kernel_rfl) (fun _ _ _ h => h) (Or.inl ⟨by kernel_rfl, ?yd14⟩) hHeld ?rd14
  case yd14=>(intro w hSw;go_simp;try rfl)
  (try simp only [Act.put,List.setIfInBounds_toArray,List.set_cons_zero,List.set_cons_succ])
  refine wpAnyH_take (i := 15) (oi := { dst := some 363, op := Go.Op.load 39 (Go.Operand.tmp 362), type := 39, pos := "more.go:802", after := #[{ on := 14, ground := Go.Ground.data }, { on := 13, ground := Go.Ground.guard }], guard := some (13, true) }) (v := ?vd15) rfl (by kernel_rfl) (by kernel_rfl) (by kernel_rfl) (fun _ _ _ h => h) (Or.inl ⟨by kernel_rfl, ?yd15⟩) hHeld ?rd15
  case yd15=>(intro w hSw;go_simp;try rfl)
  (try simp only [Act.put,List.setIfInBounds_toArray,List.set_cons_zero,List.set_cons_succ])
  refine wpAnyH_take (i := 16) (oi := { dst := some 364, op := Go.Op.fieldAddr 27 (Go.Operand.tmp 5) 4, type := 0, pos := "more.go:802", after := #[{ on := 13, ground := Go.Ground.guard }], guard := some (13, true) }) (v := ?vd16) rfl (by kernel_rfl) (by kernel_rfl) (by kernel_rfl) (fun _ _ _ h => h) (Or.inl ⟨by kernel_rfl, ?yd16⟩) hHeld ?rd16
  case yd16=>(intro w hSw;go_simp;try rfl)
  (try simp only [Act.put,List.setIfInBounds_toArray,List.set_cons_zero,List.set_cons_succ])
  refine wpAnyH_take (i := 17) (oi := { dst := some 365, op := Go.Op.load 3 (Go.Operand.tmp 364), type := 3, pos := "more.go:802", after := #[{ on := 16, ground := Go.Ground.data }, { on := 13, ground := Go.Ground.guard }], guard := some (13, true) }) (v := ?vd17) rfl (by kernel_rfl) (by kernel_rfl) (by kernel_rfl) (fun _ _ _ h => h) (Or.inl ⟨by kernel_rfl, ?yd17⟩) hHeld ?rd17
  case yd17=>(intro w hSw;go_simp;try rfl)
  (try simp only [Act.put,List.setIfInBounds_toArray,List.set_cons_zero,List.set_cons_succ])
  refine wpAnyH_take (i := 18) (oi := { dst := some 366, op := Go.Op.indexAddr 39 (Go.Operand.tmp 363) (Go.Operand.tmp 365), type := 0, pos := "more.go:802", after := #[{ on := 15, ground := Go.Ground.data }, { on := 17, ground := Go.Ground.data }, { on := 13, ground := Go.Ground.guard }], guard := some (13, true) }) (v := ?vd18) rfl (by kernel_rfl) (by kernel_rfl) (by kernel_rfl) (fun _ _ _ h => h) (Or.inl ⟨by kernel_rfl, ?yd18⟩) hHeld ?rd18
  case yd18=>(intro w hSw;go_simp;try rfl)
  (try simp only [Act.put,List.setIfInBounds_toArray,List.set_cons_zero,List.set_cons_succ])
  refine wpAnyH_take (i := 19) (oi := { dst := some 367, op := Go.Op.fieldAddr 43 (Go.Operand.tmp 366) 3, type := 0, pos := "more.go:802", after := #[{ on := 18, ground := Go.Ground.data }, { on := 13, ground := Go.Ground.guard }], guard := some (13, true) }) (v := ?vd19) rfl (by kernel_rfl) (by kernel_rfl) (by kernel_rfl) (fun _ _ _ h => h) (Or.inl ⟨by kernel_rfl, ?yd19⟩) hHeld ?rd19
  case yd19=>(intro w hSw;go_simp;try rfl)
  (try simp only [Act.put,List.setIfInBounds_toArray,List.set_cons_zero,List.set_cons_succ])
  refine wpAnyH_take (i := 20) (oi := { dst := some 368, op := Go.Op.load 9 (Go.Operand.tmp 367), type := 9, pos := "more.go:802", after := #[{ on := 19, ground := Go.Ground.data }, { on := 13, ground := Go.Ground.guard }], guard := some (13, true) }) (v := ?vd20) rfl (by kernel_rfl) (by kernel_rfl) (by kernel_rfl) (fun _ _ _ h => h) (Or.inl ⟨by kernel_rfl, ?yd20⟩) hHeld ?rd20
  case yd20=>(intro w hSw;go_simp;try rfl)
  (try simp only [Act.put,List.setIfInBounds_toArray,List.set_cons_zero,List.set_cons_succ])
  refine wpAnyH_take (i := 21) (oi := { dst := some 369, op := Go.Op.binOp Go.BinOp.neq 9 (Go.Operand.tmp 368) (Go.Operand.const (Go.Value.string { data := #[] })) 9, type := 4, pos := "more.go:802", after := #[{ on := 20, ground := Go.Ground.data }, { on := 13, ground := Go.Ground.guard }], guard := some (13, true) }) (v := .bool true) rfl (by kernel_rfl) (by kernel_rfl) (by kernel_rfl) (fun _ _ _ h => h) (Or.inl ⟨by kernel_rfl, ?yd21⟩) hHeld ?rd21
  case yd21=>(intro w hSw;go_simp;try (first | rfl | simp [h0b] | simp [h1d] | simp [hbe] | simp [hbe,h0b]))
  (try simp only [Act.put,List.setIfInBounds_toArray,List.set_cons_zero,List.set_cons_succ])
  refine wpAnyH_take (i := 22) (oi := { dst := some 370, op := Go.Op.move (Go.Operand.tmp 369), type := 4, pos := "more.go:802", after := #[{ on := 21, ground := Go.Ground.data }, { on := 13, ground := Go.Ground.chain }, { on := 13, ground := Go.Ground.guard }], guard := some (13, true) }) (v := ?vd22) rfl (by kernel_rfl) (by kernel_rfl) (by kernel_rfl) (fun _ _ _ h => h) (Or.inl ⟨by kernel_rfl, ?yd22⟩) hHeld ?rd22
  case yd22=>(intro w hSw;go_simp;try rfl)
  (try simp only [Act.put,List.setIfInBounds_toArray,List.set_cons_zero,List.set_cons_succ])
  refine wpAnyH_take (i := 23) (oi := { dst := some 371, op := Go.Op.move (Go.Operand.tmp 1), type := 25, pos := "more.go:802", after := #[{ on := 22, ground := Go.Ground.guard }], guard := some (22, false) }) (v := undef) rfl (by kernel_rfl) (by kernel_rfl) (by kernel_rfl) (fun _ _ _ h => h) (Or.inr ⟨by kernel_rfl, rfl⟩) hHeld ?rd23
  (try simp only [Act.put,List.setIfInBounds_toArray,List.set_cons_zero,List.set_cons_succ])
  refine wpAnyH_take (i := 24) (oi := { dst := some 372, op := Go.Op.fieldAddr 27 (Go.Operand.tmp 5) 1, type := 0, pos := "more.go:802", after := #[{ on := 22, ground := Go.Ground.guard }], guard := some (22, false) }) (v := undef) rfl (by kernel_rfl) (by kernel_rfl) (by kernel_rfl) (fun _ _ _ h => h) (Or.inr ⟨by kernel_rfl, rfl⟩) hHeld ?rd24
  (try simp only [Act.put,List.setIfInBounds_toArray,List.set_cons_zero,List.set_cons_succ])
  refine wpAnyH_take (i := 25) (oi := { dst := some 373, op := Go.Op.load 3 (Go.Operand.tmp 372), type := 3, pos := "more.go:802", after := #[{ on := 24, ground := Go.Ground.data }, { on := 22, ground := Go.Ground.guard }], guard := some (22, false) }) (v := undef) rfl (by kernel_rfl) (by kernel_rfl) (by kernel_rfl) (fun _ _ _ h => h) (Or.inr ⟨by kernel_rfl, rfl⟩) hHeld ?rd25
  (try simp only [Act.put,List.setIfInBounds_toArray,List.set_cons_zero,List.set_cons_succ])
  refine wpAnyH_take (i := 26) (oi := { dst := some 374, op := Go.Op.fieldAddr 27 (Go.Operand.tmp 5) 4, type := 0, pos := "more.go:802", after := #[{ on := 22, ground := Go.Ground.guard }], guard := some (22, false) }) (v := undef) rfl (by kernel_rfl) (by kernel_rfl) (by kernel_rfl) (fun _ _ _ h => h) (Or.inr ⟨by kernel_rfl, rfl⟩) hHeld ?rd26
  (try simp only [Act.put,List.setIfInBounds_toArray,List.set_cons_zero,List.set_cons_succ])
  refine wpAnyH_take (i := 27) (oi := { dst := some 375, op := Go.Op.load 3 (Go.Operand.tmp 374), type := 3, pos := "more.go:802", after := #[{ on := 26, ground := Go.Ground.data }, { on := 22, ground := Go.Ground.guard }], guard := some (22, false) }) (v := undef) rfl (by kernel_rfl) (by kernel_rfl) (by kernel_rfl) (fun _ _ _ h => h) (Or.inr ⟨by kernel_rfl, rfl⟩) hHeld ?rd27
  (try simp only [Act.put,List.setIfInBounds_toArray,List.set_cons_zero,List.set_cons_succ])
  refine wpAnyH_take (i := 28) (oi := { dst := some 376, op := Go.Op.call { callee := Go.Callee.value (Go.Operand.func 11), args := #[Go.Operand.tmp 371, Go.Operand.tmp 373, Go.Operand.tmp 375], argTypes := #[25, 3, 3] }, type := 4, pos := "more.go:802", after := #[{ on := 23, ground := Go.Ground.data }, { on := 25, ground := Go.Ground.data }, { on := 27, ground := Go.Ground.data }, { on := 22, ground := Go.Ground.chain }, { on := 22, ground := Go.Ground.guard }], guard := some (22, false) }) (v := undef) rfl (by kernel_rfl) (by kernel_rfl) (by kernel_rfl) (fun _ _ _ h => h) (Or.inr ⟨by kernel_rfl, rfl⟩) hHeld ?rd28
  (try simp only [Act.put,List.setIfInBounds_toArray,List.set_cons_zero,List.set_cons_succ])
  refine wpAnyH_take (i := 29) (oi := { dst := some 377, op := Go.Op.pick (Go.Operand.tmp 370) (Go.Operand.const (Go.Value.bool true)) (Go.Operand.tmp 376), type := 4, pos := "more.go:802", after := #[{ on := 22, ground := Go.Ground.data }, { on := 28, ground := Go.Ground.data }, { on := 13, ground := Go.Ground.guard }], guard := some (13, true) }) (v := .bool true) rfl (by kernel_rfl) (by kernel_rfl) (by kernel_rfl) (fun _ _ _ h => h) (Or.inl ⟨by kernel_rfl, ?yd29⟩) hHeld ?rd29
  case yd29=>(intro w hSw;go_simp;try (first | rfl | simp [h0b] | simp [h1d] | simp [hbe] | simp [hbe,h0b]))
  (try simp only [Act.put,List.setIfInBounds_toArray,List.set_cons_zero,List.set_cons_succ])
  refine wpAnyH_take (i := 30) (oi := { dst := some 378, op := Go.Op.pick (Go.Operand.tmp 361) (Go.Operand.tmp 377) (Go.Operand.const (Go.Value.bool false)), type := 4, pos := "more.go:802", after := #[{ on := 13, ground := Go.Ground.data }, { on := 29, ground := Go.Ground.data }, { on := 9, ground := Go.Ground.guard }], guard := some (9, false) }) (v := .bool true) rfl (by kernel_rfl) (by kernel_rfl) (by kernel_rfl) (fun _ _ _ h => h) (Or.inl ⟨by kernel_rfl, ?yd30⟩) hHeld ?rd30
  case yd30=>(intro w hSw;go_simp;try (first | rfl | simp [h0b] | simp [h1d] | simp [hbe] | simp [hbe,h0b]))
  (try simp only [Act.put,List.setIfInBounds_toArray,List.set_cons_zero,List.set_cons_succ])
  refine wpAnyH_take (i := 31) (oi := { dst := some 379, op := Go.Op.pick (Go.Operand.tmp 357) (Go.Operand.const (Go.Value.bool true)) (Go.Operand.tmp 378), type := 4, pos := "more.go:802", after := #[{ on := 9, ground := Go.Ground.data }, { on := 30, ground := Go.Ground.data }], guard := none }) (v := .bool true) rfl (by kernel_rfl) (by kernel_rfl) (by kernel_rfl) (fun _ _ _ h => h) (Or.inl ⟨by kernel_rfl, ?yd31⟩) hHeld ?rd31
  case yd31=>(intro w hSw;go_simp;try (first | rfl | simp [h0b] | simp [h1d] | simp [hbe] | simp [hbe,h0b]))
  (try simp only [Act.put,List.setIfInBounds_toArray,List.set_cons_zero,List.set_cons_succ])
  refine wpAnyH_done (by kernel_rfl) ?_ _
  go_wp2_with fail
  refine HJ.out _ _ ⟨rfl,?_⟩ (by rw [HL.out];rfl) (by go_grown)
  rw [←H1.out,←H5.out,←H10.out,←H12.out]
  rfl
 have hb2:fo.toList=[]:=List.isEmpty_iff.1 hbe
 cases wr
 ·have HL:=hid_of (decide_eq_false (p:=(t:Int)=par∨0≤(t:Int)∧(fo.toList.isEmpty=false∨false=true)) (fun h=>h.elim h0 fun h=>h.2.elim (fun e=>by rw [hbe] at e;cases e) (fun e=>by cases e)))
  refine wp_region_noPanic ?_
  refine wp_region_held_drew (S:=fun w'=>Below w.heap.size w w'∧w'.cell? ⟨p+1,1,none⟩=some (.int .i64 dm)∧w'.cell? ⟨p+1,4,none⟩=some (.int .i64 (t:Int))∧w'.cell? ⟨q,2,none⟩=some (.slice (some ⟨g,0,none⟩) m C)∧w'.cell? ⟨g,i*4+1,none⟩=some (.int .i64 par)∧w'.cell? ⟨g,t*4+3,none⟩=some (.string fo)) (by kernel_rfl) (by (refine (fun hB=>⟨hB,HS.out _ hB⟩) ?_;go_grown)) (fun hHeld=>?_)
  refine wpAnyH_take (i := 0) (oi := { dst := some 348, op := Go.Op.fieldAddr 27 (Go.Operand.tmp 5) 4, type := 0, pos := "more.go:802", after := #[], guard := none }) (v := ?ve0) rfl (by kernel_rfl) (by kernel_rfl) (by kernel_rfl) (fun _ _ _ h => h) (Or.inl ⟨by kernel_rfl, ?ye0⟩) hHeld ?re0
  case ye0=>(intro w hSw;go_simp;try rfl)
  (try simp only [Act.put,List.setIfInBounds_toArray,List.set_cons_zero,List.set_cons_succ])
  refine wpAnyH_take (i := 1) (oi := { dst := some 349, op := Go.Op.load 3 (Go.Operand.tmp 348), type := 3, pos := "more.go:802", after := #[{ on := 0, ground := Go.Ground.data }], guard := none }) (v := ?ve1) rfl (by kernel_rfl) (by kernel_rfl) (by kernel_rfl) (fun _ _ _ h => h) (Or.inl ⟨by kernel_rfl, ?ye1⟩) hHeld ?re1
  case ye1=>(intro w hSw;go_simp;try rfl)
  (try simp only [Act.put,List.setIfInBounds_toArray,List.set_cons_zero,List.set_cons_succ])
  refine wpAnyH_take (i := 2) (oi := { dst := some 350, op := Go.Op.fieldAddr 41 (Go.Operand.tmp 10) 2, type := 0, pos := "more.go:802", after := #[], guard := none }) (v := ?ve2) rfl (by kernel_rfl) (by kernel_rfl) (by kernel_rfl) (fun _ _ _ h => h) (Or.inl ⟨by kernel_rfl, ?ye2⟩) hHeld ?re2
  case ye2=>(intro w hSw;go_simp;try rfl)
  (try simp only [Act.put,List.setIfInBounds_toArray,List.set_cons_zero,List.set_cons_succ])
  refine wpAnyH_take (i := 3) (oi := { dst := some 351, op := Go.Op.load 39 (Go.Operand.tmp 350), type := 39, pos := "more.go:802", after := #[{ on := 2, ground := Go.Ground.data }], guard := none }) (v := ?ve3) rfl (by kernel_rfl) (by kernel_rfl) (by kernel_rfl) (fun _ _ _ h => h) (Or.inl ⟨by kernel_rfl, ?ye3⟩) hHeld ?re3
  case ye3=>(intro w hSw;go_simp;try rfl)
  (try simp only [Act.put,List.setIfInBounds_toArray,List.set_cons_zero,List.set_cons_succ])
  refine wpAnyH_take (i := 4) (oi := { dst := some 352, op := Go.Op.move (Go.Operand.tmp 12), type := 3, pos := "more.go:802", after := #[], guard := none }) (v := ?ve4) rfl (by kernel_rfl) (by kernel_rfl) (by kernel_rfl) (fun _ _ _ h => h) (Or.inl ⟨by kernel_rfl, ?ye4⟩) hHeld ?re4
  case ye4=>(intro w hSw;go_simp;try rfl)
  (try simp only [Act.put,List.setIfInBounds_toArray,List.set_cons_zero,List.set_cons_succ])
  refine wpAnyH_take (i := 5) (oi := { dst := some 353, op := Go.Op.indexAddr 39 (Go.Operand.tmp 351) (Go.Operand.tmp 352), type := 0, pos := "more.go:802", after := #[{ on := 3, ground := Go.Ground.data }, { on := 4, ground := Go.Ground.data }], guard := none }) (v := ?ve5) rfl (by kernel_rfl) (by kernel_rfl) (by kernel_rfl) (fun _ _ _ h => h) (Or.inl ⟨by kernel_rfl, ?ye5⟩) hHeld ?re5
  case ye5=>(intro w hSw;go_simp;try rfl)
  (try simp only [Act.put,List.setIfInBounds_toArray,List.set_cons_zero,List.set_cons_succ])
  refine wpAnyH_take (i := 6) (oi := { dst := some 354, op := Go.Op.fieldAddr 43 (Go.Operand.tmp 353) 1, type := 0, pos := "more.go:802", after := #[{ on := 5, ground := Go.Ground.data }], guard := none }) (v := ?ve6) rfl (by kernel_rfl) (by kernel_rfl) (by kernel_rfl) (fun _ _ _ h => h) (Or.inl ⟨by kernel_rfl, ?ye6⟩) hHeld ?re6
  case ye6=>(intro w hSw;go_simp;try rfl)
  (try simp only [Act.put,List.setIfInBounds_toArray,List.set_cons_zero,List.set_cons_succ])
  refine wpAnyH_take (i := 7) (oi := { dst := some 355, op := Go.Op.load 3 (Go.Operand.tmp 354), type := 3, pos := "more.go:802", after := #[{ on := 6, ground := Go.Ground.data }], guard := none }) (v := ?ve7) rfl (by kernel_rfl) (by kernel_rfl) (by kernel_rfl) (fun _ _ _ h => h) (Or.inl ⟨by kernel_rfl, ?ye7⟩) hHeld ?re7
  case ye7=>(intro w hSw;go_simp;try rfl)
  (try simp only [Act.put,List.setIfInBounds_toArray,List.set_cons_zero,List.set_cons_succ])
  refine wpAnyH_take (i := 8) (oi := { dst := some 356, op := Go.Op.binOp Go.BinOp.eql 3 (Go.Operand.tmp 349) (Go.Operand.tmp 355) 3, type := 4, pos := "more.go:802", after := #[{ on := 1, ground := Go.Ground.data }, { on := 7, ground := Go.Ground.data }], guard := none }) (v := .bool false) rfl (by kernel_rfl) (by kernel_rfl) (by kernel_rfl) (fun _ _ _ h => h) (Or.inl ⟨by kernel_rfl, ?ye8⟩) hHeld ?re8
  case ye8=>(intro w hSw;go_simp;try (first | rfl | simp [h0b] | simp [h1d] | simp [hbe] | simp [hbe,h0b]))
  (try simp only [Act.put,List.setIfInBounds_toArray,List.set_cons_zero,List.set_cons_succ])
  refine wpAnyH_take (i := 9) (oi := { dst := some 357, op := Go.Op.move (Go.Operand.tmp 356), type := 4, pos := "more.go:802", after := #[{ on := 8, ground := Go.Ground.data }], guard := none }) (v := ?ve9) rfl (by kernel_rfl) (by kernel_rfl) (by kernel_rfl) (fun _ _ _ h => h) (Or.inl ⟨by kernel_rfl, ?ye9⟩) hHeld ?re9
  case ye9=>(intro w hSw;go_simp;try rfl)
  (try simp only [Act.put,List.setIfInBounds_toArray,List.set_cons_zero,List.set_cons_succ])
  refine wpAnyH_take (i := 10) (oi := { dst := some 358, op := Go.Op.fieldAddr 27 (Go.Operand.tmp 5) 4, type := 0, pos := "more.go:802", after := #[{ on := 9, ground := Go.Ground.guard }], guard := some (9, false) }) (v := ?ve10) rfl (by kernel_rfl) (by kernel_rfl) (by kernel_rfl) (fun _ _ _ h => h) (Or.inl ⟨by kernel_rfl, ?ye10⟩) hHeld ?re10
  case ye10=>(intro w hSw;go_simp;try rfl)
  (try simp only [Act.put,List.setIfInBounds_toArray,List.set_cons_zero,List.set_cons_succ])
  refine wpAnyH_take (i := 11) (oi := { dst := some 359, op := Go.Op.load 3 (Go.Operand.tmp 358), type := 3, pos := "more.go:802", after := #[{ on := 10, ground := Go.Ground.data }, { on := 9, ground := Go.Ground.guard }], guard := some (9, false) }) (v := ?ve11) rfl (by kernel_rfl) (by kernel_rfl) (by kernel_rfl) (fun _ _ _ h => h) (Or.inl ⟨by kernel_rfl, ?ye11⟩) hHeld ?re11
  case ye11=>(intro w hSw;go_simp;try rfl)
  (try simp only [Act.put,List.setIfInBounds_toArray,List.set_cons_zero,List.set_cons_succ])
  refine wpAnyH_take (i := 12) (oi := { dst := some 360, op := Go.Op.binOp Go.BinOp.geq 3 (Go.Operand.tmp 359) (Go.Operand.const (Go.Value.int Go.IntKind.i64 0)) 3, type := 4, pos := "more.go:802", after := #[{ on := 11, ground := Go.Ground.data }, { on := 9, ground := Go.Ground.guard }], guard := some (9, false) }) (v := .bool true) rfl (by kernel_rfl) (by kernel_rfl) (by kernel_rfl) (fun _ _ _ h => h) (Or.inl ⟨by kernel_rfl, ?ye12⟩) hHeld ?re12
  case ye12=>(intro w hSw;go_simp;try (first | rfl | simp [h0b] | simp [h1d] | simp [hbe] | simp [hbe,h0b]))
  (try simp only [Act.put,List.setIfInBounds_toArray,List.set_cons_zero,List.set_cons_succ])
  refine wpAnyH_take (i := 13) (oi := { dst := some 361, op := Go.Op.move (Go.Operand.tmp 360), type := 4, pos := "more.go:802", after := #[{ on := 12, ground := Go.Ground.data }, { on := 9, ground := Go.Ground.chain }, { on := 9, ground := Go.Ground.guard }], guard := some (9, false) }) (v := ?ve13) rfl (by kernel_rfl) (by kernel_rfl) (by kernel_rfl) (fun _ _ _ h => h) (Or.inl ⟨by kernel_rfl, ?ye13⟩) hHeld ?re13
  case ye13=>(intro w hSw;go_simp;try rfl)
  (try simp only [Act.put,List.setIfInBounds_toArray,List.set_cons_zero,List.set_cons_succ])
  refine wpAnyH_take (i := 14) (oi := { dst := some 362, op := Go.Op.fieldAddr 41 (Go.Operand.tmp 10) 2, type := 0, pos := "more.go:802", after := #[{ on := 13, ground := Go.Ground.guard }], guard := some (13, true) }) (v := ?ve14) rfl (by kernel_rfl) (by kernel_rfl) (by kernel_rfl) (fun _ _ _ h => h) (Or.inl ⟨by kernel_rfl, ?ye14⟩) hHeld ?re14
  case ye14=>(intro w hSw;go_simp;try rfl)
  (try simp only [Act.put,List.setIfInBounds_toArray,List.set_cons_zero,List.set_cons_succ])
  refine wpAnyH_take (i := 15) (oi := { dst := some 363, op := Go.Op.load 39 (Go.Operand.tmp 362), type := 39, pos := "more.go:802", after := #[{ on := 14, ground := Go.Ground.data }, { on := 13, ground := Go.Ground.guard }], guard := some (13, true) }) (v := ?ve15) rfl (by kernel_rfl) (by kernel_rfl) (by kernel_rfl) (fun _ _ _ h => h) (Or.inl ⟨by kernel_rfl, ?ye15⟩) hHeld ?re15
  case ye15=>(intro w hSw;go_simp;try rfl)
  (try simp only [Act.put,List.setIfInBounds_toArray,List.set_cons_zero,List.set_cons_succ])
  refine wpAnyH_take (i := 16) (oi := { dst := some 364, op := Go.Op.fieldAddr 27 (Go.Operand.tmp 5) 4, type := 0, pos := "more.go:802", after := #[{ on := 13, ground := Go.Ground.guard }], guard := some (13, true) }) (v := ?ve16) rfl (by kernel_rfl) (by kernel_rfl) (by kernel_rfl) (fun _ _ _ h => h) (Or.inl ⟨by kernel_rfl, ?ye16⟩) hHeld ?re16
  case ye16=>(intro w hSw;go_simp;try rfl)
  (try simp only [Act.put,List.setIfInBounds_toArray,List.set_cons_zero,List.set_cons_succ])
  refine wpAnyH_take (i := 17) (oi := { dst := some 365, op := Go.Op.load 3 (Go.Operand.tmp 364), type := 3, pos := "more.go:802", after := #[{ on := 16, ground := Go.Ground.data }, { on := 13, ground := Go.Ground.guard }], guard := some (13, true) }) (v := ?ve17) rfl (by kernel_rfl) (by kernel_rfl) (by kernel_rfl) (fun _ _ _ h => h) (Or.inl ⟨by kernel_rfl, ?ye17⟩) hHeld ?re17
  case ye17=>(intro w hSw;go_simp;try rfl)
  (try simp only [Act.put,List.setIfInBounds_toArray,List.set_cons_zero,List.set_cons_succ])
  refine wpAnyH_take (i := 18) (oi := { dst := some 366, op := Go.Op.indexAddr 39 (Go.Operand.tmp 363) (Go.Operand.tmp 365), type := 0, pos := "more.go:802", after := #[{ on := 15, ground := Go.Ground.data }, { on := 17, ground := Go.Ground.data }, { on := 13, ground := Go.Ground.guard }], guard := some (13, true) }) (v := ?ve18) rfl (by kernel_rfl) (by kernel_rfl) (by kernel_rfl) (fun _ _ _ h => h) (Or.inl ⟨by kernel_rfl, ?ye18⟩) hHeld ?re18
  case ye18=>(intro w hSw;go_simp;try rfl)
  (try simp only [Act.put,List.setIfInBounds_toArray,List.set_cons_zero,List.set_cons_succ])
  refine wpAnyH_take (i := 19) (oi := { dst := some 367, op := Go.Op.fieldAddr 43 (Go.Operand.tmp 366) 3, type := 0, pos := "more.go:802", after := #[{ on := 18, ground := Go.Ground.data }, { on := 13, ground := Go.Ground.guard }], guard := some (13, true) }) (v := ?ve19) rfl (by kernel_rfl) (by kernel_rfl) (by kernel_rfl) (fun _ _ _ h => h) (Or.inl ⟨by kernel_rfl, ?ye19⟩) hHeld ?re19
  case ye19=>(intro w hSw;go_simp;try rfl)
  (try simp only [Act.put,List.setIfInBounds_toArray,List.set_cons_zero,List.set_cons_succ])
  refine wpAnyH_take (i := 20) (oi := { dst := some 368, op := Go.Op.load 9 (Go.Operand.tmp 367), type := 9, pos := "more.go:802", after := #[{ on := 19, ground := Go.Ground.data }, { on := 13, ground := Go.Ground.guard }], guard := some (13, true) }) (v := ?ve20) rfl (by kernel_rfl) (by kernel_rfl) (by kernel_rfl) (fun _ _ _ h => h) (Or.inl ⟨by kernel_rfl, ?ye20⟩) hHeld ?re20
  case ye20=>(intro w hSw;go_simp;try rfl)
  (try simp only [Act.put,List.setIfInBounds_toArray,List.set_cons_zero,List.set_cons_succ])
  refine wpAnyH_take (i := 21) (oi := { dst := some 369, op := Go.Op.binOp Go.BinOp.neq 9 (Go.Operand.tmp 368) (Go.Operand.const (Go.Value.string { data := #[] })) 9, type := 4, pos := "more.go:802", after := #[{ on := 20, ground := Go.Ground.data }, { on := 13, ground := Go.Ground.guard }], guard := some (13, true) }) (v := .bool false) rfl (by kernel_rfl) (by kernel_rfl) (by kernel_rfl) (fun _ _ _ h => h) (Or.inl ⟨by kernel_rfl, ?ye21⟩) hHeld ?re21
  case ye21=>(intro w hSw;go_simp;try (first | rfl | simp [h0b] | simp [h1d] | simp [hbe] | simp [hbe,h0b]))
  (try simp only [Act.put,List.setIfInBounds_toArray,List.set_cons_zero,List.set_cons_succ])
  refine wpAnyH_take (i := 22) (oi := { dst := some 370, op := Go.Op.move (Go.Operand.tmp 369), type := 4, pos := "more.go:802", after := #[{ on := 21, ground := Go.Ground.data }, { on := 13, ground := Go.Ground.chain }, { on := 13, ground := Go.Ground.guard }], guard := some (13, true) }) (v := ?ve22) rfl (by kernel_rfl) (by kernel_rfl) (by kernel_rfl) (fun _ _ _ h => h) (Or.inl ⟨by kernel_rfl, ?ye22⟩) hHeld ?re22
  case ye22=>(intro w hSw;go_simp;try rfl)
  (try simp only [Act.put,List.setIfInBounds_toArray,List.set_cons_zero,List.set_cons_succ])
  refine wpAnyH_take (i := 23) (oi := { dst := some 371, op := Go.Op.move (Go.Operand.tmp 1), type := 25, pos := "more.go:802", after := #[{ on := 22, ground := Go.Ground.guard }], guard := some (22, false) }) (v := ?ve23) rfl (by kernel_rfl) (by kernel_rfl) (by kernel_rfl) (fun _ _ _ h => h) (Or.inl ⟨by kernel_rfl, ?ye23⟩) hHeld ?re23
  case ye23=>(intro w hSw;go_simp;try rfl)
  (try simp only [Act.put,List.setIfInBounds_toArray,List.set_cons_zero,List.set_cons_succ])
  refine wpAnyH_take (i := 24) (oi := { dst := some 372, op := Go.Op.fieldAddr 27 (Go.Operand.tmp 5) 1, type := 0, pos := "more.go:802", after := #[{ on := 22, ground := Go.Ground.guard }], guard := some (22, false) }) (v := ?ve24) rfl (by kernel_rfl) (by kernel_rfl) (by kernel_rfl) (fun _ _ _ h => h) (Or.inl ⟨by kernel_rfl, ?ye24⟩) hHeld ?re24
  case ye24=>(intro w hSw;go_simp;try rfl)
  (try simp only [Act.put,List.setIfInBounds_toArray,List.set_cons_zero,List.set_cons_succ])
  refine wpAnyH_take (i := 25) (oi := { dst := some 373, op := Go.Op.load 3 (Go.Operand.tmp 372), type := 3, pos := "more.go:802", after := #[{ on := 24, ground := Go.Ground.data }, { on := 22, ground := Go.Ground.guard }], guard := some (22, false) }) (v := ?ve25) rfl (by kernel_rfl) (by kernel_rfl) (by kernel_rfl) (fun _ _ _ h => h) (Or.inl ⟨by kernel_rfl, ?ye25⟩) hHeld ?re25
  case ye25=>(intro w hSw;go_simp;try rfl)
  (try simp only [Act.put,List.setIfInBounds_toArray,List.set_cons_zero,List.set_cons_succ])
  refine wpAnyH_take (i := 26) (oi := { dst := some 374, op := Go.Op.fieldAddr 27 (Go.Operand.tmp 5) 4, type := 0, pos := "more.go:802", after := #[{ on := 22, ground := Go.Ground.guard }], guard := some (22, false) }) (v := ?ve26) rfl (by kernel_rfl) (by kernel_rfl) (by kernel_rfl) (fun _ _ _ h => h) (Or.inl ⟨by kernel_rfl, ?ye26⟩) hHeld ?re26
  case ye26=>(intro w hSw;go_simp;try rfl)
  (try simp only [Act.put,List.setIfInBounds_toArray,List.set_cons_zero,List.set_cons_succ])
  refine wpAnyH_take (i := 27) (oi := { dst := some 375, op := Go.Op.load 3 (Go.Operand.tmp 374), type := 3, pos := "more.go:802", after := #[{ on := 26, ground := Go.Ground.data }, { on := 22, ground := Go.Ground.guard }], guard := some (22, false) }) (v := ?ve27) rfl (by kernel_rfl) (by kernel_rfl) (by kernel_rfl) (fun _ _ _ h => h) (Or.inl ⟨by kernel_rfl, ?ye27⟩) hHeld ?re27
  case ye27=>(intro w hSw;go_simp;try rfl)
  (try simp only [Act.put,List.setIfInBounds_toArray,List.set_cons_zero,List.set_cons_succ])
  refine wpAnyH_ready (rs:=[28]) (by kernel_rfl) (by simp) ?_
  refine AllReadyH.cons rfl (fun K hK=>?_) AllReadyH.nil
  go_simp
  refine (HCl.out _ (by go_grown)).mono ?_
  rintro e wa ⟨rfl,hba⟩
  have hNa:=onB (W0:=w) (by go_grown) hba
  have hsa:=hNa.size
  clear hba
  dsimp only
  refine hK.out _ _ ((fun hB=>⟨hB,HS.out _ hB⟩) hNa) (fun hHeld=>?_)
  clear hK K
  refine wpAnyH_take (i := 29) (oi := { dst := some 377, op := Go.Op.pick (Go.Operand.tmp 370) (Go.Operand.const (Go.Value.bool true)) (Go.Operand.tmp 376), type := 4, pos := "more.go:802", after := #[{ on := 22, ground := Go.Ground.data }, { on := 28, ground := Go.Ground.data }, { on := 13, ground := Go.Ground.guard }], guard := some (13, true) }) (v := .bool false) rfl (by kernel_rfl) (by kernel_rfl) (by kernel_rfl) (fun _ _ _ h => h) (Or.inl ⟨by kernel_rfl, ?ye29⟩) hHeld ?re29
  case ye29=>(intro w hSw;go_simp;try (first | rfl | simp [h0b] | simp [h1d] | simp [hbe] | simp [hbe,h0b]))
  (try simp only [Act.put,List.setIfInBounds_toArray,List.set_cons_zero,List.set_cons_succ])
  refine wpAnyH_take (i := 30) (oi := { dst := some 378, op := Go.Op.pick (Go.Operand.tmp 361) (Go.Operand.tmp 377) (Go.Operand.const (Go.Value.bool false)), type := 4, pos := "more.go:802", after := #[{ on := 13, ground := Go.Ground.data }, { on := 29, ground := Go.Ground.data }, { on := 9, ground := Go.Ground.guard }], guard := some (9, false) }) (v := .bool false) rfl (by kernel_rfl) (by kernel_rfl) (by kernel_rfl) (fun _ _ _ h => h) (Or.inl ⟨by kernel_rfl, ?ye30⟩) hHeld ?re30
  case ye30=>(intro w hSw;go_simp;try (first | rfl | simp [h0b] | simp [h1d] | simp [hbe] | simp [hbe,h0b]))
  (try simp only [Act.put,List.setIfInBounds_toArray,List.set_cons_zero,List.set_cons_succ])
  refine wpAnyH_take (i := 31) (oi := { dst := some 379, op := Go.Op.pick (Go.Operand.tmp 357) (Go.Operand.const (Go.Value.bool true)) (Go.Operand.tmp 378), type := 4, pos := "more.go:802", after := #[{ on := 9, ground := Go.Ground.data }, { on := 30, ground := Go.Ground.data }], guard := none }) (v := .bool false) rfl (by kernel_rfl) (by kernel_rfl) (by kernel_rfl) (fun _ _ _ h => h) (Or.inl ⟨by kernel_rfl, ?ye31⟩) hHeld ?re31
  case ye31=>(intro w hSw;go_simp;try (first | rfl | simp [h0b] | simp [h1d] | simp [hbe] | simp [hbe,h0b]))
  (try simp only [Act.put,List.setIfInBounds_toArray,List.set_cons_zero,List.set_cons_succ])
  refine wpAnyH_done (by kernel_rfl) ?_ _
  go_wp2_with fail
  refine HJ.out _ _ ⟨rfl,?_⟩ (by rw [HL.out];rfl) (by go_grown)
  rw [←H1.out,←H5.out,←H10.out,←H12.out]
  rfl
 ·have HL:=hid_of (decide_eq_true (p:=(t:Int)=par∨0≤(t:Int)∧(fo.toList.isEmpty=false∨true=true)) (Or.inr ⟨by omega,Or.inr rfl⟩))
  refine wp_region_noPanic ?_
  refine wp_region_held_drew (S:=fun w'=>Below w.heap.size w w'∧w'.cell? ⟨p+1,1,none⟩=some (.int .i64 dm)∧w'.cell? ⟨p+1,4,none⟩=some (.int .i64 (t:Int))∧w'.cell? ⟨q,2,none⟩=some (.slice (some ⟨g,0,none⟩) m C)∧w'.cell? ⟨g,i*4+1,none⟩=some (.int .i64 par)∧w'.cell? ⟨g,t*4+3,none⟩=some (.string fo)) (by kernel_rfl) (by (refine (fun hB=>⟨hB,HS.out _ hB⟩) ?_;go_grown)) (fun hHeld=>?_)
  refine wpAnyH_take (i := 0) (oi := { dst := some 348, op := Go.Op.fieldAddr 27 (Go.Operand.tmp 5) 4, type := 0, pos := "more.go:802", after := #[], guard := none }) (v := ?vf0) rfl (by kernel_rfl) (by kernel_rfl) (by kernel_rfl) (fun _ _ _ h => h) (Or.inl ⟨by kernel_rfl, ?yf0⟩) hHeld ?rf0
  case yf0=>(intro w hSw;go_simp;try rfl)
  (try simp only [Act.put,List.setIfInBounds_toArray,List.set_cons_zero,List.set_cons_succ])
  refine wpAnyH_take (i := 1) (oi := { dst := some 349, op := Go.Op.load 3 (Go.Operand.tmp 348), type := 3, pos := "more.go:802", after := #[{ on := 0, ground := Go.Ground.data }], guard := none }) (v := ?vf1) rfl (by kernel_rfl) (by kernel_rfl) (by kernel_rfl) (fun _ _ _ h => h) (Or.inl ⟨by kernel_rfl, ?yf1⟩) hHeld ?rf1
  case yf1=>(intro w hSw;go_simp;try rfl)
  (try simp only [Act.put,List.setIfInBounds_toArray,List.set_cons_zero,List.set_cons_succ])
  refine wpAnyH_take (i := 2) (oi := { dst := some 350, op := Go.Op.fieldAddr 41 (Go.Operand.tmp 10) 2, type := 0, pos := "more.go:802", after := #[], guard := none }) (v := ?vf2) rfl (by kernel_rfl) (by kernel_rfl) (by kernel_rfl) (fun _ _ _ h => h) (Or.inl ⟨by kernel_rfl, ?yf2⟩) hHeld ?rf2
  case yf2=>(intro w hSw;go_simp;try rfl)
  (try simp only [Act.put,List.setIfInBounds_toArray,List.set_cons_zero,List.set_cons_succ])
  refine wpAnyH_take (i := 3) (oi := { dst := some 351, op := Go.Op.load 39 (Go.Operand.tmp 350), type := 39, pos := "more.go:802", after := #[{ on := 2, ground := Go.Ground.data }], guard := none }) (v := ?vf3) rfl (by kernel_rfl) (by kernel_rfl) (by kernel_rfl) (fun _ _ _ h => h) (Or.inl ⟨by kernel_rfl, ?yf3⟩) hHeld ?rf3
  case yf3=>(intro w hSw;go_simp;try rfl)
  (try simp only [Act.put,List.setIfInBounds_toArray,List.set_cons_zero,List.set_cons_succ])
  refine wpAnyH_take (i := 4) (oi := { dst := some 352, op := Go.Op.move (Go.Operand.tmp 12), type := 3, pos := "more.go:802", after := #[], guard := none }) (v := ?vf4) rfl (by kernel_rfl) (by kernel_rfl) (by kernel_rfl) (fun _ _ _ h => h) (Or.inl ⟨by kernel_rfl, ?yf4⟩) hHeld ?rf4
  case yf4=>(intro w hSw;go_simp;try rfl)
  (try simp only [Act.put,List.setIfInBounds_toArray,List.set_cons_zero,List.set_cons_succ])
  refine wpAnyH_take (i := 5) (oi := { dst := some 353, op := Go.Op.indexAddr 39 (Go.Operand.tmp 351) (Go.Operand.tmp 352), type := 0, pos := "more.go:802", after := #[{ on := 3, ground := Go.Ground.data }, { on := 4, ground := Go.Ground.data }], guard := none }) (v := ?vf5) rfl (by kernel_rfl) (by kernel_rfl) (by kernel_rfl) (fun _ _ _ h => h) (Or.inl ⟨by kernel_rfl, ?yf5⟩) hHeld ?rf5
  case yf5=>(intro w hSw;go_simp;try rfl)
  (try simp only [Act.put,List.setIfInBounds_toArray,List.set_cons_zero,List.set_cons_succ])
  refine wpAnyH_take (i := 6) (oi := { dst := some 354, op := Go.Op.fieldAddr 43 (Go.Operand.tmp 353) 1, type := 0, pos := "more.go:802", after := #[{ on := 5, ground := Go.Ground.data }], guard := none }) (v := ?vf6) rfl (by kernel_rfl) (by kernel_rfl) (by kernel_rfl) (fun _ _ _ h => h) (Or.inl ⟨by kernel_rfl, ?yf6⟩) hHeld ?rf6
  case yf6=>(intro w hSw;go_simp;try rfl)
  (try simp only [Act.put,List.setIfInBounds_toArray,List.set_cons_zero,List.set_cons_succ])
  refine wpAnyH_take (i := 7) (oi := { dst := some 355, op := Go.Op.load 3 (Go.Operand.tmp 354), type := 3, pos := "more.go:802", after := #[{ on := 6, ground := Go.Ground.data }], guard := none }) (v := ?vf7) rfl (by kernel_rfl) (by kernel_rfl) (by kernel_rfl) (fun _ _ _ h => h) (Or.inl ⟨by kernel_rfl, ?yf7⟩) hHeld ?rf7
  case yf7=>(intro w hSw;go_simp;try rfl)
  (try simp only [Act.put,List.setIfInBounds_toArray,List.set_cons_zero,List.set_cons_succ])
  refine wpAnyH_take (i := 8) (oi := { dst := some 356, op := Go.Op.binOp Go.BinOp.eql 3 (Go.Operand.tmp 349) (Go.Operand.tmp 355) 3, type := 4, pos := "more.go:802", after := #[{ on := 1, ground := Go.Ground.data }, { on := 7, ground := Go.Ground.data }], guard := none }) (v := .bool false) rfl (by kernel_rfl) (by kernel_rfl) (by kernel_rfl) (fun _ _ _ h => h) (Or.inl ⟨by kernel_rfl, ?yf8⟩) hHeld ?rf8
  case yf8=>(intro w hSw;go_simp;try (first | rfl | simp [h0b] | simp [h1d] | simp [hbe] | simp [hbe,h0b]))
  (try simp only [Act.put,List.setIfInBounds_toArray,List.set_cons_zero,List.set_cons_succ])
  refine wpAnyH_take (i := 9) (oi := { dst := some 357, op := Go.Op.move (Go.Operand.tmp 356), type := 4, pos := "more.go:802", after := #[{ on := 8, ground := Go.Ground.data }], guard := none }) (v := ?vf9) rfl (by kernel_rfl) (by kernel_rfl) (by kernel_rfl) (fun _ _ _ h => h) (Or.inl ⟨by kernel_rfl, ?yf9⟩) hHeld ?rf9
  case yf9=>(intro w hSw;go_simp;try rfl)
  (try simp only [Act.put,List.setIfInBounds_toArray,List.set_cons_zero,List.set_cons_succ])
  refine wpAnyH_take (i := 10) (oi := { dst := some 358, op := Go.Op.fieldAddr 27 (Go.Operand.tmp 5) 4, type := 0, pos := "more.go:802", after := #[{ on := 9, ground := Go.Ground.guard }], guard := some (9, false) }) (v := ?vf10) rfl (by kernel_rfl) (by kernel_rfl) (by kernel_rfl) (fun _ _ _ h => h) (Or.inl ⟨by kernel_rfl, ?yf10⟩) hHeld ?rf10
  case yf10=>(intro w hSw;go_simp;try rfl)
  (try simp only [Act.put,List.setIfInBounds_toArray,List.set_cons_zero,List.set_cons_succ])
  refine wpAnyH_take (i := 11) (oi := { dst := some 359, op := Go.Op.load 3 (Go.Operand.tmp 358), type := 3, pos := "more.go:802", after := #[{ on := 10, ground := Go.Ground.data }, { on := 9, ground := Go.Ground.guard }], guard := some (9, false) }) (v := ?vf11) rfl (by kernel_rfl) (by kernel_rfl) (by kernel_rfl) (fun _ _ _ h => h) (Or.inl ⟨by kernel_rfl, ?yf11⟩) hHeld ?rf11
  case yf11=>(intro w hSw;go_simp;try rfl)
  (try simp only [Act.put,List.setIfInBounds_toArray,List.set_cons_zero,List.set_cons_succ])
  refine wpAnyH_take (i := 12) (oi := { dst := some 360, op := Go.Op.binOp Go.BinOp.geq 3 (Go.Operand.tmp 359) (Go.Operand.const (Go.Value.int Go.IntKind.i64 0)) 3, type := 4, pos := "more.go:802", after := #[{ on := 11, ground := Go.Ground.data }, { on := 9, ground := Go.Ground.guard }], guard := some (9, false) }) (v := .bool true) rfl (by kernel_rfl) (by kernel_rfl) (by kernel_rfl) (fun _ _ _ h => h) (Or.inl ⟨by kernel_rfl, ?yf12⟩) hHeld ?rf12
  case yf12=>(intro w hSw;go_simp;try (first | rfl | simp [h0b] | simp [h1d] | simp [hbe] | simp [hbe,h0b]))
  (try simp only [Act.put,List.setIfInBounds_toArray,List.set_cons_zero,List.set_cons_succ])
  refine wpAnyH_take (i := 13) (oi := { dst := some 361, op := Go.Op.move (Go.Operand.tmp 360), type := 4, pos := "more.go:802", after := #[{ on := 12, ground := Go.Ground.data }, { on := 9, ground := Go.Ground.chain }, { on := 9, ground := Go.Ground.guard }], guard := some (9, false) }) (v := ?vf13) rfl (by kernel_rfl) (by kernel_rfl) (by kernel_rfl) (fun _ _ _ h => h) (Or.inl ⟨by kernel_rfl, ?yf13⟩) hHeld ?rf13
  case yf13=>(intro w hSw;go_simp;try rfl)
  (try simp only [Act.put,List.setIfInBounds_toArray,List.set_cons_zero,List.set_cons_succ])
  refine wpAnyH_take (i := 14) (oi := { dst := some 362, op := Go.Op.fieldAddr 41 (Go.Operand.tmp 10) 2, type := 0, pos := "more.go:802", after := #[{ on := 13, ground := Go.Ground.guard }], guard := some (13, true) }) (v := ?vf14) rfl (by kernel_rfl) (by kernel_rfl) (by kernel_rfl) (fun _ _ _ h => h) (Or.inl ⟨by kernel_rfl, ?yf14⟩) hHeld ?rf14
  case yf14=>(intro w hSw;go_simp;try rfl)
  (try simp only [Act.put,List.setIfInBounds_toArray,List.set_cons_zero,List.set_cons_succ])
  refine wpAnyH_take (i := 15) (oi := { dst := some 363, op := Go.Op.load 39 (Go.Operand.tmp 362), type := 39, pos := "more.go:802", after := #[{ on := 14, ground := Go.Ground.data }, { on := 13, ground := Go.Ground.guard }], guard := some (13, true) }) (v := ?vf15) rfl (by kernel_rfl) (by kernel_rfl) (by kernel_rfl) (fun _ _ _ h => h) (Or.inl ⟨by kernel_rfl, ?yf15⟩) hHeld ?rf15
  case yf15=>(intro w hSw;go_simp;try rfl)
  (try simp only [Act.put,List.setIfInBounds_toArray,List.set_cons_zero,List.set_cons_succ])
  refine wpAnyH_take (i := 16) (oi := { dst := some 364, op := Go.Op.fieldAddr 27 (Go.Operand.tmp 5) 4, type := 0, pos := "more.go:802", after := #[{ on := 13, ground := Go.Ground.guard }], guard := some (13, true) }) (v := ?vf16) rfl (by kernel_rfl) (by kernel_rfl) (by kernel_rfl) (fun _ _ _ h => h) (Or.inl ⟨by kernel_rfl, ?yf16⟩) hHeld ?rf16
  case yf16=>(intro w hSw;go_simp;try rfl)
  (try simp only [Act.put,List.setIfInBounds_toArray,List.set_cons_zero,List.set_cons_succ])
  refine wpAnyH_take (i := 17) (oi := { dst := some 365, op := Go.Op.load 3 (Go.Operand.tmp 364), type := 3, pos := "more.go:802", after := #[{ on := 16, ground := Go.Ground.data }, { on := 13, ground := Go.Ground.guard }], guard := some (13, true) }) (v := ?vf17) rfl (by kernel_rfl) (by kernel_rfl) (by kernel_rfl) (fun _ _ _ h => h) (Or.inl ⟨by kernel_rfl, ?yf17⟩) hHeld ?rf17
  case yf17=>(intro w hSw;go_simp;try rfl)
  (try simp only [Act.put,List.setIfInBounds_toArray,List.set_cons_zero,List.set_cons_succ])
  refine wpAnyH_take (i := 18) (oi := { dst := some 366, op := Go.Op.indexAddr 39 (Go.Operand.tmp 363) (Go.Operand.tmp 365), type := 0, pos := "more.go:802", after := #[{ on := 15, ground := Go.Ground.data }, { on := 17, ground := Go.Ground.data }, { on := 13, ground := Go.Ground.guard }], guard := some (13, true) }) (v := ?vf18) rfl (by kernel_rfl) (by kernel_rfl) (by kernel_rfl) (fun _ _ _ h => h) (Or.inl ⟨by kernel_rfl, ?yf18⟩) hHeld ?rf18
  case yf18=>(intro w hSw;go_simp;try rfl)
  (try simp only [Act.put,List.setIfInBounds_toArray,List.set_cons_zero,List.set_cons_succ])
  refine wpAnyH_take (i := 19) (oi := { dst := some 367, op := Go.Op.fieldAddr 43 (Go.Operand.tmp 366) 3, type := 0, pos := "more.go:802", after := #[{ on := 18, ground := Go.Ground.data }, { on := 13, ground := Go.Ground.guard }], guard := some (13, true) }) (v := ?vf19) rfl (by kernel_rfl) (by kernel_rfl) (by kernel_rfl) (fun _ _ _ h => h) (Or.inl ⟨by kernel_rfl, ?yf19⟩) hHeld ?rf19
  case yf19=>(intro w hSw;go_simp;try rfl)
  (try simp only [Act.put,List.setIfInBounds_toArray,List.set_cons_zero,List.set_cons_succ])
  refine wpAnyH_take (i := 20) (oi := { dst := some 368, op := Go.Op.load 9 (Go.Operand.tmp 367), type := 9, pos := "more.go:802", after := #[{ on := 19, ground := Go.Ground.data }, { on := 13, ground := Go.Ground.guard }], guard := some (13, true) }) (v := ?vf20) rfl (by kernel_rfl) (by kernel_rfl) (by kernel_rfl) (fun _ _ _ h => h) (Or.inl ⟨by kernel_rfl, ?yf20⟩) hHeld ?rf20
  case yf20=>(intro w hSw;go_simp;try rfl)
  (try simp only [Act.put,List.setIfInBounds_toArray,List.set_cons_zero,List.set_cons_succ])
  refine wpAnyH_take (i := 21) (oi := { dst := some 369, op := Go.Op.binOp Go.BinOp.neq 9 (Go.Operand.tmp 368) (Go.Operand.const (Go.Value.string { data := #[] })) 9, type := 4, pos := "more.go:802", after := #[{ on := 20, ground := Go.Ground.data }, { on := 13, ground := Go.Ground.guard }], guard := some (13, true) }) (v := .bool false) rfl (by kernel_rfl) (by kernel_rfl) (by kernel_rfl) (fun _ _ _ h => h) (Or.inl ⟨by kernel_rfl, ?yf21⟩) hHeld ?rf21
  case yf21=>(intro w hSw;go_simp;try (first | rfl | simp [h0b] | simp [h1d] | simp [hbe] | simp [hbe,h0b]))
  (try simp only [Act.put,List.setIfInBounds_toArray,List.set_cons_zero,List.set_cons_succ])
  refine wpAnyH_take (i := 22) (oi := { dst := some 370, op := Go.Op.move (Go.Operand.tmp 369), type := 4, pos := "more.go:802", after := #[{ on := 21, ground := Go.Ground.data }, { on := 13, ground := Go.Ground.chain }, { on := 13, ground := Go.Ground.guard }], guard := some (13, true) }) (v := ?vf22) rfl (by kernel_rfl) (by kernel_rfl) (by kernel_rfl) (fun _ _ _ h => h) (Or.inl ⟨by kernel_rfl, ?yf22⟩) hHeld ?rf22
  case yf22=>(intro w hSw;go_simp;try rfl)
  (try simp only [Act.put,List.setIfInBounds_toArray,List.set_cons_zero,List.set_cons_succ])
  refine wpAnyH_take (i := 23) (oi := { dst := some 371, op := Go.Op.move (Go.Operand.tmp 1), type := 25, pos := "more.go:802", after := #[{ on := 22, ground := Go.Ground.guard }], guard := some (22, false) }) (v := ?vf23) rfl (by kernel_rfl) (by kernel_rfl) (by kernel_rfl) (fun _ _ _ h => h) (Or.inl ⟨by kernel_rfl, ?yf23⟩) hHeld ?rf23
  case yf23=>(intro w hSw;go_simp;try rfl)
  (try simp only [Act.put,List.setIfInBounds_toArray,List.set_cons_zero,List.set_cons_succ])
  refine wpAnyH_take (i := 24) (oi := { dst := some 372, op := Go.Op.fieldAddr 27 (Go.Operand.tmp 5) 1, type := 0, pos := "more.go:802", after := #[{ on := 22, ground := Go.Ground.guard }], guard := some (22, false) }) (v := ?vf24) rfl (by kernel_rfl) (by kernel_rfl) (by kernel_rfl) (fun _ _ _ h => h) (Or.inl ⟨by kernel_rfl, ?yf24⟩) hHeld ?rf24
  case yf24=>(intro w hSw;go_simp;try rfl)
  (try simp only [Act.put,List.setIfInBounds_toArray,List.set_cons_zero,List.set_cons_succ])
  refine wpAnyH_take (i := 25) (oi := { dst := some 373, op := Go.Op.load 3 (Go.Operand.tmp 372), type := 3, pos := "more.go:802", after := #[{ on := 24, ground := Go.Ground.data }, { on := 22, ground := Go.Ground.guard }], guard := some (22, false) }) (v := ?vf25) rfl (by kernel_rfl) (by kernel_rfl) (by kernel_rfl) (fun _ _ _ h => h) (Or.inl ⟨by kernel_rfl, ?yf25⟩) hHeld ?rf25
  case yf25=>(intro w hSw;go_simp;try rfl)
  (try simp only [Act.put,List.setIfInBounds_toArray,List.set_cons_zero,List.set_cons_succ])
  refine wpAnyH_take (i := 26) (oi := { dst := some 374, op := Go.Op.fieldAddr 27 (Go.Operand.tmp 5) 4, type := 0, pos := "more.go:802", after := #[{ on := 22, ground := Go.Ground.guard }], guard := some (22, false) }) (v := ?vf26) rfl (by kernel_rfl) (by kernel_rfl) (by kernel_rfl) (fun _ _ _ h => h) (Or.inl ⟨by kernel_rfl, ?yf26⟩) hHeld ?rf26
  case yf26=>(intro w hSw;go_simp;try rfl)
  (try simp only [Act.put,List.setIfInBounds_toArray,List.set_cons_zero,List.set_cons_succ])
  refine wpAnyH_take (i := 27) (oi := { dst := some 375, op := Go.Op.load 3 (Go.Operand.tmp 374), type := 3, pos := "more.go:802", after := #[{ on := 26, ground := Go.Ground.data }, { on := 22, ground := Go.Ground.guard }], guard := some (22, false) }) (v := ?vf27) rfl (by kernel_rfl) (by kernel_rfl) (by kernel_rfl) (fun _ _ _ h => h) (Or.inl ⟨by kernel_rfl, ?yf27⟩) hHeld ?rf27
  case yf27=>(intro w hSw;go_simp;try rfl)
  (try simp only [Act.put,List.setIfInBounds_toArray,List.set_cons_zero,List.set_cons_succ])
  refine wpAnyH_ready (rs:=[28]) (by kernel_rfl) (by simp) ?_
  refine AllReadyH.cons rfl (fun K hK=>?_) AllReadyH.nil
  go_simp
  refine (HCl.out _ (by go_grown)).mono ?_
  rintro e wa ⟨rfl,hba⟩
  have hNa:=onB (W0:=w) (by go_grown) hba
  have hsa:=hNa.size
  clear hba
  dsimp only
  refine hK.out _ _ ((fun hB=>⟨hB,HS.out _ hB⟩) hNa) (fun hHeld=>?_)
  clear hK K
  refine wpAnyH_take (i := 29) (oi := { dst := some 377, op := Go.Op.pick (Go.Operand.tmp 370) (Go.Operand.const (Go.Value.bool true)) (Go.Operand.tmp 376), type := 4, pos := "more.go:802", after := #[{ on := 22, ground := Go.Ground.data }, { on := 28, ground := Go.Ground.data }, { on := 13, ground := Go.Ground.guard }], guard := some (13, true) }) (v := .bool true) rfl (by kernel_rfl) (by kernel_rfl) (by kernel_rfl) (fun _ _ _ h => h) (Or.inl ⟨by kernel_rfl, ?yf29⟩) hHeld ?rf29
  case yf29=>(intro w hSw;go_simp;try (first | rfl | simp [h0b] | simp [h1d] | simp [hbe] | simp [hbe,h0b]))
  (try simp only [Act.put,List.setIfInBounds_toArray,List.set_cons_zero,List.set_cons_succ])
  refine wpAnyH_take (i := 30) (oi := { dst := some 378, op := Go.Op.pick (Go.Operand.tmp 361) (Go.Operand.tmp 377) (Go.Operand.const (Go.Value.bool false)), type := 4, pos := "more.go:802", after := #[{ on := 13, ground := Go.Ground.data }, { on := 29, ground := Go.Ground.data }, { on := 9, ground := Go.Ground.guard }], guard := some (9, false) }) (v := .bool true) rfl (by kernel_rfl) (by kernel_rfl) (by kernel_rfl) (fun _ _ _ h => h) (Or.inl ⟨by kernel_rfl, ?yf30⟩) hHeld ?rf30
  case yf30=>(intro w hSw;go_simp;try (first | rfl | simp [h0b] | simp [h1d] | simp [hbe] | simp [hbe,h0b]))
  (try simp only [Act.put,List.setIfInBounds_toArray,List.set_cons_zero,List.set_cons_succ])
  refine wpAnyH_take (i := 31) (oi := { dst := some 379, op := Go.Op.pick (Go.Operand.tmp 357) (Go.Operand.const (Go.Value.bool true)) (Go.Operand.tmp 378), type := 4, pos := "more.go:802", after := #[{ on := 9, ground := Go.Ground.data }, { on := 30, ground := Go.Ground.data }], guard := none }) (v := .bool true) rfl (by kernel_rfl) (by kernel_rfl) (by kernel_rfl) (fun _ _ _ h => h) (Or.inl ⟨by kernel_rfl, ?yf31⟩) hHeld ?rf31
  case yf31=>(intro w hSw;go_simp;try (first | rfl | simp [h0b] | simp [h1d] | simp [hbe] | simp [hbe,h0b]))
  (try simp only [Act.put,List.setIfInBounds_toArray,List.set_cons_zero,List.set_cons_succ])
  refine wpAnyH_done (by kernel_rfl) ?_ _
  go_wp2_with fail
  refine HJ.out _ _ ⟨rfl,?_⟩ (by rw [HL.out];rfl) (by go_grown)
  rw [←H1.out,←H5.out,←H10.out,←H12.out]
  rfl
end Go.Proofs.YtfldgghobddgkaaGreatDoor
