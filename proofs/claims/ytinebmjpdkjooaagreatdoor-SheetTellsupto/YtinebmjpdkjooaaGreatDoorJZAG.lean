/-
  tallyref2.ReadSheet, region by region: returns, appends, calls.
-/
import Derived.Deep.QuietTactic
import Derived.Test.YtinebmjpdkjooaaGreatDoorJZAF
namespace Go.Proofs.YtinebmjpdkjooaaGreatDoor
open Go Go.ChangeShapes Go.WideShapes Go.ChangeAt Go.RowKit
set_option maxRecDepth 1000000
set_option maxHeartbeats 64000000
theorem plain_addK (b j:Nat):(⟨b,0,none⟩:Addr).add j=⟨b,j,none⟩:=by unfold Addr.add;split <;> simp_all
theorem own_formK {w:World} {base e size n:Nat} {v:Value} {xs:List Value} (h:w.ownsRow base e size v n xs):∃ A cap,v=.slice A n cap:=by
 rcases h.2 with ⟨rfl,h0⟩ | ⟨g,cap,cur,rfl,_⟩
 ·exact ⟨none,0,by rw [h0]⟩
 ·exact ⟨_,_,rfl⟩
theorem Tryz.infoStrK:(Tryz.prog.info? 9).map (fun i=>(i.zero,i.size,i.bytes))=some (some (.string ⟨#[]⟩),1,16):=by kernel_rfl
theorem Tryz.infoIntK:(Tryz.prog.info? 3).map (fun i=>(i.zero,i.size,i.bytes))=some (some (.int .i64 0),1,8):=by kernel_rfl
theorem rsR53 (T:Array Value) (s:Nat→Value) (q:Nat) (x:Value) (v:Value) (w:World) (hF:rsF T s) (h2:s 2=.pointer (some ⟨q,0,none⟩)) (h12:s 12=v) (hq:w.heap[q]?=some (.cells #[x] 24 (0,0)))  (J Rt:Act→World→Prop)
  (hJ:∀ T',rsF T' (upG (upG (upG s 3 (.slice none 0 0)) 4 v) 5 (.int .i64 2))→Rt ⟨T',[]⟩ (w.setCell ⟨q,0,none⟩ (.slice none 0 0))):Code.wp Tryz.prog (rsC [1,1,1,1,1,1,1,0,1,3,4,1,0,3,1,1,1,1,2]) (Exit.then J (QR Rt)) ⟨T,[]⟩ w:=by
 obtain ⟨xF,rfl⟩:=rs_open hF
 unfold rsL
 rw [h2,h12]
 have HJ:=hid_of hJ
 have H2:=hid_of h2
 have H12:=hid_of h12
 clear hJ hF h2 h12
 have a1:w.cell? ⟨q,0,none⟩=some x:=(Lib.cell_of_heap hq 0).trans rfl
 have a2:w.frozen? ⟨q,0,none⟩=false:=by simp [World.frozen?,hq]
 clear hq
 conv=>arg 2;whnf
 go_wp2_with fail
 show Rt _ _
 refine HJ.out _ ⟨rfl,?_⟩ 
 rw [←H2.out,←H12.out]
 rfl
theorem rsR55 (T:Array Value) (s:Nat→Value) (q:Nat) (x:Value) (v:Value) (w:World) (hF:rsF T s) (h2:s 2=.pointer (some ⟨q,0,none⟩)) (h11:s 11=v) (hq:w.heap[q]?=some (.cells #[x] 24 (0,0)))  (J Rt:Act→World→Prop)
  (hJ:∀ T',rsF T' (upG (upG (upG s 3 (.slice none 0 0)) 4 v) 5 (.int .i64 2))→Rt ⟨T',[]⟩ (w.setCell ⟨q,0,none⟩ (.slice none 0 0))):Code.wp Tryz.prog (rsC [1,1,1,1,1,1,1,1,0,1,2]) (Exit.then J (QR Rt)) ⟨T,[]⟩ w:=by
 obtain ⟨xF,rfl⟩:=rs_open hF
 unfold rsL
 rw [h2,h11]
 have HJ:=hid_of hJ
 have H2:=hid_of h2
 have H11:=hid_of h11
 clear hJ hF h2 h11
 have a1:w.cell? ⟨q,0,none⟩=some x:=(Lib.cell_of_heap hq 0).trans rfl
 have a2:w.frozen? ⟨q,0,none⟩=false:=by simp [World.frozen?,hq]
 clear hq
 conv=>arg 2;whnf
 go_wp2_with fail
 show Rt _ _
 refine HJ.out _ ⟨rfl,?_⟩ 
 rw [←H2.out,←H11.out]
 rfl
theorem rsR58 (T:Array Value) (s:Nat→Value) (q:Nat) (x:Value) (v:Value) (w:World) (hF:rsF T s) (h2:s 2=.pointer (some ⟨q,0,none⟩)) (h28:s 28=v) (hq:w.heap[q]?=some (.cells #[x] 24 (0,0)))  (J Rt:Act→World→Prop)
  (hJ:∀ T',rsF T' (upG (upG (upG s 3 (.slice none 0 0)) 4 (.int .i64 0)) 5 v)→Rt ⟨T',[]⟩ (w.setCell ⟨q,0,none⟩ (.slice none 0 0))):Code.wp Tryz.prog (rsC [1,1,1,1,1,1,1,1,1,1,0,1,2]) (Exit.then J (QR Rt)) ⟨T,[]⟩ w:=by
 obtain ⟨xF,rfl⟩:=rs_open hF
 unfold rsL
 rw [h2,h28]
 have HJ:=hid_of hJ
 have H2:=hid_of h2
 have H28:=hid_of h28
 clear hJ hF h2 h28
 have a1:w.cell? ⟨q,0,none⟩=some x:=(Lib.cell_of_heap hq 0).trans rfl
 have a2:w.frozen? ⟨q,0,none⟩=false:=by simp [World.frozen?,hq]
 clear hq
 conv=>arg 2;whnf
 go_wp2_with fail
 show Rt _ _
 refine HJ.out _ ⟨rfl,?_⟩ 
 rw [←H2.out,←H28.out]
 rfl
theorem rsR69 (T:Array Value) (s:Nat→Value) (q:Nat) (x:Value) (v:Value) (w:World) (hF:rsF T s) (h2:s 2=.pointer (some ⟨q,0,none⟩)) (h28:s 28=v) (hq:w.heap[q]?=some (.cells #[x] 24 (0,0)))  (J Rt:Act→World→Prop)
  (hJ:∀ T',rsF T' (upG (upG (upG s 3 (.slice none 0 0)) 4 (.int .i64 0)) 5 v)→Rt ⟨T',[]⟩ (w.setCell ⟨q,0,none⟩ (.slice none 0 0))):Code.wp Tryz.prog (rsC [1,1,1,1,1,1,1,1,1,1,1,1,1,1,0,1,2]) (Exit.then J (QR Rt)) ⟨T,[]⟩ w:=by
 obtain ⟨xF,rfl⟩:=rs_open hF
 unfold rsL
 rw [h2,h28]
 have HJ:=hid_of hJ
 have H2:=hid_of h2
 have H28:=hid_of h28
 clear hJ hF h2 h28
 have a1:w.cell? ⟨q,0,none⟩=some x:=(Lib.cell_of_heap hq 0).trans rfl
 have a2:w.frozen? ⟨q,0,none⟩=false:=by simp [World.frozen?,hq]
 clear hq
 conv=>arg 2;whnf
 go_wp2_with fail
 show Rt _ _
 refine HJ.out _ ⟨rfl,?_⟩ 
 rw [←H2.out,←H28.out]
 rfl
theorem rsR65 (T:Array Value) (s:Nat→Value) (q:Nat) (x:Value) (a b:Nat) (v:Value) (w:World) (hF:rsF T s) (h2:s 2=.pointer (some ⟨q,0,none⟩)) (h9:s 9=.int .i64 (a:Nat)) (h30:s 30=.int .i64 (b:Nat)) (h32:s 32=v) (hq:w.heap[q]?=some (.cells #[x] 24 (0,0))) (hb:a+b≤4611686018427387904) (J Rt:Act→World→Prop)
  (hJ:∀ T',rsF T' (upG (upG (upG s 3 (.slice none 0 0)) 4 (.int .i64 (a+b:Nat))) 5 v)→Rt ⟨T',[]⟩ (w.setCell ⟨q,0,none⟩ (.slice none 0 0))):Code.wp Tryz.prog (rsC [1,1,1,1,1,1,1,1,1,1,1,1,0,1,3,4,1,0,3,1,0,1,2]) (Exit.then J (QR Rt)) ⟨T,[]⟩ w:=by
 obtain ⟨xF,rfl⟩:=rs_open hF
 unfold rsL
 rw [h2,h9,h30,h32]
 have HJ:=hid_of hJ
 have H2:=hid_of h2
 have H9:=hid_of h9
 have H30:=hid_of h30
 have H32:=hid_of h32
 clear hJ hF h2 h9 h30 h32
 have a1:w.cell? ⟨q,0,none⟩=some x:=(Lib.cell_of_heap hq 0).trans rfl
 have a2:w.frozen? ⟨q,0,none⟩=false:=by simp [World.frozen?,hq]
 clear hq
 have hab:(a:Int)+(b:Int)≤9223372036854775807:=by omega
 conv=>arg 2;whnf
 go_wp2_with fail
 show Rt _ _
 refine HJ.out _ ⟨rfl,?_⟩ 
 rw [←H2.out,←H9.out,←H30.out,←H32.out]
 rfl
theorem rsL54 (T:Array Value) (s:Nat→Value) (gl m c k:Nat) (t:ByteArray) (w:World) (hF:rsF T s) (h10:s 10=.slice (some ⟨gl,0,none⟩) m c) (h11:s 11=.int .i64 (k:Nat)) (hk:k<m) (ht:w.cell? ⟨gl,k,none⟩=some (.string t)) (J:Act→World→Prop) (Q:Exit→Act→World→Prop)
  (hJ:∀ T',rsF T' s→Act.eval ⟨T',[]⟩ (.tmp 253)=.bool (!t.toList.isEmpty)→J ⟨T',[]⟩ w):Code.wp Tryz.prog (rsC [1,1,1,1,1,1,1,1,0,0]) (Exit.then J Q) ⟨T,[]⟩ w:=by
 obtain ⟨xF,rfl⟩:=rs_open hF
 unfold rsL
 rw [h10,h11]
 have HJ:=hid_of hJ
 have H10:=hid_of h10
 have H11:=hid_of h11
 clear hJ hF h10 h11
 conv=>arg 2;whnf
 cases hb:t.toList.isEmpty
 ·go_wp2_with fail
  refine HJ.out _ ⟨rfl,?_⟩ (by rw [hb];rfl)
  rw [←H10.out,←H11.out]
  rfl
 ·have hb2:t.toList=[]:=List.isEmpty_iff.1 hb
  go_wp2_with fail
  refine HJ.out _ ⟨rfl,?_⟩ (by rw [hb];rfl)
  rw [←H10.out,←H11.out]
  rfl
theorem rsL57 (T:Array Value) (s:Nat→Value) (E:Int) (w:World) (hF:rsF T s) (h28:s 28=.int .i64 E)  (J:Act→World→Prop) (Q:Exit→Act→World→Prop)
  (hJ:∀ T',rsF T' s→Act.eval ⟨T',[]⟩ (.tmp 259)=.bool (!decide (E=0))→J ⟨T',[]⟩ w):Code.wp Tryz.prog (rsC [1,1,1,1,1,1,1,1,1,1,0,0]) (Exit.then J Q) ⟨T,[]⟩ w:=by
 obtain ⟨xF,rfl⟩:=rs_open hF
 unfold rsL
 rw [h28]
 have HJ:=hid_of hJ
 have H28:=hid_of h28
 clear hJ hF h28
 conv=>arg 2;whnf
 by_cases hz:E=0
 ·have hzt:(E != 0)=false:=by simp [hz]
  have HZ:=hid_of (decide_eq_true hz)
  clear hz
  go_wp2_with fail
  refine HJ.out _ ⟨rfl,?_⟩ (by rw [HZ.out];rfl)
  rw [←H28.out]
  rfl
 ·have hzt:(E != 0)=true:=by simpa using hz
  have HZ:=hid_of (decide_eq_false hz)
  clear hz
  go_wp2_with fail
  refine HJ.out _ ⟨rfl,?_⟩ (by rw [HZ.out];rfl)
  rw [←H28.out]
  rfl
theorem rsL64 (T:Array Value) (s:Nat→Value) (E:Int) (w:World) (hF:rsF T s) (h32:s 32=.int .i64 E)  (J:Act→World→Prop) (Q:Exit→Act→World→Prop)
  (hJ:∀ T',rsF T' s→Act.eval ⟨T',[]⟩ (.tmp 278)=.bool (!decide (E=0))→J ⟨T',[]⟩ w):Code.wp Tryz.prog (rsC [1,1,1,1,1,1,1,1,1,1,1,1,0,1,3,4,1,0,3,1,0,0]) (Exit.then J Q) ⟨T,[]⟩ w:=by
 obtain ⟨xF,rfl⟩:=rs_open hF
 unfold rsL
 rw [h32]
 have HJ:=hid_of hJ
 have H32:=hid_of h32
 clear hJ hF h32
 conv=>arg 2;whnf
 by_cases hz:E=0
 ·have hzt:(E != 0)=false:=by simp [hz]
  have HZ:=hid_of (decide_eq_true hz)
  clear hz
  go_wp2_with fail
  refine HJ.out _ ⟨rfl,?_⟩ (by rw [HZ.out];rfl)
  rw [←H32.out]
  rfl
 ·have hzt:(E != 0)=true:=by simpa using hz
  have HZ:=hid_of (decide_eq_false hz)
  clear hz
  go_wp2_with fail
  refine HJ.out _ ⟨rfl,?_⟩ (by rw [HZ.out];rfl)
  rw [←H32.out]
  rfl
theorem rsL68 (T:Array Value) (s:Nat→Value) (E:Int) (w:World) (hF:rsF T s) (h28:s 28=.int .i64 E)  (J:Act→World→Prop) (Q:Exit→Act→World→Prop)
  (hJ:∀ T',rsF T' s→Act.eval ⟨T',[]⟩ (.tmp 297)=.bool (!decide (E=0))→J ⟨T',[]⟩ w):Code.wp Tryz.prog (rsC [1,1,1,1,1,1,1,1,1,1,1,1,1,1,0,0]) (Exit.then J Q) ⟨T,[]⟩ w:=by
 obtain ⟨xF,rfl⟩:=rs_open hF
 unfold rsL
 rw [h28]
 have HJ:=hid_of hJ
 have H28:=hid_of h28
 clear hJ hF h28
 conv=>arg 2;whnf
 by_cases hz:E=0
 ·have hzt:(E != 0)=false:=by simp [hz]
  have HZ:=hid_of (decide_eq_true hz)
  clear hz
  go_wp2_with fail
  refine HJ.out _ ⟨rfl,?_⟩ (by rw [HZ.out];rfl)
  rw [←H28.out]
  rfl
 ·have hzt:(E != 0)=true:=by simpa using hz
  have HZ:=hid_of (decide_eq_false hz)
  clear hz
  go_wp2_with fail
  refine HJ.out _ ⟨rfl,?_⟩ (by rw [HZ.out];rfl)
  rw [←H28.out]
  rfl
theorem rsL56 (T:Array Value) (s:Nat→Value) (q:Nat) (so:Value) (X:Value→World→Prop) (w:World) (hF:rsF T s) (h6:s 6=.pointer (some ⟨q,0,none⟩)) (hq:w.cell? ⟨q,0,none⟩=some so) (hcall:Calls Tryz.prog 12 #[.agg #[so]] w fun e w' => ∃ v,e=.returned v∧X v w') (J:Act→World→Prop) (Q:Exit→Act→World→Prop)
  (hJ:∀ T' v w',rsF T' (upG s 28 v)→X v w'→J ⟨T',[]⟩ w'):Code.wp Tryz.prog (rsC [1,1,1,1,1,1,1,1,1,0]) (Exit.then J Q) ⟨T,[]⟩ w:=by
 obtain ⟨xF,rfl⟩:=rs_open hF
 unfold rsL
 rw [h6]
 have HJ:=hid_of hJ
 have H6:=hid_of h6
 clear hJ hF h6
 conv=>arg 2;whnf
 go_wp2_with fail
 refine hcall.mono ?_
 rintro e w1 ⟨v,rfl,hX⟩
 have HX:=hid_of hX
 clear hcall hX
 go_wp2_with fail
 refine HJ.out _ v w1 ⟨rfl,?_⟩ HX.out
 rw [←H6.out]
 rfl
theorem rsL67 (T:Array Value) (s:Nat→Value) (q:Nat) (so vl:Value) (X:Value→World→Prop) (w:World) (hF:rsF T s) (h6:s 6=.pointer (some ⟨q,0,none⟩)) (h29:s 29=vl) (hq:w.cell? ⟨q,0,none⟩=some so) (hcall:Calls Tryz.prog 13 #[.agg #[so],vl] w fun e w' => ∃ v,e=.returned v∧X v w') (J:Act→World→Prop) (Q:Exit→Act→World→Prop)
  (hJ:∀ T' v w',rsF T' (upG s 28 v)→X v w'→J ⟨T',[]⟩ w'):Code.wp Tryz.prog (rsC [1,1,1,1,1,1,1,1,1,1,1,1,1,0]) (Exit.then J Q) ⟨T,[]⟩ w:=by
 obtain ⟨xF,rfl⟩:=rs_open hF
 unfold rsL
 rw [h6,h29]
 have HJ:=hid_of hJ
 have H6:=hid_of h6
 have H29:=hid_of h29
 clear hJ hF h6 h29
 conv=>arg 2;whnf
 go_wp2_with fail
 refine hcall.mono ?_
 rintro e w1 ⟨v,rfl,hX⟩
 have HX:=hid_of hX
 clear hcall hX
 go_wp2_with fail
 refine HJ.out _ v w1 ⟨rfl,?_⟩ HX.out
 rw [←H6.out,←H29.out]
 rfl
theorem rsL59 (T:Array Value) (s:Nat→Value)  (w:World) (hF:rsF T s)   (J:Act→World→Prop) (Q:Exit→Act→World→Prop)
  (hJ:∀ T',rsF T' (upG s 29 (.slice none 0 0))→J ⟨T',[]⟩ w):Code.wp Tryz.prog (rsC [1,1,1,1,1,1,1,1,1,1,1,0]) (Exit.then J Q) ⟨T,[]⟩ w:=by
 obtain ⟨xF,rfl⟩:=rs_open hF
 unfold rsL
 have HJ:=hid_of hJ
 clear hJ hF 
 conv=>arg 2;whnf
 go_wp2_with fail
 refine HJ.out _ ⟨rfl,?_⟩ 
 rfl
theorem rsL60 (T:Array Value) (s:Nat→Value)  (w:World) (hF:rsF T s)   (J:Act→World→Prop) (Q:Exit→Act→World→Prop)
  (hJ:∀ T',rsF T' (upG s 30 (.int .i64 0))→J ⟨T',[]⟩ w):Code.wp Tryz.prog (rsC [1,1,1,1,1,1,1,1,1,1,1,1,0,0]) (Exit.then J Q) ⟨T,[]⟩ w:=by
 obtain ⟨xF,rfl⟩:=rs_open hF
 unfold rsL
 have HJ:=hid_of hJ
 clear hJ hF 
 conv=>arg 2;whnf
 go_wp2_with fail
 refine HJ.out _ ⟨rfl,?_⟩ 
 rfl
theorem rsL62 (T:Array Value) (s:Nat→Value) (k:Nat) (w:World) (hF:rsF T s) (h30:s 30=.int .i64 (k:Nat)) (hk:k≤4611686018427387904) (J:Act→World→Prop) (Q:Exit→Act→World→Prop)
  (hJ:∀ T',rsF T' (upG s 30 (.int .i64 (k+1:Nat)))→J ⟨T',[]⟩ w):Code.wp Tryz.prog (rsC [1,1,1,1,1,1,1,1,1,1,1,1,0,1,3,4,1,1]) (Exit.then J Q) ⟨T,[]⟩ w:=by
 obtain ⟨xF,rfl⟩:=rs_open hF
 unfold rsL
 rw [h30]
 have HJ:=hid_of hJ
 have H30:=hid_of h30
 clear hJ hF h30
 conv=>arg 2;whnf
 have h1:(k:Int)+1≤9223372036854775807:=by omega
 go_wp2_with fail
 refine HJ.out _ ⟨rfl,?_⟩ 
 rfl
theorem rsL61 (T:Array Value) (s:Nat→Value) (k m cm:Nat) (Am:Option Addr) (w:World) (hF:rsF T s) (h7:s 7=.slice Am m cm) (h30:s 30=.int .i64 (k:Nat))  (J:Act→World→Prop) (Q:Exit→Act→World→Prop)
  (hJ:∀ T',rsF T' s→Act.eval ⟨T',[]⟩ (.tmp 265)=.bool (decide (k<m))→J ⟨T',[]⟩ w):Code.wp Tryz.prog (rsC [1,1,1,1,1,1,1,1,1,1,1,1,0,1,3,4,0,0]) (Exit.then J Q) ⟨T,[]⟩ w:=by
 obtain ⟨xF,rfl⟩:=rs_open hF
 unfold rsL
 rw [h7,h30]
 have HJ:=hid_of hJ
 have H7:=hid_of h7
 have H30:=hid_of h30
 clear hJ hF h7 h30
 conv=>arg 2;whnf
 by_cases hlt:k<m
 ·have h1:(k:Int)<(m:Int):=by omega
  go_wp2_with fail
  refine HJ.out _ ⟨rfl,?_⟩ (by rw [decide_eq_true hlt];rfl)
  rw [←H7.out,←H30.out]
  rfl
 ·have h1 : ¬ (k:Int)<(m:Int):=by omega
  go_wp2_with fail
  refine HJ.out _ ⟨rfl,?_⟩ (by rw [decide_eq_false hlt];rfl)
  rw [←H7.out,←H30.out]
  rfl
theorem rsL50 (T:Array Value) (s:Nat→Value) (base n:Nat) (v:Value) (xs:List Value) (gw nw cw:Nat) (w1:ByteArray) (w:World) (hF:rsF T s) (h7:s 7=v) (h13:s 13=.slice (some ⟨gw,0,none⟩) nw cw) (hO:w.ownsRow base 9 1 v n xs) (hb:base≤w.heap.size) (hn:n≤1048577) (hn1:1<nw) (hw1:w.cell? ⟨gw,1,none⟩=some (.string w1)) (J:Act→World→Prop) (Q:Exit→Act→World→Prop)
  (hJ:∀ T' v' w',rsF T' (upG s 7 v')→w'.ownsRow base 9 1 v' (n+1) (xs ++ [.string w1])→Kept w.heap.size (fun b=>v.ownBlock=some b) w w'→J ⟨T',[]⟩ w'):Code.wp Tryz.prog (rsC [1,1,1,1,1,1,1,0,1,3,4,1,0,3,1,1,0,1,5,1,5,1,2,1,1,1,1,1,0]) (Exit.then J Q) ⟨T,[]⟩ w:=by
 obtain ⟨xF,rfl⟩:=rs_open hF
 unfold rsL
 rw [h7,h13]
 have HJ:=hid_of hJ
 have H7:=hid_of h7
 have H13:=hid_of h13
 clear hJ hF h7 h13
 obtain ⟨i0,hi0,hz0,hz1,hz2⟩:=info_parts Tryz.infoStrK
 obtain ⟨A1,c1,rfl⟩:=own_formK hO
 have HO:=hid_of hO
 clear hO
 conv=>arg 2;whnf
 go_wp2_with (at_builtin;refine wpList_append_own _ rfl _ _ 67 rfl base 9 i0 (.string ⟨#[]⟩) 1 16 Tryz.underlying67 hi0 hz0 hz1 hz2 rfl (by decide) _ _ _ rfl (HO.out.alloc _) ⟨w.heap.size,0,none⟩ 1 1 [.string w1] rfl rfl ?qe2 ?qe3 ?qe4 ?qe5 ?qe6 ?_)
 case qe2 =>
  intro j u hj
  rw [plain_addK,Lib.cell_of_heap (heap_alloc_new w (.cells #[.string w1] 9))]
  simpa using hj
 case qe3=>intro u hu;rw [List.mem_singleton.1 hu];rfl
 case qe4=>simp only [maxLen];omega
 case qe5=>omega
 case qe6=>simp;omega
 intro v' w8 hown' hgrow hnil
 have HG:Hid (Kept w.heap.size (fun b=>(Value.slice A1 n c1).ownBlock=some b) w w8):=⟨hgrow.os,hgrow.tape,hgrow.output,by have:=hgrow.size;simp at this;omega,fun i hi hx=>by rw [hgrow.block i (by simp;omega) (fun e=>hx e.symm),Below.heap_alloc _ _ _ (by omega)]⟩
 have HO8:=hid_of hown'
 clear hown' hgrow hnil
 go_wp2_with fail
 refine HJ.out _ v' w8 ⟨rfl,?_⟩ HO8.out HG.out
 rw [←H13.out]
 rfl
theorem rsL51 (T:Array Value) (s:Nat→Value) (base n:Nat) (v:Value) (xs:List Value) (x:Int) (w:World) (hF:rsF T s) (h8:s 8=v) (h23:s 23=.int .i64 x) (hO:w.ownsRow base 3 1 v n xs) (hb:base≤w.heap.size) (hn:n≤1048577)  (J:Act→World→Prop) (Q:Exit→Act→World→Prop)
  (hJ:∀ T' v' w',rsF T' (upG s 8 v')→w'.ownsRow base 3 1 v' (n+1) (xs ++ [.int .i64 x])→Kept w.heap.size (fun b=>v.ownBlock=some b) w w'→J ⟨T',[]⟩ w'):Code.wp Tryz.prog (rsC [1,1,1,1,1,1,1,0,1,3,4,1,0,3,1,1,0,1,5,1,5,1,2,1,1,1,1,1,1]) (Exit.then J Q) ⟨T,[]⟩ w:=by
 obtain ⟨xF,rfl⟩:=rs_open hF
 unfold rsL
 rw [h8,h23]
 have HJ:=hid_of hJ
 have H8:=hid_of h8
 have H23:=hid_of h23
 clear hJ hF h8 h23
 obtain ⟨i0,hi0,hz0,hz1,hz2⟩:=info_parts Tryz.infoIntK
 obtain ⟨A1,c1,rfl⟩:=own_formK hO
 have HO:=hid_of hO
 clear hO
 conv=>arg 2;whnf
 go_wp2_with (at_builtin;refine wpList_append_own _ rfl _ _ 48 rfl base 3 i0 (.int .i64 0) 1 8 Tryz.underlying48 hi0 hz0 hz1 hz2 rfl (by decide) _ _ _ rfl (HO.out.alloc _) ⟨w.heap.size,0,none⟩ 1 1 [.int .i64 x] rfl rfl ?qe2 ?qe3 ?qe4 ?qe5 ?qe6 ?_)
 case qe2 =>
  intro j u hj
  rw [plain_addK,Lib.cell_of_heap (heap_alloc_new w (.cells #[.int .i64 x] 3))]
  simpa using hj
 case qe3=>intro u hu;rw [List.mem_singleton.1 hu];rfl
 case qe4=>simp only [maxLen];omega
 case qe5=>omega
 case qe6=>simp;omega
 intro v' w8 hown' hgrow hnil
 have HG:Hid (Kept w.heap.size (fun b=>(Value.slice A1 n c1).ownBlock=some b) w w8):=⟨hgrow.os,hgrow.tape,hgrow.output,by have:=hgrow.size;simp at this;omega,fun i hi hx=>by rw [hgrow.block i (by simp;omega) (fun e=>hx e.symm),Below.heap_alloc _ _ _ (by omega)]⟩
 have HO8:=hid_of hown'
 clear hown' hgrow hnil
 go_wp2_with fail
 refine HJ.out _ v' w8 ⟨rfl,?_⟩ HO8.out HG.out
 rw [←H23.out]
 rfl
end Go.Proofs.YtinebmjpdkjooaaGreatDoor
namespace Go.Proofs.YtinebmjpdkjooaaGreatDoor
open Go.ChangeShapes Go.WideShapes Go.ChangeAt Go.RowKit
set_option maxRecDepth 20000
def outB (n:Nat) (i:Int):Bool:=decide (i<0) || decide ((n:Int)≤i)
theorem check1_any (i:Int) (A:Option Addr) (n cap q:Nat) (w:World) (h:w.cell? ⟨q,2,none⟩=some (.slice A n cap)):Calls Tryz.prog 163 #[.int .i64 i,.pointer (some ⟨q,0,none⟩)] w fun e w'=>e=.returned (.bool (outB n i))∧Below w.heap.size w w':=by
 unfold outB
 by_cases h1:i<0
 ·go_enter Tryz.func163,Tryz.ntmps163
  go_wp2
  go_ret
  exact ⟨by simp <;> omega,by go_grown⟩
 ·go_enter Tryz.func163,Tryz.ntmps163
  go_wp2
  go_ret
  exact ⟨by simp <;> omega,by go_grown⟩
theorem containsf_ints (A:Option Addr) (cap:Nat) (L:List Int) (Am:Option Addr) (nm cm q:Nat) (w:World) (hn:L.length≤2) (hL:IntsAt w A cap L) (hq:q<w.heap.size) (hqc:w.cell? ⟨q,2,none⟩=some (.slice Am nm cm)) :
  Calls Tryz.prog 162 #[.slice A L.length cap,.func (.func 163) #[] #[.pointer (some ⟨q,0,none⟩)]] w fun e w'=>e=.returned (.bool (decide (0≤findFrom (fun j=>outB nm (L.getD j 0)) L.length 0)))∧Below w.heap.size w w' :=
 contm_pl 163 #[.pointer (some ⟨q,0,none⟩)] (outB nm) (fun args w=>by simp [callFunc,Tryz.func163];rfl) A cap L w (by omega) (pl_ints hL) fun x w' _ hB=>check1_any x Am nm cm q w' ((hB.cell (p:=⟨q,2,none⟩) hq).trans hqc)
theorem treeErr_range {d:Dm} {L:List Int} (h:(dimErr d).2=0):treeErr d L=if 0≤findFrom (fun j=>outB d.n (L.getD j 0)) L.length 0 then 1 else 0:=by
 unfold treeErr rangeErr;rw [if_neg (by simpa using h)];rfl
set_option maxHeartbeats 2000000 in
theorem tcheck_any (d:Dm) (A:Option Addr) (cap:Nat) (Ai:Option Addr) (ci:Nat) (L:List Int) (w:World) (hM:MemsV w A cap d.n d.mem) (hn:L.length≤2) (hL:IntsAt w Ai ci L):Calls Tryz.prog 131 #[dimV d A cap,.slice Ai L.length ci] w fun e w'=>e=.returned (errV (treeErr d L))∧Below w.heap.size w w':=by
 have hS:=ownDim_size w d A cap 43
 have hB0:=ownDim_below w d A cap 43
 have hA:=(ownDim_at w d A cap 43).2.2
 have hck:=dcheck_any d A cap (ownDim w d A cap 43) (hM.later hB0)
 unfold dimV at hck ⊢
 have HB0:Hid (Below w.heap.size w (ownDim w d A cap 43)):=hB0
 have HS:Hid ((ownDim w d A cap 43).heap.size=w.heap.size+1):=hS
 have HA:Hid ((ownDim w d A cap 43).cell? ⟨w.heap.size,2,none⟩=some (.slice A d.n cap)):=hA
 have HL:Hid (IntsAt w Ai ci L):=hL
 clear hM hS hB0 hA hL
 by_cases he:(dimErr d).2=0
 ·obtain ⟨e1,hd1,hd2,-⟩:=dimErr_right he
  rw [he,e1,errV_zero] at hck
  have HE:Hid ((dimErr d).2=0):=he
  clear he e1
  go_enter Tryz.func131,Tryz.ntmps131
  go_wp2_with fail
  refine hck.mono ?_
  rintro e w1 ⟨rfl,hb1⟩
  have hB:Below w.heap.size w w1:=onB HB0.out hb1
  have hz:w.heap.size<w1.heap.size:=by
   have:=hb1.size
   rw [HS.out] at this
   omega
  have h2:w1.cell? ⟨w.heap.size,2,none⟩=some (.slice A d.n cap):=(hb1.cell (p:=⟨w.heap.size,2,none⟩) (by show w.heap.size<_;rw [HS.out];omega)).trans HA.out
  have hcf:=containsf_ints Ai ci L A d.n cap w.heap.size w1 hn (HL.out.later hB) hz h2
  have HR:Hid (treeErr d L=if 0≤findFrom (fun j=>outB d.n (L.getD j 0)) L.length 0 then 1 else 0):=treeErr_range HE.out
  have HB:Hid (Below w.heap.size w w1):=hB
  generalize findFrom (fun j=>outB d.n (L.getD j 0)) L.length 0=f at hcf HR
  generalize L.length=n at hcf
  clear hb1 hck h2 hB
  by_cases hf:0≤f
  ·rw [decide_eq_true hf] at hcf
   have HR1:Hid (treeErr d L=1):=by show _=_;rw [HR.out,if_pos hf]
   clear hf HR
   go_wp2_with fail
   refine hcf.mono ?_
   rintro e w2 ⟨rfl,hb2⟩
   go_wp2_with fail
   go_ret
   exact ⟨by rw [HR1.out];rfl,onB HB.out hb2⟩
  ·rw [decide_eq_false hf] at hcf
   have HR1:Hid (treeErr d L=0):=by show _=_;rw [HR.out,if_neg hf]
   clear hf HR
   go_wp2_with fail
   refine hcf.mono ?_
   rintro e w2 ⟨rfl,hb2⟩
   go_wp2_with fail
   go_ret
   exact ⟨by rw [HR1.out];rfl,onB HB.out hb2⟩
 ·have HK:Hid (errV (treeErr d L)=.iface 65 (.int .i64 (dimErr d).2)):=by show _=_;rw [treeErr_dim he,errV_some he]
  rw [errV_some he] at hck
  clear he
  generalize (dimErr d).2=c at hck HK
  go_enter Tryz.func131,Tryz.ntmps131
  go_wp2_with fail
  refine hck.mono ?_
  rintro e w1 ⟨rfl,hb1⟩
  go_wp2_with fail
  go_ret
  exact ⟨by rw [HK.out];rfl,onB HB0.out hb1⟩
def twoO (w:World) (u v:Value):World:=(w.alloc (.cells #[u] 24)).alloc (.cells #[v] 24)
theorem twoO_at (w:World) (u v:Value):(twoO w u v).heap[w.heap.size]?=some (.cells #[u] 24 (0,0))∧(twoO w u v).heap[w.heap.size+1]?=some (.cells #[v] 24 (0,0)):=by
 have h1:(w.alloc (.cells #[u] 24)).heap[w.heap.size]?=some (.cells #[u] 24 (0,0)):=heap_alloc_new ..
 have hs:(w.alloc (.cells #[u] 24)).heap.size=w.heap.size+1:=by simp
 refine ⟨(Below.heap_alloc _ _ _ (by omega)).trans h1,?_⟩
 rw [←hs]
 exact heap_alloc_new ..
theorem twoO_below (w:World) (u v:Value):Below w.heap.size w (twoO w u v):=by unfold twoO;go_grown
def twoDs (w:World) (u0 u1 u2 v0 v1 v2:Value):World:=(w.alloc (.cells #[u0,u1,u2] 43)).alloc (.cells #[v0,v1,v2] 43)
theorem twoD_at (w:World) (u0 u1 u2 v0 v1 v2:Value):(twoDs w u0 u1 u2 v0 v1 v2).heap[w.heap.size]?=some (.cells #[u0,u1,u2] 43 (0,0))∧(twoDs w u0 u1 u2 v0 v1 v2).heap[w.heap.size+1]?=some (.cells #[v0,v1,v2] 43 (0,0)):=by
 have h1:(w.alloc (.cells #[u0,u1,u2] 43)).heap[w.heap.size]?=some (.cells #[u0,u1,u2] 43 (0,0)):=heap_alloc_new ..
 have hs:(w.alloc (.cells #[u0,u1,u2] 43)).heap.size=w.heap.size+1:=by simp
 refine ⟨(Below.heap_alloc _ _ _ (by omega)).trans h1,?_⟩
 rw [←hs]
 exact heap_alloc_new ..
theorem twoD_below (w:World) (u0 u1 u2 v0 v1 v2:Value):Below w.heap.size w (twoDs w u0 u1 u2 v0 v1 v2):=by unfold twoDs;go_grown
set_option maxHeartbeats 16000000 in
theorem sameout_any (A0 B0:Option Addr) (ca cb n:Nat) (D:Nat→Dm) (A:Nat→Option Addr) (C:Nat→Nat) (A':Nat→Option Addr) (C':Nat→Nat) (w:World) (hn:n≤4) (hd:∀ i,i<n→(D i).n≤12) (hA:DimsV w A0 ca n D A C) (hB:DimsV w B0 cb n D A' C') :
  Calls Tryz.prog 10 #[.agg #[.slice A0 n ca],.agg #[.slice B0 n cb]] w fun e w'=>e=.returned (.bool true)∧Below w.heap.size w w':=by
 have hB0:=twoO_below w (.slice A0 n ca) (.slice B0 n cb)
 obtain ⟨b1,b2⟩:=twoO_at w (.slice A0 n ca) (.slice B0 n cb)
 obtain ⟨W,hW⟩:∃ W,twoO w (.slice A0 n ca) (.slice B0 n cb)=W:=⟨_,rfl⟩
 rw [hW] at hB0 b1 b2
 unfold twoO at hW
 have l2:=(Array.getElem?_eq_some_iff.1 b2).1
 have HK:Hid (∀ w',Below W.heap.size W w'→w'.cell? ⟨w.heap.size,0,none⟩=some (.slice A0 n ca)∧w'.cell? ⟨w.heap.size+1,0,none⟩=some (.slice B0 n cb)∧w.heap.size+1<w'.heap.size):=fun w' h =>
  ⟨(Lib.cell_of_heap ((h.block _ (by omega)).trans b1) 0).trans rfl,(Lib.cell_of_heap ((h.block _ l2).trans b2) 0).trans rfl,Nat.lt_of_lt_of_le l2 h.size⟩
 have HA:=hid_of (hA.later hB0)
 have HB:=hid_of (hB.later hB0)
 have HD:=hid_of hd
 have HB0:=hid_of hB0
 obtain ⟨k0,k1,k2⟩:=HK.out W (Below.refl _ _)
 have hn4:(n:Int)≤4:=by omega
 have hnn:((n:Int) != (n:Int))=false:=by simp
 have hs0:w.heap.size<W.heap.size:=by omega
 clear hA hB hd hB0 b1 b2
 go_enter Tryz.func10,Tryz.ntmps10
 go_wp2_with fail
 go_loopg [5] n (fun g s5 wr => ∃ k:Nat,k≤n∧g=n-k∧s5=.int .i64 k∧Hid (Below W.heap.size W wr))
 case atStart=>exact ⟨0,Nat.zero_le _,rfl,rfl,hid_of (Below.refl _ _)⟩
 case round =>
  obtain ⟨k,hk,rfl,rfl,HBw⟩:=hrel
  obtain ⟨wo,rfl⟩:∃ wo:World,wo=wr:=⟨_,rfl⟩
  obtain ⟨k0,k1,k2⟩:=HK.out wo HBw.out
  have hs0:w.heap.size<wo.heap.size:=by omega
  by_cases hlt:k<n
  ·have hki:(k:Int)<(n:Int):=by omega
   obtain ⟨-,h0 | ⟨ba,oa,rfl,hDa⟩⟩:=HA.out.later HBw.out
   ·omega
   obtain ⟨-,h0 | ⟨bb,ob,rfl,hDb⟩⟩:=HB.out.later HBw.out
   ·omega
   have hba:=hDa.1
   have hbb:=hDb.1
   obtain ⟨a0,a1,a2,hMa⟩:=hDa.2 k hlt
   obtain ⟨c0,c1,c2,hMb⟩:=hDb.2 k hlt
   have hm12:=HD.out k hlt
   have HMa:=hid_of hMa
   have HMb:=hid_of hMb
   obtain ⟨M,hM⟩:∃ M,(D k).mem=M:=⟨_,rfl⟩
   rw [hM] at HMa HMb
   have hB1:=twoD_below wo (.string (D k).name) (.int .i64 (D k).solve) (.slice (A k) (D k).n (C k)) (.string (D k).name) (.int .i64 (D k).solve) (.slice (A' k) (D k).n (C' k))
   obtain ⟨e1,e2⟩:=twoD_at wo (.string (D k).name) (.int .i64 (D k).solve) (.slice (A k) (D k).n (C k)) (.string (D k).name) (.int .i64 (D k).solve) (.slice (A' k) (D k).n (C' k))
   generalize (D k).name=nm at a0 c0 hB1 e1 e2
   generalize (D k).solve=sv at a1 c1 hB1 e1 e2
   generalize (D k).n=m at a2 c2 hm12 HMa HMb hB1 e1 e2
   generalize A k=Ak at a2 HMa hB1 e1 e2
   generalize C k=Ck at a2 HMa hB1 e1 e2
   generalize A' k=Al at c2 HMb hB1 e1 e2
   generalize C' k=Cl at c2 HMb hB1 e1 e2
   obtain ⟨V,hV⟩:∃ V,twoDs wo (.string nm) (.int .i64 sv) (.slice Ak m Ck) (.string nm) (.int .i64 sv) (.slice Al m Cl)=V:=⟨_,rfl⟩
   rw [hV] at hB1 e1 e2
   unfold twoDs at hV
   have HBV:=hid_of (onB HBw.out hB1)
   have l3:=(Array.getElem?_eq_some_iff.1 e2).1
   have HKV:Hid (∀ w',Below V.heap.size V w'→w'.cell? ⟨wo.heap.size,0,none⟩=some (.string nm)∧w'.cell? ⟨wo.heap.size,1,none⟩=some (.int .i64 sv)∧w'.cell? ⟨wo.heap.size,2,none⟩=some (.slice Ak m Ck)∧w'.cell? ⟨wo.heap.size+1,0,none⟩=some (.string nm)∧w'.cell? ⟨wo.heap.size+1,1,none⟩=some (.int .i64 sv)∧w'.cell? ⟨wo.heap.size+1,2,none⟩=some (.slice Al m Cl)∧wo.heap.size+1<w'.heap.size):=fun w' h=>by
    have f1:=(h.block _ (by omega)).trans e1
    have f2:=(h.block _ l3).trans e2
    exact ⟨(Lib.cell_of_heap f1 0).trans rfl,(Lib.cell_of_heap f1 1).trans rfl,(Lib.cell_of_heap f1 2).trans rfl,(Lib.cell_of_heap f2 0).trans rfl,(Lib.cell_of_heap f2 1).trans rfl,(Lib.cell_of_heap f2 2).trans rfl,Nat.lt_of_lt_of_le l3 h.size⟩
   have HMa':=hid_of (HMa.out.later hB1)
   have HMb':=hid_of (HMb.out.later hB1)
   obtain ⟨v0,v1,v2,v3,v4,v5,v6⟩:=HKV.out V (Below.refl _ _)
   have hsv:(sv != sv)=false:=by simp
   have hmm:((m:Int) != (m:Int))=false:=by simp
   have hmi:(m:Int)≤12:=by omega
   have hv7:wo.heap.size<V.heap.size:=by omega
   clear hM hMa hMb hDa hDb hB1 e1 e2 HMa HMb
   go_wp2_with fail
   go_loopg [8] m (fun g s8 wr => ∃ j:Nat,j≤m∧g=m-j∧s8=.int .i64 j∧Hid (Below V.heap.size V wr))
   case atStart=>exact ⟨0,Nat.zero_le _,rfl,rfl,hid_of (Below.refl _ _)⟩
   case round =>
    obtain ⟨j,hj,rfl,rfl,HBi⟩:=hrel
    obtain ⟨v0,v1,v2,v3,v4,v5,v6⟩:=HKV.out wr HBi.out
    have hv7:wo.heap.size<wr.heap.size:=by omega
    by_cases hjl:j<m
    ·have hji:(j:Int)<(m:Int):=by omega
     obtain ⟨-,h0 | ⟨bm,om,rfl,hMa⟩⟩:=HMa'.out.later HBi.out
     ·omega
     obtain ⟨-,h0 | ⟨bn,on_,rfl,hMb⟩⟩:=HMb'.out.later HBi.out
     ·omega
     obtain ⟨x0,x1,x2,x3⟩:=hMa.2 j hjl
     obtain ⟨y0,y1,y2,y3⟩:=hMb.2 j hjl
     clear hMa hMb
     go_wp2_with fail
     first | (go_quiet (fail);go_wp2_with fail) | skip
     go_roundg (m-(j+1))
     case measure=>omega
     case rel=>exact ⟨j+1,by omega,rfl,by go_num,hid_of (below_drewN HBi.out _)⟩
    ·have hje:j=m:=by omega
     subst hje
     go_wp2_with fail
     go_roundg (n-(k+1))
     case measure=>omega
     case rel=>exact ⟨k+1,by omega,rfl,by go_num,hid_of (onB HBV.out HBi.out)⟩
  ·have hke:k=n:=by omega
   subst hke
   go_wp2_with fail
   go_ret
   exact ⟨rfl,onB HB0.out HBw.out⟩
end Go.Proofs.YtinebmjpdkjooaaGreatDoor
