/-
  tallyref2.Change: Remove, region by region.
-/
import Derived.Test.YtfldgghobddgkaaGreatDoorJDBL
namespace Go.Proofs.YtfldgghobddgkaaGreatDoor
open Go Go.ChangeShapes Go.WideShapes Go.ChangeAt Go.RowKit
set_option maxRecDepth 1000000
set_option maxHeartbeats 64000000
theorem ctL19 (T:Array Value) (s:Nat→Value) (q m C:Nat) (A:Option Addr) (dnm:ByteArray) (sv:Int) (i l:Nat) (w:World) (hF:ctF T s) (h10:s 10=.pointer (some ⟨q,0,none⟩)) (h12:s 12=.int .i64 (i:Nat)) (d0:w.cell? ⟨q,0,none⟩=some (.string dnm)) (d1:w.cell? ⟨q,1,none⟩=some (.int .i64 sv)) (d2:w.cell? ⟨q,2,none⟩=some (.slice A m C)) (hcall:Calls Tryz.prog 12 #[.agg #[.string dnm,.int .i64 sv,.slice A m C],.int .i64 (i:Nat)] w fun e w'=>(∃ A' c',e=.returned (.slice A' l c'))∧Below w.heap.size w w') (J:Act→World→Prop) (Q:Exit→Act→World→Prop)
  (hJ:∀ T' w',ctF T' s→Act.eval ⟨T',[]⟩ (.tmp 154)=.bool (decide (0<l∨m=1))→Below w.heap.size w w'→J ⟨T',[]⟩ w'):Code.wp Tryz.prog (ctC [1,1,1,1,1,1,1,1,1,0,1,3,1,5,1,2,0,0]) (Exit.then J Q) ⟨T,[]⟩ w:=by
 obtain ⟨xF,rfl⟩:=ct_open hF
 unfold ctL
 rw [h10,h12]
 have HJ:=hid_of hJ
 have H10:=hid_of h10
 have H12:=hid_of h12
 clear hJ hF h10 h12
 conv=>arg 2;whnf
 go_wp2_with fail
 refine hcall.mono ?_
 rintro e w1 ⟨⟨A',c',rfl⟩,hb⟩
 have HB:=hid_of hb
 have d2':=later_cell d2 hb
 clear hcall hb d0 d1 d2
 by_cases h1:0<l
 ·have HL:=hid_of (decide_eq_true (p:=0<l∨m=1) (Or.inl h1))
  have h1I:(0:Int)<(l:Int):=by omega
  clear h1
  go_wp2_with fail
  refine HJ.out _ w1 ⟨rfl,?_⟩ (by rw [HL.out];rfl) HB.out
  rw [←H10.out,←H12.out]
  rfl
 ·have h1I : ¬ (0:Int)<(l:Int):=by omega
  by_cases h2:m=1
  ·have HL:=hid_of (decide_eq_true (p:=0<l∨m=1) (Or.inr h2))
   have h2b:((m:Int) == 1)=true:=by simp;omega
   have h2c:(m == 1)=true:=by simp;omega
   clear h1 h2
   go_wp2_with fail
   refine HJ.out _ w1 ⟨rfl,?_⟩ (by rw [HL.out];rfl) HB.out
   rw [←H10.out,←H12.out]
   rfl
  ·have HL:=hid_of (decide_eq_false (p:=0<l∨m=1) (fun h=>h.elim h1 h2))
   have h2b:((m:Int) == 1)=false:=by simp;omega
   have h2c:(m == 1)=false:=by simp;omega
   clear h1 h2
   go_wp2_with fail
   refine HJ.out _ w1 ⟨rfl,?_⟩ (by rw [HL.out];rfl) HB.out
   rw [←H10.out,←H12.out]
   rfl
theorem ctL21 (T:Array Value) (s:Nat→Value)  (w:World) (hF:ctF T s)   (J:Act→World→Prop) (Q:Exit→Act→World→Prop)
  (hJ:∀ T',ctF T' (upG s 13 (.slice none 0 0))→J ⟨T',[]⟩ w):Code.wp Tryz.prog (ctC [1,1,1,1,1,1,1,1,1,0,1,3,1,5,1,2,1,0]) (Exit.then J Q) ⟨T,[]⟩ w:=by
 obtain ⟨xF,rfl⟩:=ct_open hF
 unfold ctL
 have HJ:=hid_of hJ
 clear hJ hF 
 conv=>arg 2;whnf
 go_wp2_with fail
 refine HJ.out _ ⟨rfl,?_⟩ 
 rfl
theorem ctL22 (T:Array Value) (s:Nat→Value)  (w:World) (hF:ctF T s)   (J:Act→World→Prop) (Q:Exit→Act→World→Prop)
  (hJ:∀ T',ctF T' (upG s 14 (.int .i64 0))→J ⟨T',[]⟩ w):Code.wp Tryz.prog (ctC [1,1,1,1,1,1,1,1,1,0,1,3,1,5,1,2,1,1,0,0]) (Exit.then J Q) ⟨T,[]⟩ w:=by
 obtain ⟨xF,rfl⟩:=ct_open hF
 unfold ctL
 have HJ:=hid_of hJ
 clear hJ hF 
 conv=>arg 2;whnf
 go_wp2_with fail
 refine HJ.out _ ⟨rfl,?_⟩ 
 rfl
theorem ctL24 (T:Array Value) (s:Nat→Value) (k:Nat) (w:World) (hF:ctF T s) (h14:s 14=.int .i64 (k:Nat)) (hk:k≤4611686018427387904) (J:Act→World→Prop) (Q:Exit→Act→World→Prop)
  (hJ:∀ T',ctF T' (upG s 14 (.int .i64 (k+1:Nat)))→J ⟨T',[]⟩ w):Code.wp Tryz.prog (ctC [1,1,1,1,1,1,1,1,1,0,1,3,1,5,1,2,1,1,0,1,3,4,1,1]) (Exit.then J Q) ⟨T,[]⟩ w:=by
 obtain ⟨xF,rfl⟩:=ct_open hF
 unfold ctL
 rw [h14]
 have HJ:=hid_of hJ
 have H14:=hid_of h14
 clear hJ hF h14
 conv=>arg 2;whnf
 have h1:(k:Int)+1≤9223372036854775807:=by omega
 go_wp2_with fail
 refine HJ.out _ ⟨rfl,?_⟩ 
 rfl
theorem ctL23 (T:Array Value) (s:Nat→Value) (q k m C:Nat) (A:Option Addr) (w:World) (hF:ctF T s) (h10:s 10=.pointer (some ⟨q,0,none⟩)) (h14:s 14=.int .i64 (k:Nat)) (hc:w.cell? ⟨q,2,none⟩=some (.slice A m C)) (J:Act→World→Prop) (Q:Exit→Act→World→Prop)
  (hJ:∀ T',ctF T' s→Act.eval ⟨T',[]⟩ (.tmp 160)=.bool (decide (k<m))→J ⟨T',[]⟩ w):Code.wp Tryz.prog (ctC [1,1,1,1,1,1,1,1,1,0,1,3,1,5,1,2,1,1,0,1,3,4,0,0]) (Exit.then J Q) ⟨T,[]⟩ w:=by
 obtain ⟨xF,rfl⟩:=ct_open hF
 unfold ctL
 rw [h10,h14]
 have HJ:=hid_of hJ
 have H10:=hid_of h10
 have H14:=hid_of h14
 clear hJ hF h10 h14
 conv=>arg 2;whnf
 by_cases hlt:k<m
 ·have h1:(k:Int)<(m:Int):=by omega
  go_wp2_with fail
  refine HJ.out _ ⟨rfl,?_⟩ (by rw [decide_eq_true hlt];rfl)
  rw [←H10.out,←H14.out]
  rfl
 ·have h1 : ¬ (k:Int)<(m:Int):=by omega
  go_wp2_with fail
  refine HJ.out _ ⟨rfl,?_⟩ (by rw [decide_eq_false hlt];rfl)
  rw [←H10.out,←H14.out]
  rfl
theorem ctL25 (T:Array Value) (s:Nat→Value) (q g m C k:Nat) (nm fo:ByteArray) (pa sg:Int) (w:World) (hF:ctF T s) (h10:s 10=.pointer (some ⟨q,0,none⟩)) (h14:s 14=.int .i64 (k:Nat)) (hc:w.cell? ⟨q,2,none⟩=some (.slice (some ⟨g,0,none⟩) m C)) (hk:k<m) (hmC:m≤C) (y0:w.cell? ⟨g,k*4,none⟩=some (.string nm)) (y1:w.cell? ⟨g,k*4+1,none⟩=some (.int .i64 pa)) (y2:w.cell? ⟨g,k*4+2,none⟩=some (.int .i64 sg)) (y3:w.cell? ⟨g,k*4+3,none⟩=some (.string fo)) (J:Act→World→Prop) (Q:Exit→Act→World→Prop)
  (hJ:∀ T',ctF T' (upG s 15 (.pointer (some ⟨w.heap.size,0,none⟩)))→J ⟨T',[]⟩ (w.alloc (.cells #[.string nm,.int .i64 pa,.int .i64 sg,.string fo] 43))):Code.wp Tryz.prog (ctC [1,1,1,1,1,1,1,1,1,0,1,3,1,5,1,2,1,1,0,1,3,4,1,0,3,0]) (Exit.then J Q) ⟨T,[]⟩ w:=by
 obtain ⟨xF,rfl⟩:=ct_open hF
 unfold ctL
 rw [h10,h14]
 have HJ:=hid_of hJ
 have H10:=hid_of h10
 have H14:=hid_of h14
 clear hJ hF h10 h14
 conv=>arg 2;whnf
 have hkI:(k:Int)<(m:Int):=by omega
 have hmI:(m:Int)≤(C:Int):=by omega
 go_wp2_with fail
 refine HJ.out _ ⟨rfl,?_⟩ 
 rw [←H10.out,←H14.out]
 rfl
theorem ctL26 (T:Array Value) (s:Nat→Value) (b i:Nat) (pa:Int) (w:World) (hF:ctF T s) (h12:s 12=.int .i64 (i:Nat)) (h15:s 15=.pointer (some ⟨b,0,none⟩)) (hc:w.cell? ⟨b,1,none⟩=some (.int .i64 pa)) (J:Act→World→Prop) (Q:Exit→Act→World→Prop)
  (hJ:∀ T',ctF T' s→Act.eval ⟨T',[]⟩ (.tmp 171)=.bool (decide ((i:Int)<pa))→J ⟨T',[]⟩ w):Code.wp Tryz.prog (ctC [1,1,1,1,1,1,1,1,1,0,1,3,1,5,1,2,1,1,0,1,3,4,1,0,3,1,0,0]) (Exit.then J Q) ⟨T,[]⟩ w:=by
 obtain ⟨xF,rfl⟩:=ct_open hF
 unfold ctL
 rw [h12,h15]
 have HJ:=hid_of hJ
 have H12:=hid_of h12
 have H15:=hid_of h15
 clear hJ hF h12 h15
 conv=>arg 2;whnf
 by_cases hlt:(i:Int)<pa
 ·have HL:=hid_of (decide_eq_true hlt)
  go_wp2_with fail
  refine HJ.out _ ⟨rfl,?_⟩ (by rw [HL.out];rfl)
  rw [←H12.out,←H15.out]
  rfl
 ·have HL:=hid_of (decide_eq_false hlt)
  go_wp2_with fail
  refine HJ.out _ ⟨rfl,?_⟩ (by rw [HL.out];rfl)
  rw [←H12.out,←H15.out]
  rfl
theorem ctL27 (T:Array Value) (s:Nat→Value) (b:Nat) (pa:Int) (u0 u2 u3:Value) (w:World) (hF:ctF T s) (h15:s 15=.pointer (some ⟨b,0,none⟩)) (hb:w.heap[b]?=some (.cells #[u0,.int .i64 pa,u2,u3] 43 (0,0))) (hp : -1≤pa) (hp2:pa≤1000) (J:Act→World→Prop) (Q:Exit→Act→World→Prop)
  (hJ:∀ T',ctF T' s→J ⟨T',[]⟩ (w.setCell ⟨b,1,none⟩ (.int .i64 (pa-1)))):Code.wp Tryz.prog (ctC [1,1,1,1,1,1,1,1,1,0,1,3,1,5,1,2,1,1,0,1,3,4,1,0,3,1,0,1,2]) (Exit.then J Q) ⟨T,[]⟩ w:=by
 obtain ⟨xF,rfl⟩:=ct_open hF
 unfold ctL
 rw [h15]
 have HJ:=hid_of hJ
 have H15:=hid_of h15
 clear hJ hF h15
 have a1:w.cell? ⟨b,1,none⟩=some (.int .i64 pa):=(Lib.cell_of_heap hb 1).trans rfl
 have a2:w.frozen? ⟨b,1,none⟩=false:=Lib.frozen_of_heap hb 1
 have a3:=(Array.getElem?_eq_some_iff.1 hb).1
 have h1 : -9223372036854775808≤pa-1:=by omega
 have h2:pa-1≤9223372036854775807:=by omega
 clear hb
 conv=>arg 2;whnf
 go_wp2_with fail
 refine HJ.out _ ⟨rfl,?_⟩ 
 rw [←H15.out]
 rfl
theorem ctL28 (T:Array Value) (s:Nat→Value) (k i:Nat) (w:World) (hF:ctF T s) (h12:s 12=.int .i64 (i:Nat)) (h14:s 14=.int .i64 (k:Nat))  (J:Act→World→Prop) (Q:Exit→Act→World→Prop)
  (hJ:∀ T',ctF T' s→Act.eval ⟨T',[]⟩ (.tmp 178)=.bool (decide (k≠i))→J ⟨T',[]⟩ w):Code.wp Tryz.prog (ctC [1,1,1,1,1,1,1,1,1,0,1,3,1,5,1,2,1,1,0,1,3,4,1,0,3,1,1,0]) (Exit.then J Q) ⟨T,[]⟩ w:=by
 obtain ⟨xF,rfl⟩:=ct_open hF
 unfold ctL
 rw [h12,h14]
 have HJ:=hid_of hJ
 have H12:=hid_of h12
 have H14:=hid_of h14
 clear hJ hF h12 h14
 conv=>arg 2;whnf
 by_cases hlt:k=i
 ·have HL:=hid_of (decide_eq_false (p:=k≠i) (fun h=>h hlt))
  have h1:((k:Int) == (i:Int))=true:=by simp;omega
  have h2:((k:Int) != (i:Int))=false:=by simp;omega
  have h3:(k == i)=true:=by simp;omega
  have h4:(k != i)=false:=by simp;omega
  clear hlt
  go_wp2_with fail
  refine HJ.out _ ⟨rfl,?_⟩ (by rw [HL.out];rfl)
  rw [←H12.out,←H14.out]
  rfl
 ·have HL:=hid_of (decide_eq_true (p:=k≠i) hlt)
  have h1:((k:Int) == (i:Int))=false:=by simp;omega
  have h2:((k:Int) != (i:Int))=true:=by simp;omega
  have h3:(k == i)=false:=by simp;omega
  have h4:(k != i)=true:=by simp;omega
  clear hlt
  go_wp2_with fail
  refine HJ.out _ ⟨rfl,?_⟩ (by rw [HL.out];rfl)
  rw [←H12.out,←H14.out]
  rfl
theorem ctL29 (T:Array Value) (s:Nat→Value) (b B j Cv:Nat) (Av:Option Addr) (XS:List Value) (nm fo:ByteArray) (pa sg:Int) (w:World) (hF:ctF T s) (h13:s 13=.slice Av j Cv) (h15:s 15=.pointer (some ⟨b,0,none⟩)) (hb:w.heap[b]?=some (.cells #[.string nm,.int .i64 pa,.int .i64 sg,.string fo] 43 (0,0))) (hown:w.ownsRow B 43 4 (.slice Av j Cv) j XS) (hj:j≤12) (hBs:B≤w.heap.size) (J:Act→World→Prop) (Q:Exit→Act→World→Prop)
  (hJ:∀ T' w' g' c',ctF T' (upG s 13 (.slice (some ⟨g',0,none⟩) (j+1:Nat) c'))→w'.ownsRow B 43 4 (.slice (some ⟨g',0,none⟩) (j+1) c') (j+1) (XS ++ [.string nm,.int .i64 pa,.int .i64 sg,.string fo])→(∃ wa,Below w.heap.size w wa∧wa.grownBy w' (Value.slice Av j Cv).ownBlock)→J ⟨T',[]⟩ w'):Code.wp Tryz.prog (ctC [1,1,1,1,1,1,1,1,1,0,1,3,1,5,1,2,1,1,0,1,3,4,1,0,3,1,1,1,2]) (Exit.then J Q) ⟨T,[]⟩ w:=by
 obtain ⟨xF,rfl⟩:=ct_open hF
 unfold ctL
 rw [h13,h15]
 have HJ:=hid_of hJ
 have H13:=hid_of h13
 have H15:=hid_of h15
 clear hJ hF h13 h15
 obtain ⟨i0,hi0,hz0,hz1,hz2⟩:=info_parts Tryz.infoMemH
 have c0:w.cell? ⟨b,0,none⟩=some (.string nm):=(Lib.cell_of_heap hb 0).trans rfl
 have c1:w.cell? ⟨b,1,none⟩=some (.int .i64 pa):=(Lib.cell_of_heap hb 1).trans rfl
 have c2:w.cell? ⟨b,2,none⟩=some (.int .i64 sg):=(Lib.cell_of_heap hb 2).trans rfl
 have c3:w.cell? ⟨b,3,none⟩=some (.string fo):=(Lib.cell_of_heap hb 3).trans rfl
 have HO:=hid_of hown
 clear hb hown
 conv=>arg 2;whnf
 go_wp2_with (at_builtin;refine wpList_append_lies _ rfl _ _ 39 rfl B 43 i0 _ 4 48 Tryz.underlying39 hi0 hz0 hz1 hz2 rfl (by omega) (.slice Av j Cv) j XS (by rfl) (own_stays HO.out (by go_grown)) ⟨w.heap.size,0,none⟩ 1 1 [.string nm,.int .i64 pa,.int .i64 sg,.string fo] (by rfl) (by rfl) (World.news_of_block (cs := #[.string nm,.int .i64 pa,.int .i64 sg,.string fo]) (t:=43) (fr:=(0,0)) (heap_alloc_new _ _)) (by simp [Value.oneCell']) (by omega) (by unfold maxLen;omega) (by omega) (by simp;omega) (w.heap.size+1) (by simp) ?_;intro gg cg w6 hown6 hgrow hat hlt6;have HG6:=hid_of hown6;have HW6:Hid (∃ wa,Below w.heap.size w wa∧wa.grownBy w6 (Value.slice Av j Cv).ownBlock):=⟨_,by go_grown,hgrow⟩;clear hown6 hgrow hat)
 all_goals go_wp2_with fail
 all_goals (
  refine HJ.out _ _ _ _ ⟨rfl,?_⟩ HG6.out HW6.out
  rw [←H15.out]
  rfl
  )
theorem ctL30 (T:Array Value) (s:Nat→Value) (q m c:Nat) (Av:Option Addr) (u0 u1 x:Value) (w:World) (hF:ctF T s) (h10:s 10=.pointer (some ⟨q,0,none⟩)) (h13:s 13=.slice Av m c) (hb:w.heap[q]?=some (.cells #[u0,u1,x] 41 (0,0))) (J:Act→World→Prop) (Q:Exit→Act→World→Prop)
  (hJ:∀ T',ctF T' s→J ⟨T',[]⟩ (w.setCell ⟨q,2,none⟩ (.slice Av m c))):Code.wp Tryz.prog (ctC [1,1,1,1,1,1,1,1,1,0,1,3,1,5,1,2,1,1,1,0]) (Exit.then J Q) ⟨T,[]⟩ w:=by
 obtain ⟨xF,rfl⟩:=ct_open hF
 unfold ctL
 rw [h10,h13]
 have HJ:=hid_of hJ
 have H10:=hid_of h10
 have H13:=hid_of h13
 clear hJ hF h10 h13
 have a1:w.cell? ⟨q,2,none⟩=some x:=(Lib.cell_of_heap hb 2).trans rfl
 have a2:w.frozen? ⟨q,2,none⟩=false:=Lib.frozen_of_heap hb 2
 have a3:=(Array.getElem?_eq_some_iff.1 hb).1
 clear hb
 conv=>arg 2;whnf
 go_wp2_with fail
 refine HJ.out _ ⟨rfl,?_⟩ 
 rw [←H10.out,←H13.out]
 rfl
theorem ctL31 (T:Array Value) (s:Nat→Value)  (w:World) (hF:ctF T s)   (J:Act→World→Prop) (Q:Exit→Act→World→Prop)
  (hJ:∀ T',ctF T' (upG s 11 (.slice none 0 0))→J ⟨T',[]⟩ w):Code.wp Tryz.prog (ctC [1,1,1,1,1,1,1,1,1,0,1,3,1,5,1,2,1,1,1,1,0]) (Exit.then J Q) ⟨T,[]⟩ w:=by
 obtain ⟨xF,rfl⟩:=ct_open hF
 unfold ctL
 have HJ:=hid_of hJ
 clear hJ hF 
 conv=>arg 2;whnf
 go_wp2_with fail
 refine HJ.out _ ⟨rfl,?_⟩ 
 rfl
theorem ctL32 (T:Array Value) (s:Nat→Value)  (w:World) (hF:ctF T s)   (J:Act→World→Prop) (Q:Exit→Act→World→Prop)
  (hJ:∀ T',ctF T' (upG s 16 (.int .i64 0))→J ⟨T',[]⟩ w):Code.wp Tryz.prog (ctC [1,1,1,1,1,1,1,1,1,0,1,3,1,5,1,2,1,1,1,1,1,0,0]) (Exit.then J Q) ⟨T,[]⟩ w:=by
 obtain ⟨xF,rfl⟩:=ct_open hF
 unfold ctL
 have HJ:=hid_of hJ
 clear hJ hF 
 conv=>arg 2;whnf
 go_wp2_with fail
 refine HJ.out _ ⟨rfl,?_⟩ 
 rfl
theorem ctL34 (T:Array Value) (s:Nat→Value) (k:Nat) (w:World) (hF:ctF T s) (h16:s 16=.int .i64 (k:Nat)) (hk:k≤4611686018427387904) (J:Act→World→Prop) (Q:Exit→Act→World→Prop)
  (hJ:∀ T',ctF T' (upG s 16 (.int .i64 (k+1:Nat)))→J ⟨T',[]⟩ w):Code.wp Tryz.prog (ctC [1,1,1,1,1,1,1,1,1,0,1,3,1,5,1,2,1,1,1,1,1,0,1,3,4,1,1]) (Exit.then J Q) ⟨T,[]⟩ w:=by
 obtain ⟨xF,rfl⟩:=ct_open hF
 unfold ctL
 rw [h16]
 have HJ:=hid_of hJ
 have H16:=hid_of h16
 clear hJ hF h16
 conv=>arg 2;whnf
 have h1:(k:Int)+1≤9223372036854775807:=by omega
 go_wp2_with fail
 refine HJ.out _ ⟨rfl,?_⟩ 
 rfl
theorem ctL33 (T:Array Value) (s:Nat→Value) (k m ce:Nat) (AE:Option Addr) (w:World) (hF:ctF T s) (h1:s 1=.slice AE m ce) (h16:s 16=.int .i64 (k:Nat))  (J:Act→World→Prop) (Q:Exit→Act→World→Prop)
  (hJ:∀ T',ctF T' s→Act.eval ⟨T',[]⟩ (.tmp 188)=.bool (decide (k<m))→J ⟨T',[]⟩ w):Code.wp Tryz.prog (ctC [1,1,1,1,1,1,1,1,1,0,1,3,1,5,1,2,1,1,1,1,1,0,1,3,4,0,0]) (Exit.then J Q) ⟨T,[]⟩ w:=by
 obtain ⟨xF,rfl⟩:=ct_open hF
 unfold ctL
 rw [h1,h16]
 have HJ:=hid_of hJ
 have H1:=hid_of h1
 have H16:=hid_of h16
 clear hJ hF h1 h16
 conv=>arg 2;whnf
 by_cases hlt:k<m
 ·have h1:(k:Int)<(m:Int):=by omega
  go_wp2_with fail
  refine HJ.out _ ⟨rfl,?_⟩ (by rw [decide_eq_true hlt];rfl)
  rw [←H1.out,←H16.out]
  rfl
 ·have h1 : ¬ (k:Int)<(m:Int):=by omega
  go_wp2_with fail
  refine HJ.out _ ⟨rfl,?_⟩ (by rw [decide_eq_false hlt];rfl)
  rw [←H1.out,←H16.out]
  rfl
theorem ctL36 (T:Array Value) (s:Nat→Value) (x:Int) (i:Nat) (w:World) (hF:ctF T s) (h12:s 12=.int .i64 (i:Nat)) (h17:s 17=.int .i64 x)  (J:Act→World→Prop) (Q:Exit→Act→World→Prop)
  (hJ:∀ T',ctF T' s→Act.eval ⟨T',[]⟩ (.tmp 202)=.bool (decide (x=(i:Int)))→J ⟨T',[]⟩ w):Code.wp Tryz.prog (ctC [1,1,1,1,1,1,1,1,1,0,1,3,1,5,1,2,1,1,1,1,1,0,1,3,4,1,0,3,1,0,0]) (Exit.then J Q) ⟨T,[]⟩ w:=by
 obtain ⟨xF,rfl⟩:=ct_open hF
 unfold ctL
 rw [h12,h17]
 have HJ:=hid_of hJ
 have H12:=hid_of h12
 have H17:=hid_of h17
 clear hJ hF h12 h17
 conv=>arg 2;whnf
 by_cases hlt:x=(i:Int)
 ·have HL:=hid_of (decide_eq_true hlt)
  have h1:(x == (i:Int))=true:=by simpa using hlt
  clear hlt
  go_wp2_with fail
  refine HJ.out _ ⟨rfl,?_⟩ (by rw [HL.out];rfl)
  rw [←H12.out,←H17.out]
  rfl
 ·have HL:=hid_of (decide_eq_false hlt)
  have h1:(x == (i:Int))=false:=by simpa using hlt
  clear hlt
  go_wp2_with fail
  refine HJ.out _ ⟨rfl,?_⟩ (by rw [HL.out];rfl)
  rw [←H12.out,←H17.out]
  rfl
theorem ctL37 (T:Array Value) (s:Nat→Value) (x:Int) (i:Nat) (w:World) (hF:ctF T s) (h12:s 12=.int .i64 (i:Nat)) (h17:s 17=.int .i64 x)  (J:Act→World→Prop) (Q:Exit→Act→World→Prop)
  (hJ:∀ T',ctF T' s→Act.eval ⟨T',[]⟩ (.tmp 205)=.bool (decide ((i:Int)<x))→J ⟨T',[]⟩ w):Code.wp Tryz.prog (ctC [1,1,1,1,1,1,1,1,1,0,1,3,1,5,1,2,1,1,1,1,1,0,1,3,4,1,0,3,1,1,0,0]) (Exit.then J Q) ⟨T,[]⟩ w:=by
 obtain ⟨xF,rfl⟩:=ct_open hF
 unfold ctL
 rw [h12,h17]
 have HJ:=hid_of hJ
 have H12:=hid_of h12
 have H17:=hid_of h17
 clear hJ hF h12 h17
 conv=>arg 2;whnf
 by_cases hlt:(i:Int)<x
 ·have HL:=hid_of (decide_eq_true hlt)
  go_wp2_with fail
  refine HJ.out _ ⟨rfl,?_⟩ (by rw [HL.out];rfl)
  rw [←H12.out,←H17.out]
  rfl
 ·have HL:=hid_of (decide_eq_false hlt)
  go_wp2_with fail
  refine HJ.out _ ⟨rfl,?_⟩ (by rw [HL.out];rfl)
  rw [←H12.out,←H17.out]
  rfl
theorem ctL38 (T:Array Value) (s:Nat→Value) (x:Int) (w:World) (hF:ctF T s) (h17:s 17=.int .i64 x) (hp : -1≤x) (hp2:x≤1000) (J:Act→World→Prop) (Q:Exit→Act→World→Prop)
  (hJ:∀ T',ctF T' (upG s 17 (.int .i64 (x-1)))→J ⟨T',[]⟩ w):Code.wp Tryz.prog (ctC [1,1,1,1,1,1,1,1,1,0,1,3,1,5,1,2,1,1,1,1,1,0,1,3,4,1,0,3,1,1,0,1,2]) (Exit.then J Q) ⟨T,[]⟩ w:=by
 obtain ⟨xF,rfl⟩:=ct_open hF
 unfold ctL
 rw [h17]
 have HJ:=hid_of hJ
 have H17:=hid_of h17
 clear hJ hF h17
 conv=>arg 2;whnf
 have h1 : -9223372036854775808≤x-1:=by omega
 have h2:x-1≤9223372036854775807:=by omega
 go_wp2_with fail
 refine HJ.out _ ⟨rfl,?_⟩ 
 rfl
theorem ctL40 (T:Array Value) (s:Nat→Value) (q m C:Nat) (A:Option Addr) (dnm:ByteArray) (sv:Int) (E:Int) (w:World) (hF:ctF T s) (h10:s 10=.pointer (some ⟨q,0,none⟩)) (d0:w.cell? ⟨q,0,none⟩=some (.string dnm)) (d1:w.cell? ⟨q,1,none⟩=some (.int .i64 sv)) (d2:w.cell? ⟨q,2,none⟩=some (.slice A m C)) (hcall:Calls Tryz.prog 14 #[.agg #[.string dnm,.int .i64 sv,.slice A m C]] w fun e w'=>(∃ v u,e=.returned (.tuple #[v,u,.int .i64 E]))∧Below w.heap.size w w') (J:Act→World→Prop) (Q:Exit→Act→World→Prop)
  (hJ:∀ T' w',ctF T' (upG s 9 (.int .i64 E))→Below w.heap.size w w'→J ⟨T',[]⟩ w'):Code.wp Tryz.prog (ctC [1,1,1,1,1,1,1,1,1,0,1,3,1,5,1,2,1,1,1,1,1,1]) (Exit.then J Q) ⟨T,[]⟩ w:=by
 obtain ⟨xF,rfl⟩:=ct_open hF
 unfold ctL
 rw [h10]
 have HJ:=hid_of hJ
 have H10:=hid_of h10
 clear hJ hF h10
 conv=>arg 2;whnf
 go_wp2_with fail
 refine hcall.mono ?_
 rintro e w1 ⟨⟨v,u,rfl⟩,hb⟩
 have HX:=hid_of hb
 clear hcall hb
 go_wp2_with fail
 refine HJ.out _ w1 ⟨rfl,?_⟩ HX.out
 rw [←H10.out]
 rfl
theorem ctL35 (T:Array Value) (s:Nat→Value) (p b o m ce j k pb po pl pc:Nat) (x:Int) (w:World) (hF:ctF T s) (h1:s 1=.slice (some ⟨b,o,none⟩) m ce) (h5:s 5=.pointer (some ⟨(p+1),0,none⟩)) (h16:s 16=.int .i64 (j:Nat)) (c1:w.cell? ⟨p+1,1,none⟩=some (.int .i64 (k:Nat))) (hj:j<m) (hmc:m≤ce) (he:w.cell? ⟨b,o+j*2,none⟩=some (.slice (some ⟨pb,po,none⟩) pl pc)) (hk:k<pl) (hpc:pl≤pc) (hv:w.cell? ⟨pb,po+k,none⟩=some (.int .i64 x)) (J:Act→World→Prop) (Q:Exit→Act→World→Prop)
  (hJ:∀ T' w',ctF T' (upG s 17 (.int .i64 x))→Below w.heap.size w w'→J ⟨T',[]⟩ w'):Code.wp Tryz.prog (ctC [1,1,1,1,1,1,1,1,1,0,1,3,1,5,1,2,1,1,1,1,1,0,1,3,4,1,0,3,0]) (Exit.then J Q) ⟨T,[]⟩ w:=by
 obtain ⟨xF,rfl⟩:=ct_open hF
 unfold ctL
 rw [h1,h5,h16]
 have HJ:=hid_of hJ
 have H1:=hid_of h1
 have H5:=hid_of h5
 have H16:=hid_of h16
 clear hJ hF h1 h5 h16
 conv=>arg 2;whnf
 have hjI:(j:Int)<(m:Int):=by omega
 have hkI:(k:Int)<(pl:Int):=by omega
 have hmI:(m:Int)≤(ce:Int):=by omega
 have hpI:(pl:Int)≤(pc:Int):=by omega
 go_quiet (fail)
 go_wp2_with fail
 refine HJ.out _ _ ⟨rfl,?_⟩ (below_drewN (Below.refl _ _) _)
 rw [←H1.out,←H5.out,←H16.out]
 rfl
theorem ctL39 (T:Array Value) (s:Nat→Value) (p B b o m ce j k pl pc jo co:Nat) (Ap Ao:Option Addr) (nv x:Int) (XS:List Value) (X:Option Addr→Nat→World→Prop) (w:World) (hF:ctF T s) (h1:s 1=.slice (some ⟨b,o,none⟩) m ce) (h5:s 5=.pointer (some ⟨(p+1),0,none⟩)) (h11:s 11=.slice Ao jo co) (h16:s 16=.int .i64 (j:Nat)) (h17:s 17=.int .i64 x) (c1:w.cell? ⟨p+1,1,none⟩=some (.int .i64 (k:Nat))) (hj:j<m) (hmc:m≤ce) (he:w.cell? ⟨b,o+j*2,none⟩=some (.slice Ap pl pc)) (hn:w.cell? ⟨b,o+j*2+1,none⟩=some (.int .i64 nv)) (hown:w.ownsRow B 51 2 (.slice Ao jo co) jo XS) (hjo:jo≤4000) (hBs:B≤w.heap.size) (hn1:some (p+1)≠(Value.slice Ao jo co).ownBlock) (hn2:some b≠(Value.slice Ao jo co).ownBlock) (hcall:∀ w1,Below w.heap.size w w1→Calls Tryz.prog 13 #[.slice Ap pl pc,.int .i64 (k:Nat),.int .i64 x] w1 fun e w'=>(∃ A' c',e=.returned (.slice A' pl c')∧X A' c' w')∧Below w1.heap.size w1 w') (J:Act→World→Prop) (Q:Exit→Act→World→Prop)
  (hJ:∀ T' w' wa A' c' g' c2,ctF T' (upG s 11 (.slice (some ⟨g',0,none⟩) (jo+1:Nat) c2))→X A' c' wa→Below w.heap.size w wa→w'.ownsRow B 51 2 (.slice (some ⟨g',0,none⟩) (jo+1) c2) (jo+1) (XS ++ [.slice A' pl c',.int .i64 nv])→(∃ wb,Below wa.heap.size wa wb∧wb.grownBy w' (Value.slice Ao jo co).ownBlock)→J ⟨T',[]⟩ w'):Code.wp Tryz.prog (ctC [1,1,1,1,1,1,1,1,1,0,1,3,1,5,1,2,1,1,1,1,1,0,1,3,4,1,0,3,1,1,1]) (Exit.then J Q) ⟨T,[]⟩ w:=by
 obtain ⟨xF,rfl⟩:=ct_open hF
 unfold ctL
 rw [h1,h5,h11,h16,h17]
 have HJ:=hid_of hJ
 have H1:=hid_of h1
 have H5:=hid_of h5
 have H11:=hid_of h11
 have H16:=hid_of h16
 have H17:=hid_of h17
 clear hJ hF h1 h5 h11 h16 h17
 obtain ⟨i0,hi0,hz0,hz1,hz2⟩:=info_parts Tryz.infoEnt
 have hjI:(j:Int)<(m:Int):=by omega
 have hmI:(m:Int)≤(ce:Int):=by omega
 have hpl1:p+1<w.heap.size:=World.block_lt_of_cell? _ _ c1
 have hbl1:b<w.heap.size:=World.block_lt_of_cell? _ _ he
 have HO:=hid_of hown
 have HN1:=hid_of hn1
 have HN2:=hid_of hn2
 have HCl:=hid_of hcall
 have HS:Hid (∀ w',Below w.heap.size w w'→w'.cell? ⟨p+1,1,none⟩=some (.int .i64 (k:Nat))∧w'.cell? ⟨b,o+j*2,none⟩=some (.slice Ap pl pc)∧w'.cell? ⟨b,o+j*2+1,none⟩=some (.int .i64 nv)):=fun w' hb=>⟨later_cell c1 hb,later_cell he hb,later_cell hn hb⟩
 clear hown hcall hn1 hn2
 conv=>arg 2;whnf
 refine wp_region_noPanic ?_
 refine wp_region_held_drew (S:=fun w'=>w'.cell? ⟨p+1,1,none⟩=some (.int .i64 (k:Nat))∧w'.cell? ⟨b,o+j*2,none⟩=some (.slice Ap pl pc)∧w'.cell? ⟨b,o+j*2+1,none⟩=some (.int .i64 nv)) (by kernel_rfl) (by (refine (fun hB=>HS.out _ hB) ?_;go_grown)) (fun hHeld=>?_)
 refine wpAnyH_take (i:=0) (v := ?v0) rfl (by kernel_rfl) (by kernel_rfl) (by kernel_rfl) (fun _ _ _ h=>h) (Or.inl ⟨by rfl,?y0⟩) hHeld ?r0
 case y0=>(intro w hSw;go_simp;try rfl)
 refine wpAnyH_take (i:=1) (v := ?v1) rfl (by kernel_rfl) (by kernel_rfl) (by kernel_rfl) (fun _ _ _ h=>h) (Or.inl ⟨by rfl,?y1⟩) hHeld ?r1
 case y1=>(intro w hSw;go_simp;try rfl)
 refine wpAnyH_take (i:=2) (v := ?v2) rfl (by kernel_rfl) (by kernel_rfl) (by kernel_rfl) (fun _ _ _ h=>h) (Or.inl ⟨by rfl,?y2⟩) hHeld ?r2
 case y2=>(intro w hSw;go_simp;try rfl)
 refine wpAnyH_take (i:=3) (v := ?v3) rfl (by kernel_rfl) (by kernel_rfl) (by kernel_rfl) (fun _ _ _ h=>h) (Or.inl ⟨by rfl,?y3⟩) hHeld ?r3
 case y3=>(intro w hSw;go_simp;try rfl)
 refine wpAnyH_take (i:=4) (v := ?v4) rfl (by kernel_rfl) (by kernel_rfl) (by kernel_rfl) (fun _ _ _ h=>h) (Or.inl ⟨by rfl,?y4⟩) hHeld ?r4
 case y4=>(intro w hSw;go_simp;try rfl)
 refine wpAnyH_take (i:=5) (v := ?v5) rfl (by kernel_rfl) (by kernel_rfl) (by kernel_rfl) (fun _ _ _ h=>h) (Or.inl ⟨by rfl,?y5⟩) hHeld ?r5
 case y5=>(intro w hSw;go_simp;try rfl)
 refine wpAnyH_take (i:=6) (v := ?v6) rfl (by kernel_rfl) (by kernel_rfl) (by kernel_rfl) (fun _ _ _ h=>h) (Or.inl ⟨by rfl,?y6⟩) hHeld ?r6
 case y6=>(intro w hSw;go_simp;try rfl)
 refine wpAnyH_take (i:=7) (v := ?v7) rfl (by kernel_rfl) (by kernel_rfl) (by kernel_rfl) (fun _ _ _ h=>h) (Or.inl ⟨by rfl,?y7⟩) hHeld ?r7
 case y7=>(intro w hSw;go_simp;try rfl)
 refine wpAnyH_take (i:=8) (v := ?v8) rfl (by kernel_rfl) (by kernel_rfl) (by kernel_rfl) (fun _ _ _ h=>h) (Or.inl ⟨by rfl,?y8⟩) hHeld ?r8
 case y8=>(intro w hSw;go_simp;try rfl)
 refine wpAnyH_take (i:=10) (v := ?v10) rfl (by kernel_rfl) (by kernel_rfl) (by kernel_rfl) (fun _ _ _ h=>h) (Or.inl ⟨by rfl,?y10⟩) hHeld ?r10
 case y10=>(intro w hSw;go_simp;try rfl)
 refine wpAnyH_take (i:=11) (v := ?v11) rfl (by kernel_rfl) (by kernel_rfl) (by kernel_rfl) (fun _ _ _ h=>h) (Or.inl ⟨by rfl,?y11⟩) hHeld ?r11
 case y11=>(intro w hSw;go_simp;try rfl)
 refine wpAnyH_take (i:=12) (v := ?v12) rfl (by kernel_rfl) (by kernel_rfl) (by kernel_rfl) (fun _ _ _ h=>h) (Or.inl ⟨by rfl,?y12⟩) hHeld ?r12
 case y12=>(intro w hSw;go_simp;try rfl)
 refine wpAnyH_take (i:=13) (v := ?v13) rfl (by kernel_rfl) (by kernel_rfl) (by kernel_rfl) (fun _ _ _ h=>h) (Or.inl ⟨by rfl,?y13⟩) hHeld ?r13
 case y13=>(intro w hSw;go_simp;try rfl)
 refine wpAnyH_take (i:=14) (v := ?v14) rfl (by kernel_rfl) (by kernel_rfl) (by kernel_rfl) (fun _ _ _ h=>h) (Or.inl ⟨by rfl,?y14⟩) hHeld ?r14
 case y14=>(intro w hSw;go_simp;try rfl)
 refine wpAnyH_ready (rs:=[9]) (by kernel_rfl) (by simp) ?_
 refine AllReadyH.cons rfl (fun K hK=>?_) AllReadyH.nil
 go_simp
 refine (HCl.out _ (by go_grown)).mono ?_
 rintro e wa ⟨⟨A',c',rfl,hX⟩,hba⟩
 have HX:=hid_of hX
 have hNa:=onB (W0:=w) (by go_grown) hba
 have hsa:=hNa.size
 have HNa:=hid_of hNa
 clear hba hX
 dsimp only
 refine hK.out _ _ (HS.out _ hNa) (fun hHeld=>?_)
 clear hK K
 refine wpAnyH_take (i:=15) (v := ?v15) rfl (by kernel_rfl) (by kernel_rfl) (by kernel_rfl) (fun _ _ _ h=>h) (Or.inl ⟨by rfl,?y15⟩) hHeld ?r15
 case y15=>(intro w hSw;go_simp;try rfl)
 refine wpAnyH_ready (rs:=[16]) (by kernel_rfl) (by simp) ?_
 refine AllReadyH.cons rfl (fun K hK=>?_) AllReadyH.nil
 go_simp
 refine hK.out _ _ (HS.out _ (by go_grown)) (fun hHeld=>?_)
 clear hK K
 refine wpAnyH_ready (rs:=[17]) (by kernel_rfl) (by simp) ?_
 refine AllReadyH.cons rfl (fun K hK=>?_) AllReadyH.nil
 refine step_append_lies _ (by rfl) _ _ _ (by rfl) B 51 i0 _ 2 32 Tryz.underlying25 hi0 hz0 hz1 hz2 rfl (by omega) (.slice Ao jo co) jo XS (by rfl) (own_stays HO.out (by go_grown)) ⟨wa.heap.size,0,none⟩ 1 1 [.slice A' pl c',.int .i64 nv] (by rfl) (by rfl) (World.news_of_block (cs := #[.slice A' pl c',.int .i64 nv]) (t:=51) (fr:=(0,0)) (heap_alloc_new _ _)) (by simp [Value.oneCell']) (by omega) (by unfold maxLen;omega) (by omega) (by simp;omega) _ rfl ?_
 intro gg cg w6 hown6 hgrow hat hlt6
 have HG6:=hid_of hown6
 have HW6:Hid (∃ wb,Below wa.heap.size wa wb∧wb.grownBy w6 (Value.slice Ao jo co).ownBlock):=⟨_,by go_grown,hgrow⟩
 have hS6:=And.intro ((hgrow.cell_far ⟨p+1,1,none⟩ (by simp;omega) HN1.out).trans (HS.out _ (by go_grown)).1) (And.intro ((hgrow.cell_far ⟨b,o+j*2,none⟩ (by simp;omega) HN2.out).trans (HS.out _ (by go_grown)).2.1) ((hgrow.cell_far ⟨b,o+j*2+1,none⟩ (by simp;omega) HN2.out).trans (HS.out _ (by go_grown)).2.2))
 clear hown6 hgrow hat
 refine hK.out _ _ (hS6) (fun hHeld=>?_)
 clear hK K
 refine wpAnyH_take (i:=18) (v := ?v18) rfl (by kernel_rfl) (by kernel_rfl) (by kernel_rfl) (fun _ _ _ h=>h) (Or.inl ⟨by rfl,?y18⟩) hHeld ?r18
 case y18=>(intro w hSw;go_simp;try rfl)
 refine wpAnyH_done (by kernel_rfl) ?_ _
 go_wp2_with fail
 refine HJ.out _ w6 wa A' c' gg cg ⟨rfl,?_⟩ HX.out HNa.out HG6.out HW6.out
 rw [←H1.out,←H5.out,←H16.out,←H17.out]
 rfl
end Go.Proofs.YtfldgghobddgkaaGreatDoor
namespace Go.Proofs.YtfldgghobddgkaaGreatDoor
open Go.ChangeShapes Go.WideShapes Go.ChangeAt Go.RowKit
set_option maxRecDepth 20000
theorem cellsDo_put {D:Nat→Dm} {A:Nat→Option Addr} {C:Nat→Nat} {n k:Nat} {d:Dm} {Ad:Option Addr} {Cd:Nat} (hk:k<n) :
  (((cellsDo D A C n).set (k*3) (.string d.name)).set (k*3+1) (.int .i64 d.solve)).set (k*3+2) (.slice Ad d.n Cd)=cellsDo (putD D k d) (fun i=>if i=k then Ad else A i) (fun i=>if i=k then Cd else C i) n:=by
 rw [←rowF_dc,←rowF_dc]
 refine List.ext_getElem? fun j=>?_
 rw [List.getElem?_set,List.getElem?_set,List.getElem?_set]
 simp only [List.length_set,rowF_len]
 by_cases hj:j<n*3
 ·rw [rowF_get _ hj,rowF_get _ hj]
  unfold dcV
  by_cases e2:k*3+2=j
  ·subst e2
   rw [if_pos rfl,if_pos hj,if_neg (by omega),if_neg (by omega),show (k*3+2) / 3=k by omega,putD_at]
   simp
  rw [if_neg e2]
  by_cases e1:k*3+1=j
  ·subst e1
   rw [if_pos rfl,if_pos hj,if_neg (by omega),if_pos (by omega),show (k*3+1) / 3=k by omega,putD_at]
  rw [if_neg e1]
  by_cases e0:k*3=j
  ·subst e0
   rw [if_pos rfl,if_pos hj,if_pos (by omega),show (k*3) / 3=k by omega,putD_at]
  rw [if_neg e0]
  have hne:j / 3≠k:=by omega
  rw [putD_off D _ hne]
  simp only [if_neg hne]
 ·rw [if_neg (by omega),if_neg (by omega),if_neg (by omega),List.getElem?_eq_none (by rw [rowF_len];omega),List.getElem?_eq_none (by rw [rowF_len];omega)]
theorem dims_row {w:World} {B g cap n:Nat} {D:Nat→Dm} {A:Nat→Option Addr} {C:Nat→Nat} (h:w.ownsRow B 41 3 (.slice (some ⟨g,0,none⟩) n cap) n (cellsDo D A C n)) (hM:∀ i,i<n→MemsV w (A i) (C i) (D i).n (D i).mem):DimsV w (some ⟨g,0,none⟩) cap n D A C:=by
 obtain ⟨-,b2,b3,-,-⟩:=ow_blk h
 refine ⟨b3,Or.inr ⟨g,0,rfl,b2,fun i hi=>?_⟩⟩
 obtain ⟨x0,x1,x2⟩:=cellsDo_at D A C n i hi
 exact ⟨by rw [Nat.zero_add,h.cellAt _ (by omega)];exact x0,by rw [Nat.zero_add,h.cellAt _ (by omega)];exact x1,by rw [Nat.zero_add,h.cellAt _ (by omega)];exact x2,hM i hi⟩
theorem four_new (w:World) (a b c d:Obj):((((w.alloc a).alloc b).alloc c).alloc d).heap[w.heap.size]?=some a∧((((w.alloc a).alloc b).alloc c).alloc d).heap[w.heap.size+1]?=some b∧((((w.alloc a).alloc b).alloc c).alloc d).heap[w.heap.size+1+1]?=some c∧((((w.alloc a).alloc b).alloc c).alloc d).heap[w.heap.size+1+1+1]?=some d∧((((w.alloc a).alloc b).alloc c).alloc d).heap.size=w.heap.size+1+1+1+1:=by
 have e:∀ (w:World) (a:Obj),(w.alloc a).heap=w.heap.push a:=fun _ _=>rfl
 simp only [e,Array.getElem?_push,Array.size_push]
 refine ⟨?_,?_,?_,?_,trivial⟩
 ·rw [if_neg (by omega),if_neg (by omega),if_neg (by omega),if_pos trivial]
 ·rw [if_neg (by omega),if_neg (by omega),if_pos trivial]
 ·rw [if_neg (by omega),if_pos trivial]
 ·rw [if_pos trivial]
set_option maxHeartbeats 4000000 in
theorem rother_any (A0:Option Addr) (n cap k:Nat) (D:Nat→Dm) (A:Nat→Option Addr) (C:Nat→Nat) (d:Dm) (Ad:Option Addr) (Cd:Nat) (w:World) (hD:DimsV w A0 cap n D A C) (hk:k<n) (hn:n≤4) (hM:MemsV w Ad Cd d.n d.mem) :
  Calls Tryz.prog 19 #[.agg #[.slice A0 n cap],.int .i64 (k:Nat),.agg #[.string d.name,.int .i64 d.solve,.slice Ad d.n Cd]] w fun e w'=>(∃ A' c',e=.returned (.agg #[.slice A' n c'])∧DimsV w' A' c' n (putD D k d) (fun i=>if i=k then Ad else A i) (fun i=>if i=k then Cd else C i))∧Below w.heap.size w w':=by
 obtain ⟨i0,hi0,hz0,hz1,hz2⟩:=info_parts Tryz.infoDimH
 obtain ⟨hcap,h0 | ⟨b,o,rfl,hL⟩⟩:=hD
 ·omega
 have HMs:Hid (∀ w',Below w.heap.size w w'→∀ i,i<n→MemsV w' (if i=k then Ad else A i) (if i=k then Cd else C i) (putD D k d i).n (putD D k d i).mem):=fun w' hb i hi=>by
  by_cases e:i=k
  ·subst e
   rw [if_pos rfl,if_pos rfl,putD_at]
   exact hM.later hb
  ·rw [if_neg e,if_neg e,putD_off D _ e]
   exact (hL.2 i hi).2.2.2.later hb
 have HXc0:Hid (∀ w',Below w.heap.size w w'→∀ j u,(cellsDo D A C n)[j]?=some u→w'.cell? ((⟨b,o,none⟩:Addr).add j)=some u):=fun w' hb j u hj=>by
  rw [←rowF_dc] at hj
  obtain ⟨h1,rfl⟩:=rowF_at hj
  rw [plain_add]
  exact (hL.later hb).dc h1
 have HXo0:Hid (∀ u∈cellsDo D A C n,u.oneCell'=true):=by show ∀ u∈_,_;rw [←rowF_dc];exact dcV_one D A C (n*3)
 have HXl0:Hid ((cellsDo D A C n).length=n*3):=cellsDo_len D A C n
 have HPut:Hid (∀ (v0 v1 v2:Value),v0=.string d.name→v1=.int .i64 d.solve→v2=.slice Ad d.n Cd→(((cellsDo D A C n).set (k*3) v0).set (k*3+1) v1).set (k*3+2) v2=cellsDo (putD D k d) (fun i=>if i=k then Ad else A i) (fun i=>if i=k then Cd else C i) n):=by
  rintro v0 v1 v2 rfl rfl rfl
  exact cellsDo_put hk
 obtain ⟨XS,hXS⟩:∃ XS,cellsDo D A C n=XS:=⟨_,rfl⟩
 rw [hXS] at HXc0 HXo0 HXl0 HPut
 obtain ⟨y0,hy0⟩:∃ x,XS[k*3]?=some x:=⟨_,List.getElem?_eq_getElem (by rw [HXl0.out];omega)⟩
 obtain ⟨y1,hy1⟩:∃ x,XS[k*3+1]?=some x:=⟨_,List.getElem?_eq_getElem (by rw [HXl0.out];omega)⟩
 obtain ⟨y2,hy2⟩:∃ x,XS[k*3+2]?=some x:=⟨_,List.getElem?_eq_getElem (by rw [HXl0.out];omega)⟩
 have HY:=hid_of (And.intro hy0 (And.intro hy1 hy2))
 clear hy0 hy1 hy2
 have hkI:(k:Int)<(n:Int):=by omega
 have hnI:(n:Int)≤4:=by omega
 clear hL hM hXS
 go_enter Tryz.func19,Tryz.ntmps19
 go_wp2_with (at_builtin;refine wpList_append_lies _ rfl _ _ 22 rfl w.heap.size 41 i0 _ 3 48 Tryz.underlying22 hi0 hz0 hz1 hz2 rfl (by omega) (.slice none 0 0) 0 [] (by rfl) (World.ownsRow_nil _ _ _ _) ⟨b,o,none⟩ n cap XS (by rfl) HXl0.out (HXc0.out _ (by go_grown)) HXo0.out (by omega) (by unfold maxLen;omega) (by omega) (by simp;omega) _ rfl ?_;intro gg cg w6 hown6 hgrow hat hlt6;have hF4:=four_new w (.cells #[.slice (some ⟨b,o,none⟩) n cap] 24) (.cells #[.string d.name,.int .i64 d.solve,.slice Ad d.n Cd] 41) (.cells #[.slice none 0 0] 24) (.cells #[.slice none 0 0] 24);obtain ⟨f0,f1,f2,f3,f4⟩:=hF4;obtain rfl:gg=w.heap.size+1+1+1+1:=hat.elim (fun e=>by cases e) (fun e=>e.trans f4);rw [Nat.zero_add,List.nil_append] at hown6;have HW4:=hid_of (And.intro hown6 (And.intro hgrow f4));have k0:=(hgrow.block _ (Array.getElem?_eq_some_iff.1 f0).1 (by intro e;cases e)).trans f0;have k1:=(hgrow.block _ (Array.getElem?_eq_some_iff.1 f1).1 (by intro e;cases e)).trans f1;have k2:=(hgrow.block _ (Array.getElem?_eq_some_iff.1 f2).1 (by intro e;cases e)).trans f2;have k3:=(hgrow.block _ (Array.getElem?_eq_some_iff.1 f3).1 (by intro e;cases e)).trans f3;have c10:w6.cell? ⟨w.heap.size+1,0,none⟩=some (.string d.name):=(Lib.cell_of_heap k1 0).trans rfl;have c11:w6.cell? ⟨w.heap.size+1,1,none⟩=some (.int .i64 d.solve):=(Lib.cell_of_heap k1 1).trans rfl;have c12:w6.cell? ⟨w.heap.size+1,2,none⟩=some (.slice Ad d.n Cd):=(Lib.cell_of_heap k1 2).trans rfl;have c20:w6.cell? ⟨w.heap.size+1+1,0,none⟩=some (.slice none 0 0):=(Lib.cell_of_heap k2 0).trans rfl;have c30:w6.cell? ⟨w.heap.size+1+1+1,0,none⟩=some (.slice none 0 0):=(Lib.cell_of_heap k3 0).trans rfl;have z20:=Lib.frozen_of_heap k2 0;have z30:=Lib.frozen_of_heap k3 0;have g0:=(hown6.cellAt (k*3) (by omega)).trans HY.out.1;have g1:=(hown6.cellAt (k*3+1) (by omega)).trans HY.out.2.1;have g2:=(hown6.cellAt (k*3+2) (by omega)).trans HY.out.2.2;have u0:=hown6.frozenAt (k*3);have u1:=hown6.frozenAt (k*3+1);have u2:=hown6.frozenAt (k*3+2);have s60:w.heap.size+1+1+1+1<w6.heap.size:=hlt6;clear hown6 hgrow hat hlt6 f0 f1 f2 f3 f4 k0 k1 k2 k3)
 obtain ⟨hown,hgrow,hf4⟩:=HW4.out
 have hB6:Below w.heap.size w w6:=by
  refine (Below.refl _ w).alloc (Nat.le_refl _) _ |>.alloc (by simp) _ |>.alloc (by simp;omega) _ |>.alloc (by simp;omega) _ |>.grown hgrow (by simp;omega) (by intro k hk;cases hk)
 have hlt:=(ow_blk hown).2.1
 have hb5:=hB6.setCell (p:=⟨w.heap.size+1+1+1,0,none⟩) (by simp;omega) (.slice (some ⟨w.heap.size+1+1+1+1,0,none⟩) n cg)
 have hb7:=hb5.setCell (p:=⟨w.heap.size+1+1+1+1,k*3,none⟩) (by simp;omega) (.string d.name)
 have hb8:=hb7.setCell (p:=⟨w.heap.size+1+1+1+1,k*3+1,none⟩) (by simp;omega) (.int .i64 d.solve)
 have hb9:=hb8.setCell (p:=⟨w.heap.size+1+1+1+1,k*3+2,none⟩) (by simp;omega) (.slice Ad d.n Cd)
 have hbF:=hb9.setCell (p:=⟨w.heap.size+1+1,0,none⟩) (by simp;omega) (.slice (some ⟨w.heap.size+1+1+1+1,0,none⟩) n cg)
 have hrw:=ow_off (g:=w.heap.size+1+1+1) (j:=0) (u:=.slice (some ⟨w.heap.size+1+1+1+1,0,none⟩) n cg) hown (by simp [Value.ownBlock])
 have hrx:=(((hrw.stored (k*3) (.string d.name)).1.stored (k*3+1) (.int .i64 d.solve)).1.stored (k*3+2) (.slice Ad d.n Cd)).1
 rw [HPut.out _ _ _ rfl rfl rfl] at hrx
 have hry:=ow_off (g:=w.heap.size+1+1) (j:=0) (u:=.slice (some ⟨w.heap.size+1+1+1+1,0,none⟩) n cg) hrx (by simp [Value.ownBlock];omega)
 have hres:=World.cell?_setCell_same ((((w6.setCell ⟨w.heap.size+1+1+1,0,none⟩ (.slice (some ⟨w.heap.size+1+1+1+1,0,none⟩) n cg)).setCell ⟨w.heap.size+1+1+1+1,k*3,none⟩ (.string d.name)).setCell ⟨w.heap.size+1+1+1+1,k*3+1,none⟩ (.int .i64 d.solve)).setCell ⟨w.heap.size+1+1+1+1,k*3+2,none⟩ (.slice Ad d.n Cd)) ⟨w.heap.size+1+1,0,none⟩ (.slice (some ⟨w.heap.size+1+1+1+1,0,none⟩) n cg) (u:=.slice none 0 0) (by
  rw [World.cell?_setCell_other _ _ _ _ (by simp),World.cell?_setCell_other _ _ _ _ (by simp),World.cell?_setCell_other _ _ _ _ (by simp),World.cell?_setCell_other _ _ _ _ (by simp)]
  exact c20)
 refine bodyPost_ret (v:=.agg #[.slice (some ⟨w.heap.size+1+1+1+1,0,none⟩) n cg]) (by simp [results,Tryz.results19,go_sem,hres]) rfl ⟨⟨_,_,rfl,dims_row hry fun i hi=>HMs.out _ hbF i hi⟩,hbF⟩
end Go.Proofs.YtfldgghobddgkaaGreatDoor
