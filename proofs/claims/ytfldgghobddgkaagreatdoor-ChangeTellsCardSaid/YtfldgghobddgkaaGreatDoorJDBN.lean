/-
  tallyref2.Change: Rename, region by region.
-/
import Derived.Test.YtfldgghobddgkaaGreatDoorJDBL
namespace Go.Proofs.YtfldgghobddgkaaGreatDoor
open Go Go.ChangeShapes Go.WideShapes Go.ChangeAt Go.RowKit
set_option maxRecDepth 1000000
set_option maxHeartbeats 64000000
theorem ctL42 (T:Array Value) (s:Nat→Value) (p:Nat) (nm:ByteArray) (E:Int) (w:World) (hF:ctF T s) (h5:s 5=.pointer (some ⟨(p+1),0,none⟩)) (c3:w.cell? ⟨p+1,3,none⟩=some (.string nm)) (hcall:Calls Tryz.prog 15 #[.string nm] w fun e w'=>e=.returned (.int .i64 E)∧Below w.heap.size w w') (J:Act→World→Prop) (Q:Exit→Act→World→Prop)
  (hJ:∀ T' w',ctF T' (upG s 9 (.int .i64 E))→Below w.heap.size w w'→J ⟨T',[]⟩ w'):Code.wp Tryz.prog (ctC [1,1,1,1,1,1,1,1,1,0,1,3,1,5,1,5,1,2,0]) (Exit.then J Q) ⟨T,[]⟩ w:=by
 obtain ⟨xF,rfl⟩:=ct_open hF
 unfold ctL
 rw [h5]
 have HJ:=hid_of hJ
 have H5:=hid_of h5
 clear hJ hF h5
 conv=>arg 2;whnf
 go_wp2_with fail
 refine hcall.mono ?_
 rintro e w1 ⟨rfl,hb⟩
 have HX:=hid_of hb
 clear hcall hb
 go_wp2_with fail
 refine HJ.out _ w1 ⟨rfl,?_⟩ HX.out
 rw [←H5.out]
 rfl
theorem ctL43 (T:Array Value) (s:Nat→Value) (p q m C:Nat) (A:Option Addr) (dnm nm:ByteArray) (sv k:Int) (w:World) (hF:ctF T s) (h5:s 5=.pointer (some ⟨(p+1),0,none⟩)) (h10:s 10=.pointer (some ⟨q,0,none⟩)) (c3:w.cell? ⟨p+1,3,none⟩=some (.string nm)) (d0:w.cell? ⟨q,0,none⟩=some (.string dnm)) (d1:w.cell? ⟨q,1,none⟩=some (.int .i64 sv)) (d2:w.cell? ⟨q,2,none⟩=some (.slice A m C)) (hcall:Calls Tryz.prog 16 #[.agg #[.string dnm,.int .i64 sv,.slice A m C],.string nm] w fun e w'=>e=.returned (.int .i64 k)∧Below w.heap.size w w') (J:Act→World→Prop) (Q:Exit→Act→World→Prop)
  (hJ:∀ T' w',ctF T' (upG s 18 (.int .i64 k))→Below w.heap.size w w'→J ⟨T',[]⟩ w'):Code.wp Tryz.prog (ctC [1,1,1,1,1,1,1,1,1,0,1,3,1,5,1,5,1,2,1,0]) (Exit.then J Q) ⟨T,[]⟩ w:=by
 obtain ⟨xF,rfl⟩:=ct_open hF
 unfold ctL
 rw [h5,h10]
 have HJ:=hid_of hJ
 have H5:=hid_of h5
 have H10:=hid_of h10
 clear hJ hF h5 h10
 conv=>arg 2;whnf
 go_wp2_with fail
 refine hcall.mono ?_
 rintro e w1 ⟨rfl,hb⟩
 have HX:=hid_of hb
 clear hcall hb
 go_wp2_with fail
 refine HJ.out _ w1 ⟨rfl,?_⟩ HX.out
 rw [←H5.out,←H10.out]
 rfl
theorem ctL44 (T:Array Value) (s:Nat→Value) (i:Nat) (E k:Int) (w:World) (hF:ctF T s) (h9:s 9=.int .i64 E) (h12:s 12=.int .i64 (i:Nat)) (h18:s 18=.int .i64 k)  (J:Act→World→Prop) (Q:Exit→Act→World→Prop)
  (hJ:∀ T',ctF T' s→Act.eval ⟨T',[]⟩ (.tmp 251)=.bool (decide (E=0∧0≤k∧k≠(i:Int)))→J ⟨T',[]⟩ w):Code.wp Tryz.prog (ctC [1,1,1,1,1,1,1,1,1,0,1,3,1,5,1,5,1,2,1,1,0,0]) (Exit.then J Q) ⟨T,[]⟩ w:=by
 obtain ⟨xF,rfl⟩:=ct_open hF
 unfold ctL
 rw [h9,h12,h18]
 have HJ:=hid_of hJ
 have H9:=hid_of h9
 have H12:=hid_of h12
 have H18:=hid_of h18
 clear hJ hF h9 h12 h18
 conv=>arg 2;whnf
 by_cases h0:E=0
 ·have h0b:(E == 0)=true:=by simpa using h0
  by_cases h1:0≤k
  ·by_cases h2:k=(i:Int)
   ·have HL:=hid_of (decide_eq_false (p:=E=0∧0≤k∧k≠(i:Int)) (fun h=>h.2.2 h2))
    have h2b:(k == (i:Int))=true:=by simpa using h2
    have h2c:(k != (i:Int))=false:=by simpa using h2
    clear h0 h2
    go_wp2_with fail
    refine HJ.out _ ⟨rfl,?_⟩ (by rw [HL.out];rfl)
    rw [←H9.out,←H12.out,←H18.out]
    rfl
   ·have HL:=hid_of (decide_eq_true (p:=E=0∧0≤k∧k≠(i:Int)) ⟨h0,h1,h2⟩)
    have h2b:(k == (i:Int))=false:=by simpa using h2
    have h2c:(k != (i:Int))=true:=by simpa using h2
    clear h0 h2
    go_wp2_with fail
    refine HJ.out _ ⟨rfl,?_⟩ (by rw [HL.out];rfl)
    rw [←H9.out,←H12.out,←H18.out]
    rfl
  ·have HL:=hid_of (decide_eq_false (p:=E=0∧0≤k∧k≠(i:Int)) (fun h=>h1 h.2.1))
   clear h0
   go_wp2_with fail
   refine HJ.out _ ⟨rfl,?_⟩ (by rw [HL.out];rfl)
   rw [←H9.out,←H12.out,←H18.out]
   rfl
 ·have h0b:(E == 0)=false:=by simpa using h0
  have HL:=hid_of (decide_eq_false (p:=E=0∧0≤k∧k≠(i:Int)) (fun h=>h0 h.1))
  clear h0
  go_wp2_with fail
  refine HJ.out _ ⟨rfl,?_⟩ (by rw [HL.out];rfl)
  rw [←H9.out,←H12.out,←H18.out]
  rfl
theorem ctL45 (T:Array Value) (s:Nat→Value)  (w:World) (hF:ctF T s)   (J:Act→World→Prop) (Q:Exit→Act→World→Prop)
  (hJ:∀ T',ctF T' (upG s 9 (.int .i64 7))→J ⟨T',[]⟩ w):Code.wp Tryz.prog (ctC [1,1,1,1,1,1,1,1,1,0,1,3,1,5,1,5,1,2,1,1,0,1,2]) (Exit.then J Q) ⟨T,[]⟩ w:=by
 obtain ⟨xF,rfl⟩:=ct_open hF
 unfold ctL
 have HJ:=hid_of hJ
 clear hJ hF 
 conv=>arg 2;whnf
 go_wp2_with fail
 refine HJ.out _ ⟨rfl,?_⟩ 
 rfl
theorem ctL63 (T:Array Value) (s:Nat→Value)  (w:World) (hF:ctF T s)   (J:Act→World→Prop) (Q:Exit→Act→World→Prop)
  (hJ:∀ T',ctF T' (upG s 9 (.int .i64 4))→J ⟨T',[]⟩ w):Code.wp Tryz.prog (ctC [1,1,1,1,1,1,1,1,1,0,1,3,1,5,1,5,1,2,1,1,1,1,0,1,3,4,1,0,3,1,1,1,1,1,2,1,1,1,2]) (Exit.then J Q) ⟨T,[]⟩ w:=by
 obtain ⟨xF,rfl⟩:=ct_open hF
 unfold ctL
 have HJ:=hid_of hJ
 clear hJ hF 
 conv=>arg 2;whnf
 go_wp2_with fail
 refine HJ.out _ ⟨rfl,?_⟩ 
 rfl
theorem ctL46 (T:Array Value) (s:Nat→Value) (q g m C i:Nat) (old:ByteArray) (w:World) (hF:ctF T s) (h10:s 10=.pointer (some ⟨q,0,none⟩)) (h12:s 12=.int .i64 (i:Nat)) (hc:w.cell? ⟨q,2,none⟩=some (.slice (some ⟨g,0,none⟩) m C)) (hi:i<m) (hmC:m≤C) (y0:w.cell? ⟨g,i*4,none⟩=some (.string old)) (J:Act→World→Prop) (Q:Exit→Act→World→Prop)
  (hJ:∀ T',ctF T' (upG s 19 (.string old))→J ⟨T',[]⟩ w):Code.wp Tryz.prog (ctC [1,1,1,1,1,1,1,1,1,0,1,3,1,5,1,5,1,2,1,1,1,0]) (Exit.then J Q) ⟨T,[]⟩ w:=by
 obtain ⟨xF,rfl⟩:=ct_open hF
 unfold ctL
 rw [h10,h12]
 have HJ:=hid_of hJ
 have H10:=hid_of h10
 have H12:=hid_of h12
 clear hJ hF h10 h12
 conv=>arg 2;whnf
 have hiI:(i:Int)<(m:Int):=by omega
 have hmI:(m:Int)≤(C:Int):=by omega
 go_wp2_with fail
 refine HJ.out _ ⟨rfl,?_⟩ 
 rw [←H10.out,←H12.out]
 rfl
theorem ctL47 (T:Array Value) (s:Nat→Value)  (w:World) (hF:ctF T s)   (J:Act→World→Prop) (Q:Exit→Act→World→Prop)
  (hJ:∀ T',ctF T' (upG s 20 (.int .i64 0))→J ⟨T',[]⟩ w):Code.wp Tryz.prog (ctC [1,1,1,1,1,1,1,1,1,0,1,3,1,5,1,5,1,2,1,1,1,1,0,0]) (Exit.then J Q) ⟨T,[]⟩ w:=by
 obtain ⟨xF,rfl⟩:=ct_open hF
 unfold ctL
 have HJ:=hid_of hJ
 clear hJ hF 
 conv=>arg 2;whnf
 go_wp2_with fail
 refine HJ.out _ ⟨rfl,?_⟩ 
 rfl
theorem ctL49 (T:Array Value) (s:Nat→Value) (k:Nat) (w:World) (hF:ctF T s) (h20:s 20=.int .i64 (k:Nat)) (hk:k≤4611686018427387904) (J:Act→World→Prop) (Q:Exit→Act→World→Prop)
  (hJ:∀ T',ctF T' (upG s 20 (.int .i64 (k+1:Nat)))→J ⟨T',[]⟩ w):Code.wp Tryz.prog (ctC [1,1,1,1,1,1,1,1,1,0,1,3,1,5,1,5,1,2,1,1,1,1,0,1,3,4,1,1]) (Exit.then J Q) ⟨T,[]⟩ w:=by
 obtain ⟨xF,rfl⟩:=ct_open hF
 unfold ctL
 rw [h20]
 have HJ:=hid_of hJ
 have H20:=hid_of h20
 clear hJ hF h20
 conv=>arg 2;whnf
 have h1:(k:Int)+1≤9223372036854775807:=by omega
 go_wp2_with fail
 refine HJ.out _ ⟨rfl,?_⟩ 
 rfl
theorem ctL52 (T:Array Value) (s:Nat→Value)  (w:World) (hF:ctF T s)   (J:Act→World→Prop) (Q:Exit→Act→World→Prop)
  (hJ:∀ T',ctF T' (upG s 24 (.bool false))→J ⟨T',[]⟩ w):Code.wp Tryz.prog (ctC [1,1,1,1,1,1,1,1,1,0,1,3,1,5,1,5,1,2,1,1,1,1,0,1,3,4,1,0,3,1,1,0]) (Exit.then J Q) ⟨T,[]⟩ w:=by
 obtain ⟨xF,rfl⟩:=ct_open hF
 unfold ctL
 have HJ:=hid_of hJ
 clear hJ hF 
 conv=>arg 2;whnf
 go_wp2_with fail
 refine HJ.out _ ⟨rfl,?_⟩ 
 rfl
theorem ctL53 (T:Array Value) (s:Nat→Value)  (w:World) (hF:ctF T s)   (J:Act→World→Prop) (Q:Exit→Act→World→Prop)
  (hJ:∀ T',ctF T' (upG s 25 (.int .i64 0))→J ⟨T',[]⟩ w):Code.wp Tryz.prog (ctC [1,1,1,1,1,1,1,1,1,0,1,3,1,5,1,5,1,2,1,1,1,1,0,1,3,4,1,0,3,1,1,1,0,0]) (Exit.then J Q) ⟨T,[]⟩ w:=by
 obtain ⟨xF,rfl⟩:=ct_open hF
 unfold ctL
 have HJ:=hid_of hJ
 clear hJ hF 
 conv=>arg 2;whnf
 go_wp2_with fail
 refine HJ.out _ ⟨rfl,?_⟩ 
 rfl
theorem ctL55 (T:Array Value) (s:Nat→Value) (k:Nat) (w:World) (hF:ctF T s) (h25:s 25=.int .i64 (k:Nat)) (hk:k≤4611686018427387904) (J:Act→World→Prop) (Q:Exit→Act→World→Prop)
  (hJ:∀ T',ctF T' (upG s 25 (.int .i64 (k+1:Nat)))→J ⟨T',[]⟩ w):Code.wp Tryz.prog (ctC [1,1,1,1,1,1,1,1,1,0,1,3,1,5,1,5,1,2,1,1,1,1,0,1,3,4,1,0,3,1,1,1,0,1,3,4,1,1]) (Exit.then J Q) ⟨T,[]⟩ w:=by
 obtain ⟨xF,rfl⟩:=ct_open hF
 unfold ctL
 rw [h25]
 have HJ:=hid_of hJ
 have H25:=hid_of h25
 clear hJ hF h25
 conv=>arg 2;whnf
 have h1:(k:Int)+1≤9223372036854775807:=by omega
 go_wp2_with fail
 refine HJ.out _ ⟨rfl,?_⟩ 
 rfl
theorem ctL58 (T:Array Value) (s:Nat→Value)  (w:World) (hF:ctF T s)   (J:Act→World→Prop) (Q:Exit→Act→World→Prop)
  (hJ:∀ T',ctF T' (upG s 24 (.bool true))→J ⟨T',[]⟩ w):Code.wp Tryz.prog (ctC [1,1,1,1,1,1,1,1,1,0,1,3,1,5,1,5,1,2,1,1,1,1,0,1,3,4,1,0,3,1,1,1,0,1,3,4,1,0,3,1,2,1]) (Exit.then J Q) ⟨T,[]⟩ w:=by
 obtain ⟨xF,rfl⟩:=ct_open hF
 unfold ctL
 have HJ:=hid_of hJ
 clear hJ hF 
 conv=>arg 2;whnf
 go_wp2_with fail
 refine HJ.out _ ⟨rfl,?_⟩ 
 rfl
theorem ctL48 (T:Array Value) (s:Nat→Value) (q k m C:Nat) (A:Option Addr) (E:Int) (w:World) (hF:ctF T s) (h9:s 9=.int .i64 E) (h10:s 10=.pointer (some ⟨q,0,none⟩)) (h20:s 20=.int .i64 (k:Nat)) (hc:w.cell? ⟨q,2,none⟩=some (.slice A m C)) (J:Act→World→Prop) (Q:Exit→Act→World→Prop)
  (hJ:∀ T',ctF T' s→Act.eval ⟨T',[]⟩ (.tmp 266)=.bool (decide (k<m∧E=0))→J ⟨T',[]⟩ w):Code.wp Tryz.prog (ctC [1,1,1,1,1,1,1,1,1,0,1,3,1,5,1,5,1,2,1,1,1,1,0,1,3,4,0,0]) (Exit.then J Q) ⟨T,[]⟩ w:=by
 obtain ⟨xF,rfl⟩:=ct_open hF
 unfold ctL
 rw [h9,h10,h20]
 have HJ:=hid_of hJ
 have H9:=hid_of h9
 have H10:=hid_of h10
 have H20:=hid_of h20
 clear hJ hF h9 h10 h20
 conv=>arg 2;whnf
 by_cases h1:k<m
 ·have h1I:(k:Int)<(m:Int):=by omega
  by_cases h0:E=0
  ·have HL:=hid_of (decide_eq_true (p:=k<m∧E=0) ⟨h1,h0⟩)
   have h0b:(E == 0)=true:=by simpa using h0
   clear h0
   go_wp2_with fail
   refine HJ.out _ ⟨rfl,?_⟩ (by rw [HL.out];rfl)
   rw [←H9.out,←H10.out,←H20.out]
   rfl
  ·have HL:=hid_of (decide_eq_false (p:=k<m∧E=0) (fun h=>h0 h.2))
   have h0b:(E == 0)=false:=by simpa using h0
   clear h0
   go_wp2_with fail
   refine HJ.out _ ⟨rfl,?_⟩ (by rw [HL.out];rfl)
   rw [←H9.out,←H10.out,←H20.out]
   rfl
 ·have h1I : ¬ (k:Int)<(m:Int):=by omega
  have HL:=hid_of (decide_eq_false (p:=k<m∧E=0) (fun h=>h1 h.1))
  go_wp2_with fail
  refine HJ.out _ ⟨rfl,?_⟩ (by rw [HL.out];rfl)
  rw [←H9.out,←H10.out,←H20.out]
  rfl
theorem ctL50 (T:Array Value) (s:Nat→Value) (q g m C k:Nat) (fo:ByteArray) (w:World) (hF:ctF T s) (h10:s 10=.pointer (some ⟨q,0,none⟩)) (h20:s 20=.int .i64 (k:Nat)) (hc:w.cell? ⟨q,2,none⟩=some (.slice (some ⟨g,0,none⟩) m C)) (hk:k<m) (hmC:m≤C) (y3:w.cell? ⟨g,k*4+3,none⟩=some (.string fo)) (J:Act→World→Prop) (Q:Exit→Act→World→Prop)
  (hJ:∀ T',ctF T' s→Act.eval ⟨T',[]⟩ (.tmp 275)=.bool fo.toList.isEmpty→J ⟨T',[]⟩ w):Code.wp Tryz.prog (ctC [1,1,1,1,1,1,1,1,1,0,1,3,1,5,1,5,1,2,1,1,1,1,0,1,3,4,1,0,3,0,0]) (Exit.then J Q) ⟨T,[]⟩ w:=by
 obtain ⟨xF,rfl⟩:=ct_open hF
 unfold ctL
 rw [h10,h20]
 have HJ:=hid_of hJ
 have H10:=hid_of h10
 have H20:=hid_of h20
 clear hJ hF h10 h20
 conv=>arg 2;whnf
 have hkI:(k:Int)<(m:Int):=by omega
 have hmI:(m:Int)≤(C:Int):=by omega
 cases hb:fo.toList.isEmpty
 ·go_wp2_with fail
  refine HJ.out _ ⟨rfl,?_⟩ (by rw [hb];rfl)
  rw [←H10.out,←H20.out]
  rfl
 ·have hb2:fo.toList=[]:=List.isEmpty_iff.1 hb
  go_wp2_with fail
  refine HJ.out _ ⟨rfl,?_⟩ (by rw [hb];rfl)
  rw [←H10.out,←H20.out]
  rfl
theorem ctL51 (T:Array Value) (s:Nat→Value) (q g m C k nl:Nat) (fo:ByteArray) (v2 v3:Int) (X:Option Addr→Nat→World→Prop) (w:World) (hF:ctF T s) (h10:s 10=.pointer (some ⟨q,0,none⟩)) (h20:s 20=.int .i64 (k:Nat)) (hc:w.cell? ⟨q,2,none⟩=some (.slice (some ⟨g,0,none⟩) m C)) (hk:k<m) (hmC:m≤C) (y3:w.cell? ⟨g,k*4+3,none⟩=some (.string fo)) (hcall:Calls Tryz.prog 17 #[.string fo] w fun e w'=>(∃ A' c',e=.returned (.tuple #[.slice A' nl c',.int .i64 v2,.int .i64 v3])∧X A' c' w')∧Below w.heap.size w w') (J:Act→World→Prop) (Q:Exit→Act→World→Prop)
  (hJ:∀ T' w' A' c',ctF T' (upG (upG (upG s 21 (.slice A' nl c')) 22 (.int .i64 v2)) 23 (.int .i64 v3))→X A' c' w'→Below w.heap.size w w'→J ⟨T',[]⟩ w'):Code.wp Tryz.prog (ctC [1,1,1,1,1,1,1,1,1,0,1,3,1,5,1,5,1,2,1,1,1,1,0,1,3,4,1,0,3,1,0]) (Exit.then J Q) ⟨T,[]⟩ w:=by
 obtain ⟨xF,rfl⟩:=ct_open hF
 unfold ctL
 rw [h10,h20]
 have HJ:=hid_of hJ
 have H10:=hid_of h10
 have H20:=hid_of h20
 clear hJ hF h10 h20
 conv=>arg 2;whnf
 have hkI:(k:Int)<(m:Int):=by omega
 have hmI:(m:Int)≤(C:Int):=by omega
 go_wp2_with fail
 refine hcall.mono ?_
 rintro e w1 ⟨⟨A',c',rfl,hX⟩,hb⟩
 have HX:=hid_of hX
 have HB:=hid_of hb
 clear hcall hb hX
 go_wp2_with fail
 refine HJ.out _ w1 A' c' ⟨rfl,?_⟩ HX.out HB.out
 rw [←H10.out,←H20.out]
 rfl
theorem ctL54 (T:Array Value) (s:Nat→Value) (k m cf:Nat) (Af:Option Addr) (w:World) (hF:ctF T s) (h21:s 21=.slice Af m cf) (h25:s 25=.int .i64 (k:Nat))  (J:Act→World→Prop) (Q:Exit→Act→World→Prop)
  (hJ:∀ T',ctF T' s→Act.eval ⟨T',[]⟩ (.tmp 290)=.bool (decide (k<m))→J ⟨T',[]⟩ w):Code.wp Tryz.prog (ctC [1,1,1,1,1,1,1,1,1,0,1,3,1,5,1,5,1,2,1,1,1,1,0,1,3,4,1,0,3,1,1,1,0,1,3,4,0,0]) (Exit.then J Q) ⟨T,[]⟩ w:=by
 obtain ⟨xF,rfl⟩:=ct_open hF
 unfold ctL
 rw [h21,h25]
 have HJ:=hid_of hJ
 have H21:=hid_of h21
 have H25:=hid_of h25
 clear hJ hF h21 h25
 conv=>arg 2;whnf
 by_cases hlt:k<m
 ·have h1:(k:Int)<(m:Int):=by omega
  go_wp2_with fail
  refine HJ.out _ ⟨rfl,?_⟩ (by rw [decide_eq_true hlt];rfl)
  rw [←H21.out,←H25.out]
  rfl
 ·have h1 : ¬ (k:Int)<(m:Int):=by omega
  go_wp2_with fail
  refine HJ.out _ ⟨rfl,?_⟩ (by rw [decide_eq_false hlt];rfl)
  rw [←H21.out,←H25.out]
  rfl
theorem ctL56 (T:Array Value) (s:Nat→Value) (gf nl cf j:Nat) (op:Int) (x old:ByteArray) (w:World) (hF:ctF T s) (h19:s 19=.string old) (h21:s 21=.slice (some ⟨gf,0,none⟩) nl cf) (h25:s 25=.int .i64 (j:Nat)) (hj:j<nl) (hlc:nl≤cf) (z0:w.cell? ⟨gf,j*5,none⟩=some (.int .i64 op)) (z2:w.cell? ⟨gf,j*5+2,none⟩=some (.string x)) (J:Act→World→Prop) (Q:Exit→Act→World→Prop)
  (hJ:∀ T',ctF T' s→Act.eval ⟨T',[]⟩ (.tmp 307)=.bool (decide (op=2∧same x old=true))→J ⟨T',[]⟩ w):Code.wp Tryz.prog (ctC [1,1,1,1,1,1,1,1,1,0,1,3,1,5,1,5,1,2,1,1,1,1,0,1,3,4,1,0,3,1,1,1,0,1,3,4,1,0,3,0]) (Exit.then J Q) ⟨T,[]⟩ w:=by
 obtain ⟨xF,rfl⟩:=ct_open hF
 unfold ctL
 rw [h19,h21,h25]
 have HJ:=hid_of hJ
 have H19:=hid_of h19
 have H21:=hid_of h21
 have H25:=hid_of h25
 clear hJ hF h19 h21 h25
 conv=>arg 2;whnf
 have hjI:(j:Int)<(nl:Int):=by omega
 have hlI:(nl:Int)≤(cf:Int):=by omega
 by_cases h0:op=2
 ·have h0b:(op == 2)=true:=by simpa using h0
  have HL:Hid (same x old=decide (op=2∧same x old=true)):=by show _=_;simp [h0]
  have hsm:same x old=(x.toList == old.toList):=rfl
  clear h0
  go_wp2_with fail
  refine HJ.out _ ⟨rfl,?_⟩ (by rw [←HL.out];rfl)
  rw [←H19.out,←H21.out,←H25.out]
  rfl
 ·have h0b:(op == 2)=false:=by simpa using h0
  have HL:=hid_of (decide_eq_false (p:=op=2∧same x old=true) (fun h=>h0 h.1))
  clear h0
  go_wp2_with fail
  refine HJ.out _ ⟨rfl,?_⟩ (by rw [HL.out];rfl)
  rw [←H19.out,←H21.out,←H25.out]
  rfl
theorem ctL57 (T:Array Value) (s:Nat→Value) (p gf nl cf j:Nat) (nm x:ByteArray) (w:World) (hF:ctF T s) (h5:s 5=.pointer (some ⟨(p+1),0,none⟩)) (h21:s 21=.slice (some ⟨gf,0,none⟩) nl cf) (h25:s 25=.int .i64 (j:Nat)) (c3:w.cell? ⟨p+1,3,none⟩=some (.string nm)) (hj:j<nl) (hlc:nl≤cf) (z2:w.cell? ⟨gf,j*5+2,none⟩=some (.string x)) (zf:w.frozen? ⟨gf,j*5+2,none⟩=false) (J:Act→World→Prop) (Q:Exit→Act→World→Prop)
  (hJ:∀ T',ctF T' s→J ⟨T',[]⟩ (w.setCell ⟨gf,j*5+2,none⟩ (.string nm))):Code.wp Tryz.prog (ctC [1,1,1,1,1,1,1,1,1,0,1,3,1,5,1,5,1,2,1,1,1,1,0,1,3,4,1,0,3,1,1,1,0,1,3,4,1,0,3,1,2,0]) (Exit.then J Q) ⟨T,[]⟩ w:=by
 obtain ⟨xF,rfl⟩:=ct_open hF
 unfold ctL
 rw [h5,h21,h25]
 have HJ:=hid_of hJ
 have H5:=hid_of h5
 have H21:=hid_of h21
 have H25:=hid_of h25
 clear hJ hF h5 h21 h25
 conv=>arg 2;whnf
 have hjI:(j:Int)<(nl:Int):=by omega
 have hlI:(nl:Int)≤(cf:Int):=by omega
 go_wp2_with fail
 refine HJ.out _ ⟨rfl,?_⟩ 
 rw [←H5.out,←H21.out,←H25.out]
 rfl
theorem ctL59 (T:Array Value) (s:Nat→Value) (b:Bool) (w:World) (hF:ctF T s) (h24:s 24=.bool b)  (J:Act→World→Prop) (Q:Exit→Act→World→Prop)
  (hJ:∀ T',ctF T' s→Act.eval ⟨T',[]⟩ (.tmp 314)=.bool b→J ⟨T',[]⟩ w):Code.wp Tryz.prog (ctC [1,1,1,1,1,1,1,1,1,0,1,3,1,5,1,5,1,2,1,1,1,1,0,1,3,4,1,0,3,1,1,1,1,0]) (Exit.then J Q) ⟨T,[]⟩ w:=by
 obtain ⟨xF,rfl⟩:=ct_open hF
 unfold ctL
 rw [h24]
 have HJ:=hid_of hJ
 have H24:=hid_of h24
 clear hJ hF h24
 conv=>arg 2;whnf
 go_wp2_with fail
 refine HJ.out _ ⟨rfl,?_⟩ rfl
 rw [←H24.out]
 rfl
theorem ctL60 (T:Array Value) (s:Nat→Value) (nl cf:Nat) (Af:Option Addr) (t:ByteArray) (w:World) (hF:ctF T s) (h21:s 21=.slice Af nl cf) (hn0:0<nl) (hn:nl≤1000) (hcall:Calls Tryz.prog 18 #[.slice Af nl cf,.int .i64 ((nl-1:Nat):Int)] w fun e w'=>e=.returned (.string t)∧Below w.heap.size w w') (J:Act→World→Prop) (Q:Exit→Act→World→Prop)
  (hJ:∀ T' w',ctF T' (upG s 26 (.string t))→Below w.heap.size w w'→J ⟨T',[]⟩ w'):Code.wp Tryz.prog (ctC [1,1,1,1,1,1,1,1,1,0,1,3,1,5,1,5,1,2,1,1,1,1,0,1,3,4,1,0,3,1,1,1,1,1,2,0]) (Exit.then J Q) ⟨T,[]⟩ w:=by
 obtain ⟨xF,rfl⟩:=ct_open hF
 unfold ctL
 rw [h21]
 have HJ:=hid_of hJ
 have H21:=hid_of h21
 clear hJ hF h21
 conv=>arg 2;whnf
 have h1:(nl:Int)-1=((nl-1:Nat):Int):=by omega
 rw [←h1] at hcall
 have h2 : -9223372036854775808≤(nl:Int)-1:=by omega
 have h3:(nl:Int)-1≤9223372036854775807:=by omega
 clear h1
 go_wp2_with fail
 refine hcall.mono ?_
 rintro e w1 ⟨rfl,hb⟩
 have HX:=hid_of hb
 clear hcall hb
 go_wp2_with fail
 refine HJ.out _ w1 ⟨rfl,?_⟩ HX.out
 rw [←H21.out]
 rfl
theorem ctL61 (T:Array Value) (s:Nat→Value) (q B g C k:Nat) (d:Dm) (M':Nat→Mem) (t:ByteArray) (w:World) (hF:ctF T s) (h10:s 10=.pointer (some ⟨q,0,none⟩)) (h20:s 20=.int .i64 (k:Nat)) (h26:s 26=.string t) (h:CtD w B q (some ⟨g,0,none⟩) C d) (hk:k<d.n) (hM:(cellsMb d.mem d.n).set (k*4+3) (.string t)=cellsMb M' d.n) (J:Act→World→Prop) (Q:Exit→Act→World→Prop)
  (hJ:∀ T' w',ctF T' s→CtD w' B q (some ⟨g,0,none⟩) C ⟨d.name,d.solve,d.n,M'⟩→Kb B q w w'→J ⟨T',[]⟩ w'):Code.wp Tryz.prog (ctC [1,1,1,1,1,1,1,1,1,0,1,3,1,5,1,5,1,2,1,1,1,1,0,1,3,4,1,0,3,1,1,1,1,1,2,1,0]) (Exit.then J Q) ⟨T,[]⟩ w:=by
 obtain ⟨xF,rfl⟩:=ct_open hF
 unfold ctL
 rw [h10,h20,h26]
 have HJ:=hid_of hJ
 have H10:=hid_of h10
 have H20:=hid_of h20
 have H26:=hid_of h26
 clear hJ hF h10 h20 h26
 obtain ⟨-,-,a1,-,hql⟩:=h.cells
 obtain ⟨-,hgl,hcc,-,cm,hcm⟩:=ow_blk h.row
 have hx:=(h.row.cellAt (k*4+3) (by omega)).trans (cellsMb_at d.mem d.n k hk).2.2.2
 have hfz:=h.row.frozenAt (k*4+3)
 have HS2:=hid_of (h.set hM)
 have hkI:(k:Int)<(d.n:Int):=by omega
 have hcI:(d.n:Int)≤(C:Int):=by omega
 clear h hM hcm
 conv=>arg 2;whnf
 go_wp2_with fail
 refine HJ.out _ _ ⟨rfl,?_⟩ HS2.out.1 HS2.out.2
 rw [←H10.out,←H20.out,←H26.out]
 rfl
theorem ctL62 (T:Array Value) (s:Nat→Value) (t:ByteArray) (w:World) (hF:ctF T s) (h26:s 26=.string t)  (J:Act→World→Prop) (Q:Exit→Act→World→Prop)
  (hJ:∀ T',ctF T' s→Act.eval ⟨T',[]⟩ (.tmp 328)=.bool (decide (100<t.size))→J ⟨T',[]⟩ w):Code.wp Tryz.prog (ctC [1,1,1,1,1,1,1,1,1,0,1,3,1,5,1,5,1,2,1,1,1,1,0,1,3,4,1,0,3,1,1,1,1,1,2,1,1,0]) (Exit.then J Q) ⟨T,[]⟩ w:=by
 obtain ⟨xF,rfl⟩:=ct_open hF
 unfold ctL
 rw [h26]
 have HJ:=hid_of hJ
 have H26:=hid_of h26
 clear hJ hF h26
 conv=>arg 2;whnf
 by_cases h1:100<t.size
 ·have h1I:(100:Int)<(t.size:Int):=by omega
  have HL:=hid_of (decide_eq_true h1)
  go_wp2_with fail
  refine HJ.out _ ⟨rfl,?_⟩ (by rw [HL.out];rfl)
  rw [←H26.out]
  rfl
 ·have h1I : ¬ (100:Int)<(t.size:Int):=by omega
  have HL:=hid_of (decide_eq_false h1)
  go_wp2_with fail
  refine HJ.out _ ⟨rfl,?_⟩ (by rw [HL.out];rfl)
  rw [←H26.out]
  rfl
end Go.Proofs.YtfldgghobddgkaaGreatDoor
