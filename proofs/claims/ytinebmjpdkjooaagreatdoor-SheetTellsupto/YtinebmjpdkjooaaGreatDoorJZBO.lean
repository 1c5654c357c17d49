/-
  tallyref2.SheetText, region by region.
-/
import Derived.Deep.QuietTactic
import Derived.Deep.RegionHeld3
import Derived.Test.YtinebmjpdkjooaaGreatDoorJZAE
namespace Go.Proofs.YtinebmjpdkjooaaGreatDoor
open Go Go.ChangeShapes Go.WideShapes Go.ChangeAt Go.RowKit
set_option maxRecDepth 1000000
set_option maxHeartbeats 64000000
noncomputable def stC (p:List Nat):Code:=atC p (Tryz.f5.body.getD .skip)
abbrev stF (T:Array Value) (s:Nat→Value):Prop:=FrK 112 15 T s
def stL (s x:Nat→Value):Array Value := #[s 0,s 1,s 2,s 3,s 4,s 5,s 6,s 7,s 8,s 9,s 10,s 11,s 12,s 13,s 14,x 15,x 16,x 17,x 18,x 19,x 20,x 21,x 22,x 23,x 24,x 25,x 26,x 27,x 28,x 29,x 30,x 31,x 32,x 33,x 34,x 35,x 36,x 37,x 38,x 39,x 40,x 41,x 42,x 43,x 44,x 45,x 46,x 47,x 48,x 49,x 50,x 51,x 52,x 53,x 54,x 55,x 56,x 57,x 58,x 59,x 60,x 61,x 62,x 63,x 64,x 65,x 66,x 67,x 68,x 69,x 70,x 71,x 72,x 73,x 74,x 75,x 76,x 77,x 78,x 79,x 80,x 81,x 82,x 83,x 84,x 85,x 86,x 87,x 88,x 89,x 90,x 91,x 92,x 93,x 94,x 95,x 96,x 97,x 98,x 99,x 100,x 101,x 102,x 103,x 104,x 105,x 106,x 107,x 108,x 109,x 110,x 111]
theorem st_open {T:Array Value} {s:Nat→Value} (h:stF T s):∃ x,T=stL s x:=frK_open h (by decide)
theorem stL0 (T:Array Value) (s:Nat→Value) (A0:Option Addr) (n cap:Nat) (w:World) (hF:stF T s) (h0:s 0=.agg #[.slice A0 n cap])  (J:Act→World→Prop) (Q:Exit→Act→World→Prop)
  (hJ:∀ T',stF T' (upG (upG s 2 (.pointer (some ⟨w.heap.size,0,none⟩))) 4 (.string ⟨#[]⟩))→J ⟨T',[]⟩ (ownOut w A0 n cap 24)):Code.wp Tryz.prog (stC [0]) (Exit.then J Q) ⟨T,[]⟩ w:=by
 obtain ⟨xF,rfl⟩:=st_open hF
 unfold stL
 rw [h0]
 have HJ:=hid_of hJ
 have H0:=hid_of h0
 clear hJ hF h0
 conv=>arg 2;whnf
 go_wp2_with fail
 refine HJ.out _ ⟨rfl,?_⟩ 
 rw [←H0.out]
 rfl
theorem stL1 (T:Array Value) (s:Nat→Value)  (w:World) (hF:stF T s)   (J:Act→World→Prop) (Q:Exit→Act→World→Prop)
  (hJ:∀ T',stF T' (upG s 5 (.string ⟨#[]⟩))→J ⟨T',[]⟩ w):Code.wp Tryz.prog (stC [1,0]) (Exit.then J Q) ⟨T,[]⟩ w:=by
 obtain ⟨xF,rfl⟩:=st_open hF
 unfold stL
 have HJ:=hid_of hJ
 clear hJ hF 
 conv=>arg 2;whnf
 go_wp2_with fail
 refine HJ.out _ ⟨rfl,?_⟩ 
 rfl
theorem stL2 (T:Array Value) (s:Nat→Value)  (w:World) (hF:stF T s)   (J:Act→World→Prop) (Q:Exit→Act→World→Prop)
  (hJ:∀ T',stF T' (upG s 6 (.int .i64 0))→J ⟨T',[]⟩ w):Code.wp Tryz.prog (stC [1,1,0,0]) (Exit.then J Q) ⟨T,[]⟩ w:=by
 obtain ⟨xF,rfl⟩:=st_open hF
 unfold stL
 have HJ:=hid_of hJ
 clear hJ hF 
 conv=>arg 2;whnf
 go_wp2_with fail
 refine HJ.out _ ⟨rfl,?_⟩ 
 rfl
theorem stL4 (T:Array Value) (s:Nat→Value) (k:Nat) (w:World) (hF:stF T s) (h6:s 6=.int .i64 (k:Nat)) (hk:k≤4611686018427387904) (J:Act→World→Prop) (Q:Exit→Act→World→Prop)
  (hJ:∀ T',stF T' (upG s 6 (.int .i64 (k+1:Nat)))→J ⟨T',[]⟩ w):Code.wp Tryz.prog (stC [1,1,0,1,3,4,1,1]) (Exit.then J Q) ⟨T,[]⟩ w:=by
 obtain ⟨xF,rfl⟩:=st_open hF
 unfold stL
 rw [h6]
 have HJ:=hid_of hJ
 have H6:=hid_of h6
 clear hJ hF h6
 conv=>arg 2;whnf
 have h1:(k:Int)+1≤9223372036854775807:=by omega
 go_wp2_with fail
 refine HJ.out _ ⟨rfl,?_⟩ 
 rfl
theorem stL3 (T:Array Value) (s:Nat→Value) (b k m cm:Nat) (Am:Option Addr) (w:World) (hF:stF T s) (h2:s 2=.pointer (some ⟨b,0,none⟩)) (h6:s 6=.int .i64 (k:Nat)) (hc:w.cell? ⟨b,0,none⟩=some (.slice Am m cm)) (J:Act→World→Prop) (Q:Exit→Act→World→Prop)
  (hJ:∀ T',stF T' s→Act.eval ⟨T',[]⟩ (.tmp 19)=.bool (decide (k<m))→J ⟨T',[]⟩ w):Code.wp Tryz.prog (stC [1,1,0,1,3,4,0,0]) (Exit.then J Q) ⟨T,[]⟩ w:=by
 obtain ⟨xF,rfl⟩:=st_open hF
 unfold stL
 rw [h2,h6]
 have HJ:=hid_of hJ
 have H2:=hid_of h2
 have H6:=hid_of h6
 clear hJ hF h2 h6
 conv=>arg 2;whnf
 by_cases hlt:k<m
 ·have h1:(k:Int)<(m:Int):=by omega
  go_wp2_with fail
  refine HJ.out _ ⟨rfl,?_⟩ (by rw [decide_eq_true hlt];rfl)
  rw [←H2.out,←H6.out]
  rfl
 ·have h1 : ¬ (k:Int)<(m:Int):=by omega
  go_wp2_with fail
  refine HJ.out _ ⟨rfl,?_⟩ (by rw [decide_eq_false hlt];rfl)
  rw [←H2.out,←H6.out]
  rfl
theorem stL5 (T:Array Value) (s:Nat→Value) (b d od m cm k:Nat) (nm:ByteArray) (sv:Int) (Am:Option Addr) (mm cmm:Nat) (w:World) (hF:stF T s) (h2:s 2=.pointer (some ⟨b,0,none⟩)) (h6:s 6=.int .i64 (k:Nat)) (hc:w.cell? ⟨b,0,none⟩=some (.slice (some ⟨d,od,none⟩) m cm)) (hk:k<m) (hy0:w.cell? ⟨d,od+k*3,none⟩=some (.string nm)) (hy1:w.cell? ⟨d,od+k*3+1,none⟩=some (.int .i64 sv)) (hy2:w.cell? ⟨d,od+k*3+2,none⟩=some (.slice Am mm cmm)) (J:Act→World→Prop) (Q:Exit→Act→World→Prop)
  (hJ:∀ T',stF T' (upG s 7 (.pointer (some ⟨w.heap.size,0,none⟩)))→J ⟨T',[]⟩ (w.alloc (.cells #[.string nm,.int .i64 sv,.slice Am mm cmm] 43))):Code.wp Tryz.prog (stC [1,1,0,1,3,4,1,0,3,0]) (Exit.then J Q) ⟨T,[]⟩ w:=by
 obtain ⟨xF,rfl⟩:=st_open hF
 unfold stL
 rw [h2,h6]
 have HJ:=hid_of hJ
 have H2:=hid_of h2
 have H6:=hid_of h6
 clear hJ hF h2 h6
 conv=>arg 2;whnf
 go_wp2_with fail
 refine HJ.out _ ⟨rfl,?_⟩ 
 rw [←H2.out,←H6.out]
 rfl
theorem stL6 (T:Array Value) (s:Nat→Value) (b:Nat) (sv:Int) (X:Value→World→Prop) (w:World) (hF:stF T s) (h7:s 7=.pointer (some ⟨b,0,none⟩)) (hc:w.cell? ⟨b,1,none⟩=some (.int .i64 sv)) (hcall:Calls Tryz.prog 14 #[.int .i64 sv] w fun e w' => ∃ v,e=.returned v∧X v w') (J:Act→World→Prop) (Q:Exit→Act→World→Prop)
  (hJ:∀ T' v w',stF T' (upG s 8 v)→X v w'→J ⟨T',[]⟩ w'):Code.wp Tryz.prog (stC [1,1,0,1,3,4,1,0,3,1,0]) (Exit.then J Q) ⟨T,[]⟩ w:=by
 obtain ⟨xF,rfl⟩:=st_open hF
 unfold stL
 rw [h7]
 have HJ:=hid_of hJ
 have H7:=hid_of h7
 clear hJ hF h7
 conv=>arg 2;whnf
 go_wp2_with fail
 refine hcall.mono ?_
 rintro e w1 ⟨v,rfl,hX⟩
 have HX:=hid_of hX
 clear hcall hX
 go_wp2_with fail
 refine HJ.out _ v w1 ⟨rfl,?_⟩ HX.out
 rw [←H7.out]
 rfl
theorem stL7 (T:Array Value) (s:Nat→Value) (b:Nat) (nm t dg:ByteArray) (w:World) (hF:stF T s) (h5:s 5=.string t) (h7:s 7=.pointer (some ⟨b,0,none⟩)) (h8:s 8=.string dg) (hc:w.cell? ⟨b,0,none⟩=some (.string nm)) (ht:t.size≤4611686018427387904) (hn:nm.size≤1000) (hd:dg.size≤1000) (J:Act→World→Prop) (Q:Exit→Act→World→Prop)
  (hJ:∀ T',stF T' (upG s 5 (.string (((((t ++ ⟨#[100,105,109,32]⟩) ++ nm) ++ ⟨#[32]⟩) ++ dg) ++ ⟨#[10]⟩)))→J ⟨T',[]⟩ w):Code.wp Tryz.prog (stC [1,1,0,1,3,4,1,0,3,1,1,0]) (Exit.then J Q) ⟨T,[]⟩ w:=by
 obtain ⟨xF,rfl⟩:=st_open hF
 unfold stL
 rw [h5,h7,h8]
 have HJ:=hid_of hJ
 have H5:=hid_of h5
 have H7:=hid_of h7
 have H8:=hid_of h8
 clear hJ hF h5 h7 h8
 have hs0 : ¬ 9223372036854775807<t.size+4:=by omega
 have hs1 : ¬ 9223372036854775807<t.size+4+nm.size:=by omega
 have hs2 : ¬ 9223372036854775807<t.size+4+nm.size+1:=by omega
 have hs3 : ¬ 9223372036854775807<t.size+4+nm.size+1+dg.size:=by omega
 have hs4 : ¬ 9223372036854775807<t.size+4+nm.size+1+dg.size+1:=by omega
 conv=>arg 2;whnf
 go_wp2_with fail
 refine HJ.out _ ⟨rfl,?_⟩ 
 rw [←H7.out,←H8.out]
 rfl
theorem stL8 (T:Array Value) (s:Nat→Value)  (w:World) (hF:stF T s)   (J:Act→World→Prop) (Q:Exit→Act→World→Prop)
  (hJ:∀ T',stF T' (upG s 9 (.int .i64 0))→J ⟨T',[]⟩ w):Code.wp Tryz.prog (stC [1,1,0,1,3,4,1,0,3,1,1,1,0]) (Exit.then J Q) ⟨T,[]⟩ w:=by
 obtain ⟨xF,rfl⟩:=st_open hF
 unfold stL
 have HJ:=hid_of hJ
 clear hJ hF 
 conv=>arg 2;whnf
 go_wp2_with fail
 refine HJ.out _ ⟨rfl,?_⟩ 
 rfl
theorem stL10 (T:Array Value) (s:Nat→Value) (k:Nat) (w:World) (hF:stF T s) (h9:s 9=.int .i64 (k:Nat)) (hk:k≤4611686018427387904) (J:Act→World→Prop) (Q:Exit→Act→World→Prop)
  (hJ:∀ T',stF T' (upG s 9 (.int .i64 (k+1:Nat)))→J ⟨T',[]⟩ w):Code.wp Tryz.prog (stC [1,1,0,1,3,4,1,0,3,1,1,1,1,3,4,1,1]) (Exit.then J Q) ⟨T,[]⟩ w:=by
 obtain ⟨xF,rfl⟩:=st_open hF
 unfold stL
 rw [h9]
 have HJ:=hid_of hJ
 have H9:=hid_of h9
 clear hJ hF h9
 conv=>arg 2;whnf
 have h1:(k:Int)+1≤9223372036854775807:=by omega
 go_wp2_with fail
 refine HJ.out _ ⟨rfl,?_⟩ 
 rfl
theorem stL9 (T:Array Value) (s:Nat→Value) (b k m cm:Nat) (Am:Option Addr) (w:World) (hF:stF T s) (h7:s 7=.pointer (some ⟨b,0,none⟩)) (h9:s 9=.int .i64 (k:Nat)) (hc:w.cell? ⟨b,2,none⟩=some (.slice Am m cm)) (J:Act→World→Prop) (Q:Exit→Act→World→Prop)
  (hJ:∀ T',stF T' s→Act.eval ⟨T',[]⟩ (.tmp 43)=.bool (decide (k<m))→J ⟨T',[]⟩ w):Code.wp Tryz.prog (stC [1,1,0,1,3,4,1,0,3,1,1,1,1,3,4,0,0]) (Exit.then J Q) ⟨T,[]⟩ w:=by
 obtain ⟨xF,rfl⟩:=st_open hF
 unfold stL
 rw [h7,h9]
 have HJ:=hid_of hJ
 have H7:=hid_of h7
 have H9:=hid_of h9
 clear hJ hF h7 h9
 conv=>arg 2;whnf
 by_cases hlt:k<m
 ·have h1:(k:Int)<(m:Int):=by omega
  go_wp2_with fail
  refine HJ.out _ ⟨rfl,?_⟩ (by rw [decide_eq_true hlt];rfl)
  rw [←H7.out,←H9.out]
  rfl
 ·have h1 : ¬ (k:Int)<(m:Int):=by omega
  go_wp2_with fail
  refine HJ.out _ ⟨rfl,?_⟩ (by rw [decide_eq_false hlt];rfl)
  rw [←H7.out,←H9.out]
  rfl
theorem stL11 (T:Array Value) (s:Nat→Value) (b d od m cm k:Nat) (nm fo:ByteArray) (pa sg:Int) (w:World) (hF:stF T s) (h7:s 7=.pointer (some ⟨b,0,none⟩)) (h9:s 9=.int .i64 (k:Nat)) (hc:w.cell? ⟨b,2,none⟩=some (.slice (some ⟨d,od,none⟩) m cm)) (hk:k<m) (hy0:w.cell? ⟨d,od+k*4,none⟩=some (.string nm)) (hy1:w.cell? ⟨d,od+k*4+1,none⟩=some (.int .i64 pa)) (hy2:w.cell? ⟨d,od+k*4+2,none⟩=some (.int .i64 sg)) (hy3:w.cell? ⟨d,od+k*4+3,none⟩=some (.string fo)) (J:Act→World→Prop) (Q:Exit→Act→World→Prop)
  (hJ:∀ T',stF T' (upG s 10 (.pointer (some ⟨w.heap.size,0,none⟩)))→J ⟨T',[]⟩ (w.alloc (.cells #[.string nm,.int .i64 pa,.int .i64 sg,.string fo] 46))):Code.wp Tryz.prog (stC [1,1,0,1,3,4,1,0,3,1,1,1,1,3,4,1,0,3,0]) (Exit.then J Q) ⟨T,[]⟩ w:=by
 obtain ⟨xF,rfl⟩:=st_open hF
 unfold stL
 rw [h7,h9]
 have HJ:=hid_of hJ
 have H7:=hid_of h7
 have H9:=hid_of h9
 clear hJ hF h7 h9
 conv=>arg 2;whnf
 go_wp2_with fail
 refine HJ.out _ ⟨rfl,?_⟩ 
 rw [←H7.out,←H9.out]
 rfl
theorem stL12 (T:Array Value) (s:Nat→Value)  (w:World) (hF:stF T s)   (J:Act→World→Prop) (Q:Exit→Act→World→Prop)
  (hJ:∀ T',stF T' (upG s 11 (.string ⟨#[45]⟩))→J ⟨T',[]⟩ w):Code.wp Tryz.prog (stC [1,1,0,1,3,4,1,0,3,1,1,1,1,3,4,1,0,3,1,0]) (Exit.then J Q) ⟨T,[]⟩ w:=by
 obtain ⟨xF,rfl⟩:=st_open hF
 unfold stL
 have HJ:=hid_of hJ
 clear hJ hF 
 conv=>arg 2;whnf
 go_wp2_with fail
 refine HJ.out _ ⟨rfl,?_⟩ 
 rfl
theorem stL13 (T:Array Value) (s:Nat→Value) (b:Nat) (pa:Int) (w:World) (hF:stF T s) (h10:s 10=.pointer (some ⟨b,0,none⟩)) (hc:w.cell? ⟨b,1,none⟩=some (.int .i64 pa)) (J:Act→World→Prop) (Q:Exit→Act→World→Prop)
  (hJ:∀ T',stF T' s→Act.eval ⟨T',[]⟩ (.tmp 53)=.bool (decide (0≤pa))→J ⟨T',[]⟩ w):Code.wp Tryz.prog (stC [1,1,0,1,3,4,1,0,3,1,1,1,1,3,4,1,0,3,1,1,0,0]) (Exit.then J Q) ⟨T,[]⟩ w:=by
 obtain ⟨xF,rfl⟩:=st_open hF
 unfold stL
 rw [h10]
 have HJ:=hid_of hJ
 have H10:=hid_of h10
 clear hJ hF h10
 conv=>arg 2;whnf
 by_cases hlt:0≤pa
 ·have HL:=hid_of (decide_eq_true hlt)
  go_wp2_with fail
  refine HJ.out _ ⟨rfl,?_⟩ (by rw [HL.out];rfl)
  rw [←H10.out]
  rfl
 ·have HL:=hid_of (decide_eq_false hlt)
  go_wp2_with fail
  refine HJ.out _ ⟨rfl,?_⟩ (by rw [HL.out];rfl)
  rw [←H10.out]
  rfl
theorem stL14 (T:Array Value) (s:Nat→Value) (b:Nat) (pa:Int) (X:Value→World→Prop) (w:World) (hF:stF T s) (h10:s 10=.pointer (some ⟨b,0,none⟩)) (hc:w.cell? ⟨b,1,none⟩=some (.int .i64 pa)) (hcall:Calls Tryz.prog 14 #[.int .i64 pa] w fun e w' => ∃ v,e=.returned v∧X v w') (J:Act→World→Prop) (Q:Exit→Act→World→Prop)
  (hJ:∀ T' v w',stF T' (upG s 11 v)→X v w'→J ⟨T',[]⟩ w'):Code.wp Tryz.prog (stC [1,1,0,1,3,4,1,0,3,1,1,1,1,3,4,1,0,3,1,1,0,1,2]) (Exit.then J Q) ⟨T,[]⟩ w:=by
 obtain ⟨xF,rfl⟩:=st_open hF
 unfold stL
 rw [h10]
 have HJ:=hid_of hJ
 have H10:=hid_of h10
 clear hJ hF h10
 conv=>arg 2;whnf
 go_wp2_with fail
 refine hcall.mono ?_
 rintro e w1 ⟨v,rfl,hX⟩
 have HX:=hid_of hX
 clear hcall hX
 go_wp2_with fail
 refine HJ.out _ v w1 ⟨rfl,?_⟩ HX.out
 rw [←H10.out]
 rfl
theorem stL15 (T:Array Value) (s:Nat→Value) (b:Nat) (nm t pt sn:ByteArray) (sg:Int) (w:World) (hF:stF T s) (h5:s 5=.string t) (h10:s 10=.pointer (some ⟨b,0,none⟩)) (h11:s 11=.string pt) (hc:w.cell? ⟨b,0,none⟩=some (.string nm)) (hc2:w.cell? ⟨b,2,none⟩=some (.int .i64 sg)) (ht:t.size≤4611686018427387904) (hn:nm.size≤1000) (hd:pt.size≤1000) (hsn:sg = -1∧sn=⟨#[45]⟩∨sg=0∧sn=⟨#[126]⟩∨sg=1∧sn=⟨#[43]⟩) (J:Act→World→Prop) (Q:Exit→Act→World→Prop)
  (hJ:∀ T' w',stF T' (upG s 5 (.string ((((((t ++ ⟨#[109,101,109,32]⟩) ++ nm) ++ ⟨#[32]⟩) ++ pt) ++ ⟨#[32]⟩) ++ sn)))→Below w.heap.size w w'→J ⟨T',[]⟩ w'):Code.wp Tryz.prog (stC [1,1,0,1,3,4,1,0,3,1,1,1,1,3,4,1,0,3,1,1,1,0]) (Exit.then J Q) ⟨T,[]⟩ w:=by
 obtain ⟨xF,rfl⟩:=st_open hF
 unfold stL
 rw [h5,h10,h11]
 have HJ:=hid_of hJ
 have H5:=hid_of h5
 have H10:=hid_of h10
 have H11:=hid_of h11
 clear hJ hF h5 h10 h11
 have hs0 : ¬ 9223372036854775807<t.size+4:=by omega
 have hs1 : ¬ 9223372036854775807<t.size+4+nm.size:=by omega
 have hs2 : ¬ 9223372036854775807<t.size+4+nm.size+1:=by omega
 have hs3 : ¬ 9223372036854775807<t.size+4+nm.size+1+pt.size:=by omega
 have hs4 : ¬ 9223372036854775807<t.size+4+nm.size+1+pt.size+1:=by omega
 have hs5 : ¬ 9223372036854775807<t.size+4+nm.size+1+pt.size+1+1:=by omega
 have hz:(⟨#[45,126,43]⟩:ByteArray).size=3:=rfl
 have hw0:IntKind.i64.wrap 0=0:=by rfl
 have hw1:IntKind.i64.wrap 1=1:=by rfl
 have hw2:IntKind.i64.wrap 2=2:=by rfl
 have hw3:IntKind.i64.wrap 3=3:=by rfl
 have hx0:(⟨#[45,126,43]⟩:ByteArray).extract 0 1=⟨#[45]⟩:=by rfl
 have hx1:(⟨#[45,126,43]⟩:ByteArray).extract 1 2=⟨#[126]⟩:=by rfl
 have hx2:(⟨#[45,126,43]⟩:ByteArray).extract 2 3=⟨#[43]⟩:=by rfl
 conv=>arg 2;whnf
 rcases hsn with ⟨rfl,rfl⟩ | ⟨rfl,rfl⟩ | ⟨rfl,rfl⟩
 all_goals (go_quiet (fail))
 all_goals go_wp2_with fail
 all_goals (
  refine HJ.out _ _ ⟨rfl,?_⟩ (below_drewN (Below.refl _ _) _)
  rw [←H10.out,←H11.out]
  rfl
  )
theorem stL16 (T:Array Value) (s:Nat→Value) (b:Nat) (fo:ByteArray) (w:World) (hF:stF T s) (h10:s 10=.pointer (some ⟨b,0,none⟩)) (hc:w.cell? ⟨b,3,none⟩=some (.string fo)) (J:Act→World→Prop) (Q:Exit→Act→World→Prop)
  (hJ:∀ T',stF T' s→Act.eval ⟨T',[]⟩ (.tmp 76)=.bool (!fo.toList.isEmpty)→J ⟨T',[]⟩ w):Code.wp Tryz.prog (stC [1,1,0,1,3,4,1,0,3,1,1,1,1,3,4,1,0,3,1,1,1,1,0,0]) (Exit.then J Q) ⟨T,[]⟩ w:=by
 obtain ⟨xF,rfl⟩:=st_open hF
 unfold stL
 rw [h10]
 have HJ:=hid_of hJ
 have H10:=hid_of h10
 clear hJ hF h10
 conv=>arg 2;whnf
 cases hb:fo.toList.isEmpty
 ·go_wp2_with fail
  refine HJ.out _ ⟨rfl,?_⟩ (by rw [hb];rfl)
  rw [←H10.out]
  rfl
 ·have hb2:fo.toList=[]:=List.isEmpty_iff.1 hb
  go_wp2_with fail
  refine HJ.out _ ⟨rfl,?_⟩ (by rw [hb];rfl)
  rw [←H10.out]
  rfl
theorem stL17 (T:Array Value) (s:Nat→Value) (b:Nat) (fo t:ByteArray) (w:World) (hF:stF T s) (h5:s 5=.string t) (h10:s 10=.pointer (some ⟨b,0,none⟩)) (hc:w.cell? ⟨b,3,none⟩=some (.string fo)) (ht:t.size≤4611686018427387904) (hf:fo.size≤1000) (J:Act→World→Prop) (Q:Exit→Act→World→Prop)
  (hJ:∀ T',stF T' (upG s 5 (.string ((t ++ ⟨#[61]⟩) ++ fo)))→J ⟨T',[]⟩ w):Code.wp Tryz.prog (stC [1,1,0,1,3,4,1,0,3,1,1,1,1,3,4,1,0,3,1,1,1,1,0,1,2]) (Exit.then J Q) ⟨T,[]⟩ w:=by
 obtain ⟨xF,rfl⟩:=st_open hF
 unfold stL
 rw [h5,h10]
 have HJ:=hid_of hJ
 have H5:=hid_of h5
 have H10:=hid_of h10
 clear hJ hF h5 h10
 have hs0 : ¬ 9223372036854775807<t.size+1:=by omega
 have hs1 : ¬ 9223372036854775807<t.size+1+fo.size:=by omega
 conv=>arg 2;whnf
 go_wp2_with fail
 refine HJ.out _ ⟨rfl,?_⟩ 
 rw [←H10.out]
 rfl
theorem stL18 (T:Array Value) (s:Nat→Value) (t:ByteArray) (w:World) (hF:stF T s) (h5:s 5=.string t) (ht:t.size≤4611686018427387904) (J:Act→World→Prop) (Q:Exit→Act→World→Prop)
  (hJ:∀ T',stF T' (upG s 5 (.string (t ++ ⟨#[10]⟩)))→J ⟨T',[]⟩ w):Code.wp Tryz.prog (stC [1,1,0,1,3,4,1,0,3,1,1,1,1,3,4,1,0,3,1,1,1,1,1]) (Exit.then J Q) ⟨T,[]⟩ w:=by
 obtain ⟨xF,rfl⟩:=st_open hF
 unfold stL
 rw [h5]
 have HJ:=hid_of hJ
 have H5:=hid_of h5
 clear hJ hF h5
 have hs0 : ¬ 9223372036854775807<t.size+1:=by omega
 conv=>arg 2;whnf
 go_wp2_with fail
 refine HJ.out _ ⟨rfl,?_⟩ 
 rfl
theorem stL19 (T:Array Value) (s:Nat→Value)  (w:World) (hF:stF T s)   (J:Act→World→Prop) (Q:Exit→Act→World→Prop)
  (hJ:∀ T',stF T' (upG s 12 (.int .i64 0))→J ⟨T',[]⟩ w):Code.wp Tryz.prog (stC [1,1,1,0,0]) (Exit.then J Q) ⟨T,[]⟩ w:=by
 obtain ⟨xF,rfl⟩:=st_open hF
 unfold stL
 have HJ:=hid_of hJ
 clear hJ hF 
 conv=>arg 2;whnf
 go_wp2_with fail
 refine HJ.out _ ⟨rfl,?_⟩ 
 rfl
theorem stL21 (T:Array Value) (s:Nat→Value) (k:Nat) (w:World) (hF:stF T s) (h12:s 12=.int .i64 (k:Nat)) (hk:k≤4611686018427387904) (J:Act→World→Prop) (Q:Exit→Act→World→Prop)
  (hJ:∀ T',stF T' (upG s 12 (.int .i64 (k+1:Nat)))→J ⟨T',[]⟩ w):Code.wp Tryz.prog (stC [1,1,1,0,1,3,4,1,1]) (Exit.then J Q) ⟨T,[]⟩ w:=by
 obtain ⟨xF,rfl⟩:=st_open hF
 unfold stL
 rw [h12]
 have HJ:=hid_of hJ
 have H12:=hid_of h12
 clear hJ hF h12
 conv=>arg 2;whnf
 have h1:(k:Int)+1≤9223372036854775807:=by omega
 go_wp2_with fail
 refine HJ.out _ ⟨rfl,?_⟩ 
 rfl
theorem stL20 (T:Array Value) (s:Nat→Value) (k m cm:Nat) (Am:Option Addr) (w:World) (hF:stF T s) (h1:s 1=.slice Am m cm) (h12:s 12=.int .i64 (k:Nat))  (J:Act→World→Prop) (Q:Exit→Act→World→Prop)
  (hJ:∀ T',stF T' s→Act.eval ⟨T',[]⟩ (.tmp 87)=.bool (decide (k<m))→J ⟨T',[]⟩ w):Code.wp Tryz.prog (stC [1,1,1,0,1,3,4,0,0]) (Exit.then J Q) ⟨T,[]⟩ w:=by
 obtain ⟨xF,rfl⟩:=st_open hF
 unfold stL
 rw [h1,h12]
 have HJ:=hid_of hJ
 have H1:=hid_of h1
 have H12:=hid_of h12
 clear hJ hF h1 h12
 conv=>arg 2;whnf
 by_cases hlt:k<m
 ·have h1:(k:Int)<(m:Int):=by omega
  go_wp2_with fail
  refine HJ.out _ ⟨rfl,?_⟩ (by rw [decide_eq_true hlt];rfl)
  rw [←H1.out,←H12.out]
  rfl
 ·have h1 : ¬ (k:Int)<(m:Int):=by omega
  go_wp2_with fail
  refine HJ.out _ ⟨rfl,?_⟩ (by rw [decide_eq_false hlt];rfl)
  rw [←H1.out,←H12.out]
  rfl
theorem stL22 (T:Array Value) (s:Nat→Value) (b be oe m cm k:Nat) (so:Value) (X:Value→World→Prop) (Ap:Option Addr) (lp cp:Nat) (w:World) (hF:stF T s) (h1:s 1=.slice (some ⟨be,oe,none⟩) m cm) (h2:s 2=.pointer (some ⟨b,0,none⟩)) (h12:s 12=.int .i64 (k:Nat)) (hc:w.cell? ⟨b,0,none⟩=some so) (hk:k<m) (hp:w.cell? ⟨be,oe+k*2,none⟩=some (.slice Ap lp cp)) (hcall:∀ w0,Below w.heap.size w w0→Calls Tryz.prog 15 #[.agg #[so],.slice Ap lp cp] w0 fun e w' => ∃ v,e=.returned v∧X v w') (J:Act→World→Prop) (Q:Exit→Act→World→Prop)
  (hJ:∀ T' v w',stF T' (upG s 13 v)→X v w'→J ⟨T',[]⟩ w'):Code.wp Tryz.prog (stC [1,1,1,0,1,3,4,1,0,3,0]) (Exit.then J Q) ⟨T,[]⟩ w:=by
 obtain ⟨xF,rfl⟩:=st_open hF
 unfold stL
 rw [h1,h2,h12]
 have HJ:=hid_of hJ
 have H1:=hid_of h1
 have H2:=hid_of h2
 have H12:=hid_of h12
 clear hJ hF h1 h2 h12
 have HC:=hid_of hcall
 clear hcall
 conv=>arg 2;whnf
 have hki:(k:Int)<(m:Int):=by omega
 refine wp_region_noPanic ?_
 go_region_law ((go_simp;refine (HC.out _ (by go_grown)).mono ?_;rintro e w1 ⟨v,rfl,hX⟩;have HX:=hid_of hX;clear hX))
 all_goals go_wp2_with fail
 all_goals (
  refine HJ.out _ v w1 ⟨rfl,?_⟩ HX.out
  rw [←H1.out,←H2.out,←H12.out]
  rfl
  )
theorem stL23 (T:Array Value) (s:Nat→Value) (be oe m cm k:Nat) (x:Int) (X:Value→World→Prop) (w:World) (hF:stF T s) (h1:s 1=.slice (some ⟨be,oe,none⟩) m cm) (h12:s 12=.int .i64 (k:Nat)) (hk:k<m) (hc:w.cell? ⟨be,oe+k*2+1,none⟩=some (.int .i64 x)) (hcall:Calls Tryz.prog 14 #[.int .i64 x] w fun e w' => ∃ v,e=.returned v∧X v w') (J:Act→World→Prop) (Q:Exit→Act→World→Prop)
  (hJ:∀ T' v w',stF T' (upG s 14 v)→X v w'→J ⟨T',[]⟩ w'):Code.wp Tryz.prog (stC [1,1,1,0,1,3,4,1,0,3,1,0]) (Exit.then J Q) ⟨T,[]⟩ w:=by
 obtain ⟨xF,rfl⟩:=st_open hF
 unfold stL
 rw [h1,h12]
 have HJ:=hid_of hJ
 have H1:=hid_of h1
 have H12:=hid_of h12
 clear hJ hF h1 h12
 conv=>arg 2;whnf
 go_wp2_with fail
 refine hcall.mono ?_
 rintro e w1 ⟨v,rfl,hX⟩
 have HX:=hid_of hX
 clear hcall hX
 go_wp2_with fail
 refine HJ.out _ v w1 ⟨rfl,?_⟩ HX.out
 rw [←H1.out,←H12.out]
 rfl
theorem stL24 (T:Array Value) (s:Nat→Value) (t pt dg:ByteArray) (w:World) (hF:stF T s) (h5:s 5=.string t) (h13:s 13=.string pt) (h14:s 14=.string dg) (ht:t.size≤4611686018427387904) (hp:pt.size≤1000) (hd:dg.size≤1000) (J:Act→World→Prop) (Q:Exit→Act→World→Prop)
  (hJ:∀ T',stF T' (upG s 5 (.string (((((t ++ ⟨#[99,101,108,108,32]⟩) ++ pt) ++ ⟨#[32]⟩) ++ dg) ++ ⟨#[10]⟩)))→J ⟨T',[]⟩ w):Code.wp Tryz.prog (stC [1,1,1,0,1,3,4,1,0,3,1,1]) (Exit.then J Q) ⟨T,[]⟩ w:=by
 obtain ⟨xF,rfl⟩:=st_open hF
 unfold stL
 rw [h5,h13,h14]
 have HJ:=hid_of hJ
 have H5:=hid_of h5
 have H13:=hid_of h13
 have H14:=hid_of h14
 clear hJ hF h5 h13 h14
 have hs0 : ¬ 9223372036854775807<t.size+5:=by omega
 have hs1 : ¬ 9223372036854775807<t.size+5+pt.size:=by omega
 have hs2 : ¬ 9223372036854775807<t.size+5+pt.size+1:=by omega
 have hs3 : ¬ 9223372036854775807<t.size+5+pt.size+1+dg.size:=by omega
 have hs4 : ¬ 9223372036854775807<t.size+5+pt.size+1+dg.size+1:=by omega
 conv=>arg 2;whnf
 go_wp2_with fail
 refine HJ.out _ ⟨rfl,?_⟩ 
 rw [←H13.out,←H14.out]
 rfl
end Go.Proofs.YtinebmjpdkjooaaGreatDoor
