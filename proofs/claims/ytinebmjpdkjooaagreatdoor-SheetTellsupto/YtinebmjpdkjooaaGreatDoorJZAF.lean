/-
  tallyref2.ReadSheet, region by region: what does not draw.
-/
import Derived.Test.YtinebmjpdkjooaaGreatDoorJZAE
namespace Go.Proofs.YtinebmjpdkjooaaGreatDoor
open Go Go.ChangeShapes Go.WideShapes Go.ChangeAt Go.RowKit
set_option maxRecDepth 1000000
set_option maxHeartbeats 64000000
noncomputable def rsC (p:List Nat):Code:=atC p (Tryz.f8.body.getD .skip)
abbrev rsF (T:Array Value) (s:Nat→Value):Prop:=FrK 302 33 T s
def rsL (s x:Nat→Value):Array Value := #[s 0,s 1,s 2,s 3,s 4,s 5,s 6,s 7,s 8,s 9,s 10,s 11,s 12,s 13,s 14,s 15,s 16,s 17,s 18,s 19,s 20,s 21,s 22,s 23,s 24,s 25,s 26,s 27,s 28,s 29,s 30,s 31,s 32,x 33,x 34,x 35,x 36,x 37,x 38,x 39,x 40,x 41,x 42,x 43,x 44,x 45,x 46,x 47,x 48,x 49,x 50,x 51,x 52,x 53,x 54,x 55,x 56,x 57,x 58,x 59,x 60,x 61,x 62,x 63,x 64,x 65,x 66,x 67,x 68,x 69,x 70,x 71,x 72,x 73,x 74,x 75,x 76,x 77,x 78,x 79,x 80,x 81,x 82,x 83,x 84,x 85,x 86,x 87,x 88,x 89,x 90,x 91,x 92,x 93,x 94,x 95,x 96,x 97,x 98,x 99,x 100,x 101,x 102,x 103,x 104,x 105,x 106,x 107,x 108,x 109,x 110,x 111,x 112,x 113,x 114,x 115,x 116,x 117,x 118,x 119,x 120,x 121,x 122,x 123,x 124,x 125,x 126,x 127,x 128,x 129,x 130,x 131,x 132,x 133,x 134,x 135,x 136,x 137,x 138,x 139,x 140,x 141,x 142,x 143,x 144,x 145,x 146,x 147,x 148,x 149,x 150,x 151,x 152,x 153,x 154,x 155,x 156,x 157,x 158,x 159,x 160,x 161,x 162,x 163,x 164,x 165,x 166,x 167,x 168,x 169,x 170,x 171,x 172,x 173,x 174,x 175,x 176,x 177,x 178,x 179,x 180,x 181,x 182,x 183,x 184,x 185,x 186,x 187,x 188,x 189,x 190,x 191,x 192,x 193,x 194,x 195,x 196,x 197,x 198,x 199,x 200,x 201,x 202,x 203,x 204,x 205,x 206,x 207,x 208,x 209,x 210,x 211,x 212,x 213,x 214,x 215,x 216,x 217,x 218,x 219,x 220,x 221,x 222,x 223,x 224,x 225,x 226,x 227,x 228,x 229,x 230,x 231,x 232,x 233,x 234,x 235,x 236,x 237,x 238,x 239,x 240,x 241,x 242,x 243,x 244,x 245,x 246,x 247,x 248,x 249,x 250,x 251,x 252,x 253,x 254,x 255,x 256,x 257,x 258,x 259,x 260,x 261,x 262,x 263,x 264,x 265,x 266,x 267,x 268,x 269,x 270,x 271,x 272,x 273,x 274,x 275,x 276,x 277,x 278,x 279,x 280,x 281,x 282,x 283,x 284,x 285,x 286,x 287,x 288,x 289,x 290,x 291,x 292,x 293,x 294,x 295,x 296,x 297,x 298,x 299,x 300,x 301]
theorem rs_open {T:Array Value} {s:Nat→Value} (h:rsF T s):∃ x,T=rsL s x:=frK_open h (by decide)
theorem rsL0 (T:Array Value) (s:Nat→Value)  (w:World) (hF:rsF T s)   (J:Act→World→Prop) (Q:Exit→Act→World→Prop)
  (hJ:∀ T',rsF T' (upG (upG (upG (upG s 2 (.pointer (some ⟨w.heap.size,0,none⟩))) 3 (.slice none 0 0)) 4 (.int .i64 0)) 5 (.int .i64 0))→J ⟨T',[]⟩ (w.alloc (.cells #[.slice none 0 0] 24))):Code.wp Tryz.prog (rsC [0]) (Exit.then J Q) ⟨T,[]⟩ w:=by
 obtain ⟨xF,rfl⟩:=rs_open hF
 unfold rsL
 have HJ:=hid_of hJ
 clear hJ hF 
 conv=>arg 2;whnf
 go_wp2_with fail
 refine HJ.out _ ⟨rfl,?_⟩ 
 rfl
theorem rsL1 (T:Array Value) (s:Nat→Value)  (w:World) (hF:rsF T s)   (J:Act→World→Prop) (Q:Exit→Act→World→Prop)
  (hJ:∀ T',rsF T' (upG s 6 (.pointer (some ⟨w.heap.size,0,none⟩)))→J ⟨T',[]⟩ (w.alloc (.cells #[.slice none 0 0] 24))):Code.wp Tryz.prog (rsC [1,0]) (Exit.then J Q) ⟨T,[]⟩ w:=by
 obtain ⟨xF,rfl⟩:=rs_open hF
 unfold rsL
 have HJ:=hid_of hJ
 clear hJ hF 
 conv=>arg 2;whnf
 go_wp2_with fail
 refine HJ.out _ ⟨rfl,?_⟩ 
 rfl
theorem rsL2 (T:Array Value) (s:Nat→Value)  (w:World) (hF:rsF T s)   (J:Act→World→Prop) (Q:Exit→Act→World→Prop)
  (hJ:∀ T',rsF T' (upG s 7 (.slice none 0 0))→J ⟨T',[]⟩ w):Code.wp Tryz.prog (rsC [1,1,0]) (Exit.then J Q) ⟨T,[]⟩ w:=by
 obtain ⟨xF,rfl⟩:=rs_open hF
 unfold rsL
 have HJ:=hid_of hJ
 clear hJ hF 
 conv=>arg 2;whnf
 go_wp2_with fail
 refine HJ.out _ ⟨rfl,?_⟩ 
 rfl
theorem rsL3 (T:Array Value) (s:Nat→Value)  (w:World) (hF:rsF T s)   (J:Act→World→Prop) (Q:Exit→Act→World→Prop)
  (hJ:∀ T',rsF T' (upG s 8 (.slice none 0 0))→J ⟨T',[]⟩ w):Code.wp Tryz.prog (rsC [1,1,1,0]) (Exit.then J Q) ⟨T,[]⟩ w:=by
 obtain ⟨xF,rfl⟩:=rs_open hF
 unfold rsL
 have HJ:=hid_of hJ
 clear hJ hF 
 conv=>arg 2;whnf
 go_wp2_with fail
 refine HJ.out _ ⟨rfl,?_⟩ 
 rfl
theorem rsL4 (T:Array Value) (s:Nat→Value)  (w:World) (hF:rsF T s)   (J:Act→World→Prop) (Q:Exit→Act→World→Prop)
  (hJ:∀ T',rsF T' (upG s 9 (.int .i64 0))→J ⟨T',[]⟩ w):Code.wp Tryz.prog (rsC [1,1,1,1,0]) (Exit.then J Q) ⟨T,[]⟩ w:=by
 obtain ⟨xF,rfl⟩:=rs_open hF
 unfold rsL
 have HJ:=hid_of hJ
 clear hJ hF 
 conv=>arg 2;whnf
 go_wp2_with fail
 refine HJ.out _ ⟨rfl,?_⟩ 
 rfl
theorem rsL5 (T:Array Value) (s:Nat→Value) (t:ByteArray) (X:Value→World→Prop) (w:World) (hF:rsF T s) (h0:s 0=.string t)  (hcall:Calls Tryz.prog 27 #[.string t,.int .u8 10] w fun e w' => ∃ v,e=.returned v∧X v w') (J:Act→World→Prop) (Q:Exit→Act→World→Prop)
  (hJ:∀ T' v w',rsF T' (upG s 10 v)→X v w'→J ⟨T',[]⟩ w'):Code.wp Tryz.prog (rsC [1,1,1,1,1,0]) (Exit.then J Q) ⟨T,[]⟩ w:=by
 obtain ⟨xF,rfl⟩:=rs_open hF
 unfold rsL
 rw [h0]
 have HJ:=hid_of hJ
 have H0:=hid_of h0
 clear hJ hF h0
 conv=>arg 2;whnf
 go_wp2_with fail
 refine hcall.mono ?_
 rintro e w1 ⟨v,rfl,hX⟩
 have HX:=hid_of hX
 clear hcall hX
 go_wp2_with fail
 refine HJ.out _ v w1 ⟨rfl,?_⟩ HX.out
 rw [←H0.out]
 rfl
theorem rsL6 (T:Array Value) (s:Nat→Value) (A:Option Addr) (m l c:Nat) (w:World) (hF:rsF T s) (h10:s 10=.slice A m c) (hm:m=l+1) (hl:l≤4611686018427387904) (J:Act→World→Prop) (Q:Exit→Act→World→Prop)
  (hJ:∀ T',rsF T' (upG s 11 (.int .i64 (l:Nat)))→J ⟨T',[]⟩ w):Code.wp Tryz.prog (rsC [1,1,1,1,1,1,0]) (Exit.then J Q) ⟨T,[]⟩ w:=by
 obtain ⟨xF,rfl⟩:=rs_open hF
 unfold rsL
 rw [h10]
 have HJ:=hid_of hJ
 have H10:=hid_of h10
 clear hJ hF h10
 conv=>arg 2;whnf
 have h1:((m:Int)-1)=(l:Int):=by omega
 have h2:(m:Int)≤9223372036854775807:=by omega
 clear hm
 go_wp2_with fail
 refine HJ.out _ ⟨rfl,?_⟩ 
 rw [←H10.out]
 rfl
theorem rsL7 (T:Array Value) (s:Nat→Value)  (w:World) (hF:rsF T s)   (J:Act→World→Prop) (Q:Exit→Act→World→Prop)
  (hJ:∀ T',rsF T' (upG s 12 (.int .i64 0))→J ⟨T',[]⟩ w):Code.wp Tryz.prog (rsC [1,1,1,1,1,1,1,0,0]) (Exit.then J Q) ⟨T,[]⟩ w:=by
 obtain ⟨xF,rfl⟩:=rs_open hF
 unfold rsL
 have HJ:=hid_of hJ
 clear hJ hF 
 conv=>arg 2;whnf
 go_wp2_with fail
 refine HJ.out _ ⟨rfl,?_⟩ 
 rfl
theorem rsL9 (T:Array Value) (s:Nat→Value) (k:Nat) (w:World) (hF:rsF T s) (h12:s 12=.int .i64 (k:Nat)) (hk:k≤4611686018427387904) (J:Act→World→Prop) (Q:Exit→Act→World→Prop)
  (hJ:∀ T',rsF T' (upG s 12 (.int .i64 (k+1:Nat)))→J ⟨T',[]⟩ w):Code.wp Tryz.prog (rsC [1,1,1,1,1,1,1,0,1,3,4,1,1]) (Exit.then J Q) ⟨T,[]⟩ w:=by
 obtain ⟨xF,rfl⟩:=rs_open hF
 unfold rsL
 rw [h12]
 have HJ:=hid_of hJ
 have H12:=hid_of h12
 clear hJ hF h12
 conv=>arg 2;whnf
 have h1:(k:Int)+1≤9223372036854775807:=by omega
 go_wp2_with fail
 refine HJ.out _ ⟨rfl,?_⟩ 
 rfl
theorem rsL8 (T:Array Value) (s:Nat→Value) (k m:Nat) (w:World) (hF:rsF T s) (h11:s 11=.int .i64 (m:Nat)) (h12:s 12=.int .i64 (k:Nat))  (J:Act→World→Prop) (Q:Exit→Act→World→Prop)
  (hJ:∀ T',rsF T' s→Act.eval ⟨T',[]⟩ (.tmp 40)=.bool (decide (k<m))→J ⟨T',[]⟩ w):Code.wp Tryz.prog (rsC [1,1,1,1,1,1,1,0,1,3,4,0,0]) (Exit.then J Q) ⟨T,[]⟩ w:=by
 obtain ⟨xF,rfl⟩:=rs_open hF
 unfold rsL
 rw [h11,h12]
 have HJ:=hid_of hJ
 have H11:=hid_of h11
 have H12:=hid_of h12
 clear hJ hF h11 h12
 conv=>arg 2;whnf
 by_cases hlt:k<m
 ·have h1:(k:Int)<(m:Int):=by omega
  go_wp2_with fail
  refine HJ.out _ ⟨rfl,?_⟩ (by rw [decide_eq_true hlt];rfl)
  rw [←H11.out,←H12.out]
  rfl
 ·have h1 : ¬ (k:Int)<(m:Int):=by omega
  go_wp2_with fail
  refine HJ.out _ ⟨rfl,?_⟩ (by rw [decide_eq_false hlt];rfl)
  rw [←H11.out,←H12.out]
  rfl
theorem rsL10 (T:Array Value) (s:Nat→Value) (gl m c k:Nat) (t:ByteArray) (X:Value→World→Prop) (w:World) (hF:rsF T s) (h10:s 10=.slice (some ⟨gl,0,none⟩) m c) (h12:s 12=.int .i64 (k:Nat)) (hk:k<m) (ht:w.cell? ⟨gl,k,none⟩=some (.string t)) (hcall:Calls Tryz.prog 27 #[.string t,.int .u8 32] w fun e w' => ∃ v,e=.returned v∧X v w') (J:Act→World→Prop) (Q:Exit→Act→World→Prop)
  (hJ:∀ T' v w',rsF T' (upG s 13 v)→X v w'→J ⟨T',[]⟩ w'):Code.wp Tryz.prog (rsC [1,1,1,1,1,1,1,0,1,3,4,1,0,3,0]) (Exit.then J Q) ⟨T,[]⟩ w:=by
 obtain ⟨xF,rfl⟩:=rs_open hF
 unfold rsL
 rw [h10,h12]
 have HJ:=hid_of hJ
 have H10:=hid_of h10
 have H12:=hid_of h12
 clear hJ hF h10 h12
 conv=>arg 2;whnf
 go_wp2_with fail
 refine hcall.mono ?_
 rintro e w1 ⟨v,rfl,hX⟩
 have HX:=hid_of hX
 clear hcall hX
 go_wp2_with fail
 refine HJ.out _ v w1 ⟨rfl,?_⟩ HX.out
 rw [←H10.out,←H12.out]
 rfl
theorem rsL11 (T:Array Value) (s:Nat→Value)  (w:World) (hF:rsF T s)   (J:Act→World→Prop) (Q:Exit→Act→World→Prop)
  (hJ:∀ T',rsF T' (upG s 14 (.bool false))→J ⟨T',[]⟩ w):Code.wp Tryz.prog (rsC [1,1,1,1,1,1,1,0,1,3,4,1,0,3,1,0]) (Exit.then J Q) ⟨T,[]⟩ w:=by
 obtain ⟨xF,rfl⟩:=rs_open hF
 unfold rsL
 have HJ:=hid_of hJ
 clear hJ hF 
 conv=>arg 2;whnf
 go_wp2_with fail
 refine HJ.out _ ⟨rfl,?_⟩ 
 rfl
theorem rsL12 (T:Array Value) (s:Nat→Value) (gw nw cw n7 c7:Nat) (A7:Option Addr) (w0:ByteArray) (w:World) (hF:rsF T s) (h7:s 7=.slice A7 n7 c7) (h13:s 13=.slice (some ⟨gw,0,none⟩) nw cw) (hn:0<nw) (hw0:w.cell? ⟨gw,0,none⟩=some (.string w0)) (J:Act→World→Prop) (Q:Exit→Act→World→Prop)
  (hJ:∀ T',rsF T' s→Act.eval ⟨T',[]⟩ (.tmp 61)=.bool ((w0.toList == [100,105,109]) && decide (nw=3) && decide (n7=0))→J ⟨T',[]⟩ w):Code.wp Tryz.prog (rsC [1,1,1,1,1,1,1,0,1,3,4,1,0,3,1,1,0,0]) (Exit.then J Q) ⟨T,[]⟩ w:=by
 obtain ⟨xF,rfl⟩:=rs_open hF
 unfold rsL
 rw [h7,h13]
 have HJ:=hid_of hJ
 have H7:=hid_of h7
 have H13:=hid_of h13
 clear hJ hF h7 h13
 conv=>arg 2;whnf
 cases hb0:(w0.toList == [100,105,109])
 ·go_wp2_with fail
  refine HJ.out _ ⟨rfl,?_⟩ (by rw [hb0];rfl)
  rw [←H7.out,←H13.out]
  rfl
 ·skip
  by_cases q0:nw=3
  ·have r0:((nw:Int) == 3)=true:=by simp;omega
   have Q0:=hid_of (decide_eq_true q0)
   clear q0
   by_cases q1:n7=0
   ·have r1:((n7:Int) == 0)=true:=by simp;omega
    have Q1:=hid_of (decide_eq_true q1)
    clear q1
    go_wp2_with fail
    refine HJ.out _ ⟨rfl,?_⟩ (by rw [hb0,Q0.out,Q1.out];rfl)
    rw [←H7.out,←H13.out]
    rfl
   ·have r1:((n7:Int) == 0)=false:=by simp;omega
    have Q1:=hid_of (decide_eq_false q1)
    clear q1
    go_wp2_with fail
    refine HJ.out _ ⟨rfl,?_⟩ (by rw [hb0,Q0.out,Q1.out];rfl)
    rw [←H7.out,←H13.out]
    rfl
  ·have r0:((nw:Int) == 3)=false:=by simp;omega
   have Q0:=hid_of (decide_eq_false q0)
   clear q0
   go_wp2_with fail
   refine HJ.out _ ⟨rfl,?_⟩ (by rw [hb0,Q0.out];rfl)
   rw [←H7.out,←H13.out]
   rfl
theorem rsL17 (T:Array Value) (s:Nat→Value) (q gw nw cw n7 c7 nd cd:Nat) (A7 Ad:Option Addr) (w0:ByteArray) (w:World) (hF:rsF T s) (h6:s 6=.pointer (some ⟨q,0,none⟩)) (h7:s 7=.slice A7 n7 c7) (h13:s 13=.slice (some ⟨gw,0,none⟩) nw cw) (hn:0<nw) (hq:w.cell? ⟨q,0,none⟩=some (.slice Ad nd cd)) (hw0:w.cell? ⟨gw,0,none⟩=some (.string w0)) (J:Act→World→Prop) (Q:Exit→Act→World→Prop)
  (hJ:∀ T',rsF T' s→Act.eval ⟨T',[]⟩ (.tmp 110)=.bool ((w0.toList == [109,101,109]) && decide (nw=4) && decide (n7=0) && decide (0<nd))→J ⟨T',[]⟩ w):Code.wp Tryz.prog (rsC [1,1,1,1,1,1,1,0,1,3,4,1,0,3,1,1,0,1,5,0]) (Exit.then J Q) ⟨T,[]⟩ w:=by
 obtain ⟨xF,rfl⟩:=rs_open hF
 unfold rsL
 rw [h6,h7,h13]
 have HJ:=hid_of hJ
 have H6:=hid_of h6
 have H7:=hid_of h7
 have H13:=hid_of h13
 clear hJ hF h6 h7 h13
 conv=>arg 2;whnf
 cases hb0:(w0.toList == [109,101,109])
 ·go_wp2_with fail
  refine HJ.out _ ⟨rfl,?_⟩ (by rw [hb0];rfl)
  rw [←H6.out,←H7.out,←H13.out]
  rfl
 ·skip
  by_cases q0:nw=4
  ·have r0:((nw:Int) == 4)=true:=by simp;omega
   have Q0:=hid_of (decide_eq_true q0)
   clear q0
   by_cases q1:n7=0
   ·have r1:((n7:Int) == 0)=true:=by simp;omega
    have Q1:=hid_of (decide_eq_true q1)
    clear q1
    by_cases q2:0<nd
    ·have r2:(0:Int)<(nd:Int):=by omega
     have Q2:=hid_of (decide_eq_true q2)
     clear q2
     go_wp2_with fail
     refine HJ.out _ ⟨rfl,?_⟩ (by rw [hb0,Q0.out,Q1.out,Q2.out];rfl)
     rw [←H6.out,←H7.out,←H13.out]
     rfl
    ·have r2 : ¬ (0:Int)<(nd:Int):=by omega
     have Q2:=hid_of (decide_eq_false q2)
     clear q2
     go_wp2_with fail
     refine HJ.out _ ⟨rfl,?_⟩ (by rw [hb0,Q0.out,Q1.out,Q2.out];rfl)
     rw [←H6.out,←H7.out,←H13.out]
     rfl
   ·have r1:((n7:Int) == 0)=false:=by simp;omega
    have Q1:=hid_of (decide_eq_false q1)
    clear q1
    go_wp2_with fail
    refine HJ.out _ ⟨rfl,?_⟩ (by rw [hb0,Q0.out,Q1.out];rfl)
    rw [←H6.out,←H7.out,←H13.out]
    rfl
  ·have r0:((nw:Int) == 4)=false:=by simp;omega
   have Q0:=hid_of (decide_eq_false q0)
   clear q0
   go_wp2_with fail
   refine HJ.out _ ⟨rfl,?_⟩ (by rw [hb0,Q0.out];rfl)
   rw [←H6.out,←H7.out,←H13.out]
   rfl
theorem rsL39 (T:Array Value) (s:Nat→Value) (gw nw cw:Nat) (w0:ByteArray) (w:World) (hF:rsF T s) (h13:s 13=.slice (some ⟨gw,0,none⟩) nw cw) (hn:0<nw) (hw0:w.cell? ⟨gw,0,none⟩=some (.string w0)) (J:Act→World→Prop) (Q:Exit→Act→World→Prop)
  (hJ:∀ T',rsF T' s→Act.eval ⟨T',[]⟩ (.tmp 203)=.bool ((w0.toList == [99,101,108,108]) && decide (nw=3))→J ⟨T',[]⟩ w):Code.wp Tryz.prog (rsC [1,1,1,1,1,1,1,0,1,3,4,1,0,3,1,1,0,1,5,1,5,0]) (Exit.then J Q) ⟨T,[]⟩ w:=by
 obtain ⟨xF,rfl⟩:=rs_open hF
 unfold rsL
 rw [h13]
 have HJ:=hid_of hJ
 have H13:=hid_of h13
 clear hJ hF h13
 conv=>arg 2;whnf
 cases hb0:(w0.toList == [99,101,108,108])
 ·go_wp2_with fail
  refine HJ.out _ ⟨rfl,?_⟩ (by rw [hb0];rfl)
  rw [←H13.out]
  rfl
 ·skip
  by_cases q0:nw=3
  ·have r0:((nw:Int) == 3)=true:=by simp;omega
   have Q0:=hid_of (decide_eq_true q0)
   clear q0
   go_wp2_with fail
   refine HJ.out _ ⟨rfl,?_⟩ (by rw [hb0,Q0.out];rfl)
   rw [←H13.out]
   rfl
  ·have r0:((nw:Int) == 3)=false:=by simp;omega
   have Q0:=hid_of (decide_eq_false q0)
   clear q0
   go_wp2_with fail
   refine HJ.out _ ⟨rfl,?_⟩ (by rw [hb0,Q0.out];rfl)
   rw [←H13.out]
   rfl
theorem rsL13 (T:Array Value) (s:Nat→Value) (gw nw cw:Nat) (w2:ByteArray) (X:Value→Value→World→Prop) (w:World) (hF:rsF T s) (h13:s 13=.slice (some ⟨gw,0,none⟩) nw cw) (hn:2<nw) (hw2:w.cell? ⟨gw,2,none⟩=some (.string w2)) (hcall:Calls Tryz.prog 28 #[.string w2,.int .i64 7] w fun e w' => ∃ v u,e=.returned (.tuple #[v,u])∧X v u w') (J:Act→World→Prop) (Q:Exit→Act→World→Prop)
  (hJ:∀ T' v u w',rsF T' (upG (upG s 15 v) 16 u)→X v u w'→J ⟨T',[]⟩ w'):Code.wp Tryz.prog (rsC [1,1,1,1,1,1,1,0,1,3,4,1,0,3,1,1,0,1,2,0]) (Exit.then J Q) ⟨T,[]⟩ w:=by
 obtain ⟨xF,rfl⟩:=rs_open hF
 unfold rsL
 rw [h13]
 have HJ:=hid_of hJ
 have H13:=hid_of h13
 clear hJ hF h13
 conv=>arg 2;whnf
 go_wp2_with fail
 refine hcall.mono ?_
 rintro e w1 ⟨v,u,rfl,hX⟩
 have HX:=hid_of hX
 clear hcall hX
 go_wp2_with fail
 refine HJ.out _ v u w1 ⟨rfl,?_⟩ HX.out
 rw [←H13.out]
 rfl
theorem rsL21 (T:Array Value) (s:Nat→Value) (gw nw cw:Nat) (w2:ByteArray) (X:Value→Value→World→Prop) (w:World) (hF:rsF T s) (h13:s 13=.slice (some ⟨gw,0,none⟩) nw cw) (hn:2<nw) (hw2:w.cell? ⟨gw,2,none⟩=some (.string w2)) (hcall:Calls Tryz.prog 28 #[.string w2,.int .i64 7] w fun e w' => ∃ v u,e=.returned (.tuple #[v,u])∧X v u w') (J:Act→World→Prop) (Q:Exit→Act→World→Prop)
  (hJ:∀ T' v u w',rsF T' (upG (upG s 19 v) 20 u)→X v u w'→J ⟨T',[]⟩ w'):Code.wp Tryz.prog (rsC [1,1,1,1,1,1,1,0,1,3,4,1,0,3,1,1,0,1,5,1,2,1,1,0,1,2,0]) (Exit.then J Q) ⟨T,[]⟩ w:=by
 obtain ⟨xF,rfl⟩:=rs_open hF
 unfold rsL
 rw [h13]
 have HJ:=hid_of hJ
 have H13:=hid_of h13
 clear hJ hF h13
 conv=>arg 2;whnf
 go_wp2_with fail
 refine hcall.mono ?_
 rintro e w1 ⟨v,u,rfl,hX⟩
 have HX:=hid_of hX
 clear hcall hX
 go_wp2_with fail
 refine HJ.out _ v u w1 ⟨rfl,?_⟩ HX.out
 rw [←H13.out]
 rfl
theorem rsL40 (T:Array Value) (s:Nat→Value) (gw nw cw:Nat) (w2:ByteArray) (X:Value→Value→World→Prop) (w:World) (hF:rsF T s) (h13:s 13=.slice (some ⟨gw,0,none⟩) nw cw) (hn:2<nw) (hw2:w.cell? ⟨gw,2,none⟩=some (.string w2)) (hcall:Calls Tryz.prog 28 #[.string w2,.int .i64 7] w fun e w' => ∃ v u,e=.returned (.tuple #[v,u])∧X v u w') (J:Act→World→Prop) (Q:Exit→Act→World→Prop)
  (hJ:∀ T' v u w',rsF T' (upG (upG s 23 v) 24 u)→X v u w'→J ⟨T',[]⟩ w'):Code.wp Tryz.prog (rsC [1,1,1,1,1,1,1,0,1,3,4,1,0,3,1,1,0,1,5,1,5,1,2,0]) (Exit.then J Q) ⟨T,[]⟩ w:=by
 obtain ⟨xF,rfl⟩:=rs_open hF
 unfold rsL
 rw [h13]
 have HJ:=hid_of hJ
 have H13:=hid_of h13
 clear hJ hF h13
 conv=>arg 2;whnf
 go_wp2_with fail
 refine hcall.mono ?_
 rintro e w1 ⟨v,u,rfl,hX⟩
 have HX:=hid_of hX
 clear hcall hX
 go_wp2_with fail
 refine HJ.out _ v u w1 ⟨rfl,?_⟩ HX.out
 rw [←H13.out]
 rfl
theorem rsL14 (T:Array Value) (s:Nat→Value) (gw nw cw:Nat) (w1:ByteArray) (X:Value→World→Prop) (w:World) (hF:rsF T s) (h13:s 13=.slice (some ⟨gw,0,none⟩) nw cw) (hn:1<nw) (hw1:w.cell? ⟨gw,1,none⟩=some (.string w1)) (hcall:Calls Tryz.prog 29 #[.string w1] w fun e w' => ∃ v,e=.returned v∧X v w') (J:Act→World→Prop) (Q:Exit→Act→World→Prop)
  (hJ:∀ T' v w',rsF T' (upG s 17 v)→X v w'→J ⟨T',[]⟩ w'):Code.wp Tryz.prog (rsC [1,1,1,1,1,1,1,0,1,3,4,1,0,3,1,1,0,1,2,1,0]) (Exit.then J Q) ⟨T,[]⟩ w:=by
 obtain ⟨xF,rfl⟩:=rs_open hF
 unfold rsL
 rw [h13]
 have HJ:=hid_of hJ
 have H13:=hid_of h13
 clear hJ hF h13
 conv=>arg 2;whnf
 go_wp2_with fail
 refine hcall.mono ?_
 rintro e w1 ⟨v,rfl,hX⟩
 have HX:=hid_of hX
 clear hcall hX
 go_wp2_with fail
 refine HJ.out _ v w1 ⟨rfl,?_⟩ HX.out
 rw [←H13.out]
 rfl
theorem rsL19 (T:Array Value) (s:Nat→Value) (gw nw cw:Nat) (w1:ByteArray) (X:Value→World→Prop) (w:World) (hF:rsF T s) (h13:s 13=.slice (some ⟨gw,0,none⟩) nw cw) (hn:1<nw) (hw1:w.cell? ⟨gw,1,none⟩=some (.string w1)) (hcall:Calls Tryz.prog 29 #[.string w1] w fun e w' => ∃ v,e=.returned v∧X v w') (J:Act→World→Prop) (Q:Exit→Act→World→Prop)
  (hJ:∀ T' v w',rsF T' (upG s 14 v)→X v w'→J ⟨T',[]⟩ w'):Code.wp Tryz.prog (rsC [1,1,1,1,1,1,1,0,1,3,4,1,0,3,1,1,0,1,5,1,2,1,0]) (Exit.then J Q) ⟨T,[]⟩ w:=by
 obtain ⟨xF,rfl⟩:=rs_open hF
 unfold rsL
 rw [h13]
 have HJ:=hid_of hJ
 have H13:=hid_of h13
 clear hJ hF h13
 conv=>arg 2;whnf
 go_wp2_with fail
 refine hcall.mono ?_
 rintro e w1 ⟨v,rfl,hX⟩
 have HX:=hid_of hX
 clear hcall hX
 go_wp2_with fail
 refine HJ.out _ v w1 ⟨rfl,?_⟩ HX.out
 rw [←H13.out]
 rfl
theorem rsL15 (T:Array Value) (s:Nat→Value) (k:Int) (b c:Bool) (w:World) (hF:rsF T s) (h15:s 15=.int .i64 k) (h16:s 16=.bool b) (h17:s 17=.bool c)  (J:Act→World→Prop) (Q:Exit→Act→World→Prop)
  (hJ:∀ T',rsF T' (upG s 14 (.bool (b && decide (0≤k) && c)))→J ⟨T',[]⟩ w):Code.wp Tryz.prog (rsC [1,1,1,1,1,1,1,0,1,3,4,1,0,3,1,1,0,1,2,1,1,0]) (Exit.then J Q) ⟨T,[]⟩ w:=by
 obtain ⟨xF,rfl⟩:=rs_open hF
 unfold rsL
 rw [h15,h16,h17]
 have HJ:=hid_of hJ
 have H15:=hid_of h15
 have H16:=hid_of h16
 have H17:=hid_of h17
 clear hJ hF h15 h16 h17
 conv=>arg 2;whnf
 by_cases hk:0≤k
 ·have HD:=hid_of (decide_eq_true hk)
  cases b
  ·go_wp2_with fail
   rw [HD.out] at HJ
   refine HJ.out _ ⟨rfl,?_⟩ 
   show _=[s 0,s 1,s 2,s 3,s 4,s 5,s 6,s 7,s 8,s 9,s 10,s 11,s 12,s 13,_,s 15,s 16,s 17,s 18,s 19,s 20,s 21,s 22,s 23,s 24,s 25,s 26,s 27,s 28,s 29,s 30,s 31,s 32]
   rw [H15.out,H16.out,H17.out]
   rfl
  ·cases c
   ·go_wp2_with fail
    rw [HD.out] at HJ
    refine HJ.out _ ⟨rfl,?_⟩ 
    show _=[s 0,s 1,s 2,s 3,s 4,s 5,s 6,s 7,s 8,s 9,s 10,s 11,s 12,s 13,_,s 15,s 16,s 17,s 18,s 19,s 20,s 21,s 22,s 23,s 24,s 25,s 26,s 27,s 28,s 29,s 30,s 31,s 32]
    rw [H15.out,H16.out,H17.out]
    rfl
   ·go_wp2_with fail
    rw [HD.out] at HJ
    refine HJ.out _ ⟨rfl,?_⟩ 
    show _=[s 0,s 1,s 2,s 3,s 4,s 5,s 6,s 7,s 8,s 9,s 10,s 11,s 12,s 13,_,s 15,s 16,s 17,s 18,s 19,s 20,s 21,s 22,s 23,s 24,s 25,s 26,s 27,s 28,s 29,s 30,s 31,s 32]
    rw [H15.out,H16.out,H17.out]
    rfl
 ·have HD:=hid_of (decide_eq_false hk)
  cases b
  ·go_wp2_with fail
   rw [HD.out] at HJ
   refine HJ.out _ ⟨rfl,?_⟩ 
   show _=[s 0,s 1,s 2,s 3,s 4,s 5,s 6,s 7,s 8,s 9,s 10,s 11,s 12,s 13,_,s 15,s 16,s 17,s 18,s 19,s 20,s 21,s 22,s 23,s 24,s 25,s 26,s 27,s 28,s 29,s 30,s 31,s 32]
   rw [H15.out,H16.out,H17.out]
   rfl
  ·go_wp2_with fail
   rw [HD.out] at HJ
   refine HJ.out _ ⟨rfl,?_⟩ 
   show _=[s 0,s 1,s 2,s 3,s 4,s 5,s 6,s 7,s 8,s 9,s 10,s 11,s 12,s 13,_,s 15,s 16,s 17,s 18,s 19,s 20,s 21,s 22,s 23,s 24,s 25,s 26,s 27,s 28,s 29,s 30,s 31,s 32]
   rw [H15.out,H16.out,H17.out]
   rfl
theorem rsL18 (T:Array Value) (s:Nat→Value) (gw nw cw:Nat) (w1:ByteArray) (w:World) (hF:rsF T s) (h13:s 13=.slice (some ⟨gw,0,none⟩) nw cw) (hn:1<nw) (hw1:w.cell? ⟨gw,1,none⟩=some (.string w1)) (J:Act→World→Prop) (Q:Exit→Act→World→Prop)
  (hJ:∀ T',rsF T' (upG s 18 (.pointer (some ⟨w.heap.size,0,none⟩)))→J ⟨T',[]⟩ (w.alloc (.cells #[.string w1,.int .i64 (-1),.int .i64 0,.string ⟨#[]⟩] 46))):Code.wp Tryz.prog (rsC [1,1,1,1,1,1,1,0,1,3,4,1,0,3,1,1,0,1,5,1,2,0]) (Exit.then J Q) ⟨T,[]⟩ w:=by
 obtain ⟨xF,rfl⟩:=rs_open hF
 unfold rsL
 rw [h13]
 have HJ:=hid_of hJ
 have H13:=hid_of h13
 clear hJ hF h13
 conv=>arg 2;whnf
 go_wp2_with fail
 refine HJ.out _ ⟨rfl,?_⟩ 
 rw [←H13.out]
 rfl
theorem rsL20 (T:Array Value) (s:Nat→Value) (gw nw cw:Nat) (w2:ByteArray) (w:World) (hF:rsF T s) (h13:s 13=.slice (some ⟨gw,0,none⟩) nw cw) (hn:2<nw) (hw2:w.cell? ⟨gw,2,none⟩=some (.string w2)) (J:Act→World→Prop) (Q:Exit→Act→World→Prop)
  (hJ:∀ T',rsF T' s→Act.eval ⟨T',[]⟩ (.tmp 122)=.bool (!(w2.toList == [45]))→J ⟨T',[]⟩ w):Code.wp Tryz.prog (rsC [1,1,1,1,1,1,1,0,1,3,4,1,0,3,1,1,0,1,5,1,2,1,1,0,0]) (Exit.then J Q) ⟨T,[]⟩ w:=by
 obtain ⟨xF,rfl⟩:=rs_open hF
 unfold rsL
 rw [h13]
 have HJ:=hid_of hJ
 have H13:=hid_of h13
 clear hJ hF h13
 conv=>arg 2;whnf
 cases hb:(w2.toList == [45])
 ·go_wp2_with fail
  refine HJ.out _ ⟨rfl,?_⟩ (by rw [hb];rfl)
  rw [←H13.out]
  rfl
 ·go_wp2_with fail
  refine HJ.out _ ⟨rfl,?_⟩ (by rw [hb];rfl)
  rw [←H13.out]
  rfl
theorem rsL24 (T:Array Value) (s:Nat→Value) (gw nw cw:Nat) (w3:ByteArray) (w:World) (hF:rsF T s) (h13:s 13=.slice (some ⟨gw,0,none⟩) nw cw) (hn:3<nw) (hw3:w.cell? ⟨gw,3,none⟩=some (.string w3)) (J:Act→World→Prop) (Q:Exit→Act→World→Prop)
  (hJ:∀ T',rsF T' (upG s 21 (.string w3))→J ⟨T',[]⟩ w):Code.wp Tryz.prog (rsC [1,1,1,1,1,1,1,0,1,3,4,1,0,3,1,1,0,1,5,1,2,1,1,1,0]) (Exit.then J Q) ⟨T,[]⟩ w:=by
 obtain ⟨xF,rfl⟩:=rs_open hF
 unfold rsL
 rw [h13]
 have HJ:=hid_of hJ
 have H13:=hid_of h13
 clear hJ hF h13
 conv=>arg 2;whnf
 go_wp2_with fail
 refine HJ.out _ ⟨rfl,?_⟩ 
 rw [←H13.out]
 rfl
theorem rsL26 (T:Array Value) (s:Nat→Value)  (w:World) (hF:rsF T s)   (J:Act→World→Prop) (Q:Exit→Act→World→Prop)
  (hJ:∀ T',rsF T' (upG s 14 (.bool false))→J ⟨T',[]⟩ w):Code.wp Tryz.prog (rsC [1,1,1,1,1,1,1,0,1,3,4,1,0,3,1,1,0,1,5,1,2,1,1,1,1,0,1,2]) (Exit.then J Q) ⟨T,[]⟩ w:=by
 obtain ⟨xF,rfl⟩:=rs_open hF
 unfold rsL
 have HJ:=hid_of hJ
 clear hJ hF 
 conv=>arg 2;whnf
 go_wp2_with fail
 refine HJ.out _ ⟨rfl,?_⟩ 
 rfl
theorem rsL37 (T:Array Value) (s:Nat→Value) (q nd l cd:Nat) (Ad:Option Addr) (w:World) (hF:rsF T s) (h6:s 6=.pointer (some ⟨q,0,none⟩)) (hq:w.cell? ⟨q,0,none⟩=some (.slice Ad nd cd)) (hm:nd=l+1) (hl:l≤4611686018427387904) (J:Act→World→Prop) (Q:Exit→Act→World→Prop)
  (hJ:∀ T',rsF T' (upG s 22 (.int .i64 (l:Nat)))→J ⟨T',[]⟩ w):Code.wp Tryz.prog (rsC [1,1,1,1,1,1,1,0,1,3,4,1,0,3,1,1,0,1,5,1,2,1,1,1,1,1,0]) (Exit.then J Q) ⟨T,[]⟩ w:=by
 obtain ⟨xF,rfl⟩:=rs_open hF
 unfold rsL
 rw [h6]
 have HJ:=hid_of hJ
 have H6:=hid_of h6
 clear hJ hF h6
 conv=>arg 2;whnf
 have h1:((nd:Int)-1)=(l:Int):=by omega
 have h2:(nd:Int)≤9223372036854775807:=by omega
 clear hm
 go_wp2_with fail
 refine HJ.out _ ⟨rfl,?_⟩ 
 rw [←H6.out]
 rfl
theorem rsL41 (T:Array Value) (s:Nat→Value) (b:Bool) (w:World) (hF:rsF T s) (h24:s 24=.bool b)  (J:Act→World→Prop) (Q:Exit→Act→World→Prop)
  (hJ:∀ T',rsF T' (upG s 14 (.bool b))→J ⟨T',[]⟩ w):Code.wp Tryz.prog (rsC [1,1,1,1,1,1,1,0,1,3,4,1,0,3,1,1,0,1,5,1,5,1,2,1,0]) (Exit.then J Q) ⟨T,[]⟩ w:=by
 obtain ⟨xF,rfl⟩:=rs_open hF
 unfold rsL
 rw [h24]
 have HJ:=hid_of hJ
 have H24:=hid_of h24
 clear hJ hF h24
 conv=>arg 2;whnf
 go_wp2_with fail
 refine HJ.out _ ⟨rfl,?_⟩ 
 rw [←H24.out]
 rfl
theorem rsL42 (T:Array Value) (s:Nat→Value) (gw nw cw:Nat) (w1:ByteArray) (X:Value→World→Prop) (w:World) (hF:rsF T s) (h13:s 13=.slice (some ⟨gw,0,none⟩) nw cw) (hn:1<nw) (hw1:w.cell? ⟨gw,1,none⟩=some (.string w1)) (hcall:Calls Tryz.prog 27 #[.string w1,.int .u8 46] w fun e w' => ∃ v,e=.returned v∧X v w') (J:Act→World→Prop) (Q:Exit→Act→World→Prop)
  (hJ:∀ T' v w',rsF T' (upG s 25 v)→X v w'→J ⟨T',[]⟩ w'):Code.wp Tryz.prog (rsC [1,1,1,1,1,1,1,0,1,3,4,1,0,3,1,1,0,1,5,1,5,1,2,1,1,0]) (Exit.then J Q) ⟨T,[]⟩ w:=by
 obtain ⟨xF,rfl⟩:=rs_open hF
 unfold rsL
 rw [h13]
 have HJ:=hid_of hJ
 have H13:=hid_of h13
 clear hJ hF h13
 conv=>arg 2;whnf
 go_wp2_with fail
 refine hcall.mono ?_
 rintro e w1 ⟨v,rfl,hX⟩
 have HX:=hid_of hX
 clear hcall hX
 go_wp2_with fail
 refine HJ.out _ v w1 ⟨rfl,?_⟩ HX.out
 rw [←H13.out]
 rfl
theorem rsL43 (T:Array Value) (s:Nat→Value)  (w:World) (hF:rsF T s)   (J:Act→World→Prop) (Q:Exit→Act→World→Prop)
  (hJ:∀ T',rsF T' (upG s 26 (.int .i64 0))→J ⟨T',[]⟩ w):Code.wp Tryz.prog (rsC [1,1,1,1,1,1,1,0,1,3,4,1,0,3,1,1,0,1,5,1,5,1,2,1,1,1,0,0]) (Exit.then J Q) ⟨T,[]⟩ w:=by
 obtain ⟨xF,rfl⟩:=rs_open hF
 unfold rsL
 have HJ:=hid_of hJ
 clear hJ hF 
 conv=>arg 2;whnf
 go_wp2_with fail
 refine HJ.out _ ⟨rfl,?_⟩ 
 rfl
theorem rsL45 (T:Array Value) (s:Nat→Value) (k:Nat) (w:World) (hF:rsF T s) (h26:s 26=.int .i64 (k:Nat)) (hk:k≤4611686018427387904) (J:Act→World→Prop) (Q:Exit→Act→World→Prop)
  (hJ:∀ T',rsF T' (upG s 26 (.int .i64 (k+1:Nat)))→J ⟨T',[]⟩ w):Code.wp Tryz.prog (rsC [1,1,1,1,1,1,1,0,1,3,4,1,0,3,1,1,0,1,5,1,5,1,2,1,1,1,0,1,3,4,1,1]) (Exit.then J Q) ⟨T,[]⟩ w:=by
 obtain ⟨xF,rfl⟩:=rs_open hF
 unfold rsL
 rw [h26]
 have HJ:=hid_of hJ
 have H26:=hid_of h26
 clear hJ hF h26
 conv=>arg 2;whnf
 have h1:(k:Int)+1≤9223372036854775807:=by omega
 go_wp2_with fail
 refine HJ.out _ ⟨rfl,?_⟩ 
 rfl
theorem rsL44 (T:Array Value) (s:Nat→Value) (k m cm:Nat) (Am:Option Addr) (w:World) (hF:rsF T s) (h25:s 25=.slice Am m cm) (h26:s 26=.int .i64 (k:Nat))  (J:Act→World→Prop) (Q:Exit→Act→World→Prop)
  (hJ:∀ T',rsF T' s→Act.eval ⟨T',[]⟩ (.tmp 219)=.bool (decide (k<m))→J ⟨T',[]⟩ w):Code.wp Tryz.prog (rsC [1,1,1,1,1,1,1,0,1,3,4,1,0,3,1,1,0,1,5,1,5,1,2,1,1,1,0,1,3,4,0,0]) (Exit.then J Q) ⟨T,[]⟩ w:=by
 obtain ⟨xF,rfl⟩:=rs_open hF
 unfold rsL
 rw [h25,h26]
 have HJ:=hid_of hJ
 have H25:=hid_of h25
 have H26:=hid_of h26
 clear hJ hF h25 h26
 conv=>arg 2;whnf
 by_cases hlt:k<m
 ·have h1:(k:Int)<(m:Int):=by omega
  go_wp2_with fail
  refine HJ.out _ ⟨rfl,?_⟩ (by rw [decide_eq_true hlt];rfl)
  rw [←H25.out,←H26.out]
  rfl
 ·have h1 : ¬ (k:Int)<(m:Int):=by omega
  go_wp2_with fail
  refine HJ.out _ ⟨rfl,?_⟩ (by rw [decide_eq_false hlt];rfl)
  rw [←H25.out,←H26.out]
  rfl
theorem rsL46 (T:Array Value) (s:Nat→Value) (gp m cm k:Nat) (t:ByteArray) (X:Value→World→Prop) (w:World) (hF:rsF T s) (h25:s 25=.slice (some ⟨gp,0,none⟩) m cm) (h26:s 26=.int .i64 (k:Nat)) (hk:k<m) (ht:w.cell? ⟨gp,k,none⟩=some (.string t)) (hcall:Calls Tryz.prog 29 #[.string t] w fun e w' => ∃ v,e=.returned v∧X v w') (J:Act→World→Prop) (Q:Exit→Act→World→Prop)
  (hJ:∀ T' v w',rsF T' (upG s 27 v)→X v w'→J ⟨T',[]⟩ w'):Code.wp Tryz.prog (rsC [1,1,1,1,1,1,1,0,1,3,4,1,0,3,1,1,0,1,5,1,5,1,2,1,1,1,0,1,3,4,1,0,3,0]) (Exit.then J Q) ⟨T,[]⟩ w:=by
 obtain ⟨xF,rfl⟩:=rs_open hF
 unfold rsL
 rw [h25,h26]
 have HJ:=hid_of hJ
 have H25:=hid_of h25
 have H26:=hid_of h26
 clear hJ hF h25 h26
 conv=>arg 2;whnf
 go_wp2_with fail
 refine hcall.mono ?_
 rintro e w1 ⟨v,rfl,hX⟩
 have HX:=hid_of hX
 clear hcall hX
 go_wp2_with fail
 refine HJ.out _ v w1 ⟨rfl,?_⟩ HX.out
 rw [←H25.out,←H26.out]
 rfl
theorem rsL47 (T:Array Value) (s:Nat→Value) (b c:Bool) (w:World) (hF:rsF T s) (h14:s 14=.bool b) (h27:s 27=.bool c)  (J:Act→World→Prop) (Q:Exit→Act→World→Prop)
  (hJ:∀ T',rsF T' (upG s 14 (.bool (b && c)))→J ⟨T',[]⟩ w):Code.wp Tryz.prog (rsC [1,1,1,1,1,1,1,0,1,3,4,1,0,3,1,1,0,1,5,1,5,1,2,1,1,1,0,1,3,4,1,0,3,1]) (Exit.then J Q) ⟨T,[]⟩ w:=by
 obtain ⟨xF,rfl⟩:=rs_open hF
 unfold rsL
 rw [h14,h27]
 have HJ:=hid_of hJ
 have H14:=hid_of h14
 have H27:=hid_of h27
 clear hJ hF h14 h27
 conv=>arg 2;whnf
 cases b
 ·go_wp2_with fail
  refine HJ.out _ ⟨rfl,?_⟩ 
  show _=[s 0,s 1,s 2,s 3,s 4,s 5,s 6,s 7,s 8,s 9,s 10,s 11,s 12,s 13,_,s 15,s 16,s 17,s 18,s 19,s 20,s 21,s 22,s 23,s 24,s 25,s 26,s 27,s 28,s 29,s 30,s 31,s 32]
  rw [H27.out]
  rfl
 ·go_wp2_with fail
  refine HJ.out _ ⟨rfl,?_⟩ 
  show _=[s 0,s 1,s 2,s 3,s 4,s 5,s 6,s 7,s 8,s 9,s 10,s 11,s 12,s 13,_,s 15,s 16,s 17,s 18,s 19,s 20,s 21,s 22,s 23,s 24,s 25,s 26,s 27,s 28,s 29,s 30,s 31,s 32]
  rw [H27.out]
  rfl
theorem rsL48 (T:Array Value) (s:Nat→Value) (n7 c7:Nat) (A7:Option Addr) (w:World) (hF:rsF T s) (h7:s 7=.slice A7 n7 c7)  (J:Act→World→Prop) (Q:Exit→Act→World→Prop)
  (hJ:∀ T',rsF T' s→Act.eval ⟨T',[]⟩ (.tmp 233)=.bool (decide (n7=0))→J ⟨T',[]⟩ w):Code.wp Tryz.prog (rsC [1,1,1,1,1,1,1,0,1,3,4,1,0,3,1,1,0,1,5,1,5,1,2,1,1,1,1,0,0]) (Exit.then J Q) ⟨T,[]⟩ w:=by
 obtain ⟨xF,rfl⟩:=rs_open hF
 unfold rsL
 rw [h7]
 have HJ:=hid_of hJ
 have H7:=hid_of h7
 clear hJ hF h7
 conv=>arg 2;whnf
 by_cases hz:n7=0
 ·have h1:((n7:Int) == 0)=true:=by simp;omega
  have HZ:=hid_of (decide_eq_true hz)
  clear hz
  go_wp2_with fail
  refine HJ.out _ ⟨rfl,?_⟩ (by rw [HZ.out];rfl)
  rw [←H7.out]
  rfl
 ·have h1:((n7:Int) == 0)=false:=by simp;omega
  have HZ:=hid_of (decide_eq_false hz)
  clear hz
  go_wp2_with fail
  refine HJ.out _ ⟨rfl,?_⟩ (by rw [HZ.out];rfl)
  rw [←H7.out]
  rfl
theorem rsL49 (T:Array Value) (s:Nat→Value) (v:Value) (w:World) (hF:rsF T s) (h12:s 12=v)  (J:Act→World→Prop) (Q:Exit→Act→World→Prop)
  (hJ:∀ T',rsF T' (upG s 9 v)→J ⟨T',[]⟩ w):Code.wp Tryz.prog (rsC [1,1,1,1,1,1,1,0,1,3,4,1,0,3,1,1,0,1,5,1,5,1,2,1,1,1,1,0,1,2]) (Exit.then J Q) ⟨T,[]⟩ w:=by
 obtain ⟨xF,rfl⟩:=rs_open hF
 unfold rsL
 rw [h12]
 have HJ:=hid_of hJ
 have H12:=hid_of h12
 clear hJ hF h12
 conv=>arg 2;whnf
 go_wp2_with fail
 refine HJ.out _ ⟨rfl,?_⟩ 
 rw [←H12.out]
 rfl
theorem rsL52 (T:Array Value) (s:Nat→Value) (b:Bool) (w:World) (hF:rsF T s) (h14:s 14=.bool b)  (J:Act→World→Prop) (Q:Exit→Act→World→Prop)
  (hJ:∀ T',rsF T' s→Act.eval ⟨T',[]⟩ (.tmp 246)=.bool (!b)→J ⟨T',[]⟩ w):Code.wp Tryz.prog (rsC [1,1,1,1,1,1,1,0,1,3,4,1,0,3,1,1,1,0]) (Exit.then J Q) ⟨T,[]⟩ w:=by
 obtain ⟨xF,rfl⟩:=rs_open hF
 unfold rsL
 rw [h14]
 have HJ:=hid_of hJ
 have H14:=hid_of h14
 clear hJ hF h14
 conv=>arg 2;whnf
 cases b
 ·go_wp2_with fail
  refine HJ.out _ ⟨rfl,?_⟩ rfl
  rw [←H14.out]
  rfl
 ·go_wp2_with fail
  refine HJ.out _ ⟨rfl,?_⟩ rfl
  rw [←H14.out]
  rfl
end Go.Proofs.YtinebmjpdkjooaaGreatDoor
