/-
  tallyref2.Change: what it holds; its head, region by region.
-/
import Derived.Lib.SplitLaws
import Derived.Lib.IndexLaws
import Derived.Test.YtfldgghobddgkaaGreatDoorShelfC
import Derived.Shelf.Strconv.ErrVarAll
import Derived.Shelf.Strconv.AtoiAll
import Derived.Lib.AtoiAllCases
import Derived.Test.YtfldgghobddgkaaGreatDoorShelfN
import Derived.Laws.Runes
import Derived.WalkMore
import Derived.Laws.RangeAny
import Derived.Lib.OthersKept
import Derived.Lib.DecodeN
import Derived.Test.YtfldgghobddgkaaGreatDoorShelfS
import Derived.Shelf.Strings.Search3
import Derived.Shelf.Strings.Count
import Derived.Test.YtfldgghobddgkaaGreatDoorJDBI
namespace Go.Proofs.YtfldgghobddgkaaGreatDoor
open Go Go.ChangeShapes Go.WideShapes Go.ChangeAt Go.RowKit
set_option maxRecDepth 1000000
set_option maxHeartbeats 64000000
structure CtB (w:World) (p:Nat) (A0:Option Addr) (n cap:Nat) (wh dm mb tg sg:Int) (nm:ByteArray):Prop where
 o:w.heap[p]?=some (.cells #[.slice A0 n cap] 24 (0,0))
 c:w.heap[p+1]?=some (.cells #[.int .i64 wh,.int .i64 dm,.int .i64 mb,.string nm,.int .i64 tg,.int .i64 sg] 27 (0,0))
 r:w.heap[p+2]?=some (.cells #[.slice none 0 0] 24 (0,0))
theorem CtB.keep {w w':World} {p n cap:Nat} {A0:Option Addr} {wh dm mb tg sg:Int} {nm:ByteArray} (h:CtB w p A0 n cap wh dm mb tg sg nm) (h0:w'.heap[p]?=w.heap[p]?) (h1:w'.heap[p+1]?=w.heap[p+1]?) (h2:w'.heap[p+2]?=w.heap[p+2]?):CtB w' p A0 n cap wh dm mb tg sg nm:=⟨h0.trans h.o,h1.trans h.c,h2.trans h.r⟩
theorem CtB.later {w w':World} {p n cap:Nat} {A0:Option Addr} {wh dm mb tg sg:Int} {nm:ByteArray} (h:CtB w p A0 n cap wh dm mb tg sg nm) (hB:Below w.heap.size w w'):CtB w' p A0 n cap wh dm mb tg sg nm :=
 h.keep (hB.block _ (Array.getElem?_eq_some_iff.1 h.o).1) (hB.block _ (Array.getElem?_eq_some_iff.1 h.c).1) (hB.block _ (Array.getElem?_eq_some_iff.1 h.r).1)
section
variable {w:World} {p n cap:Nat} {A0:Option Addr} {wh dm mb tg sg:Int} {nm:ByteArray} (h:CtB w p A0 n cap wh dm mb tg sg nm)
include h
theorem CtB.xw:w.cell? ⟨p+1,0,none⟩=some (.int .i64 wh):=(Lib.cell_of_heap h.c 0).trans rfl
theorem CtB.xd:w.cell? ⟨p+1,1,none⟩=some (.int .i64 dm):=(Lib.cell_of_heap h.c 1).trans rfl
theorem CtB.xm:w.cell? ⟨p+1,2,none⟩=some (.int .i64 mb):=(Lib.cell_of_heap h.c 2).trans rfl
theorem CtB.xn:w.cell? ⟨p+1,3,none⟩=some (.string nm):=(Lib.cell_of_heap h.c 3).trans rfl
theorem CtB.xt:w.cell? ⟨p+1,4,none⟩=some (.int .i64 tg):=(Lib.cell_of_heap h.c 4).trans rfl
theorem CtB.xs:w.cell? ⟨p+1,5,none⟩=some (.int .i64 sg):=(Lib.cell_of_heap h.c 5).trans rfl
theorem CtB.lt:p+2<w.heap.size:=(Array.getElem?_eq_some_iff.1 h.r).1
end
theorem ct_new (w:World) (A0:Option Addr) (n cap:Nat) (wh dm mb tg sg:Int) (nm:ByteArray):CtB (((w.alloc (.cells #[.slice A0 n cap] 24)).alloc (.cells #[.int .i64 wh,.int .i64 dm,.int .i64 mb,.string nm,.int .i64 tg,.int .i64 sg] 27)).alloc (.cells #[.slice none 0 0] 24)) w.heap.size A0 n cap wh dm mb tg sg nm:=by
 refine ⟨?_,?_,?_⟩
 ·rw [Below.heap_alloc _ _ _ (by simp;omega),Below.heap_alloc _ _ _ (by simp)];exact heap_alloc_new ..
 ·rw [Below.heap_alloc _ _ _ (by simp)]
  have:=heap_alloc_new (w.alloc (.cells #[.slice A0 n cap] 24)) (.cells #[.int .i64 wh,.int .i64 dm,.int .i64 mb,.string nm,.int .i64 tg,.int .i64 sg] 27)
  rwa [show (w.alloc (.cells #[.slice A0 n cap] 24)).heap.size=w.heap.size+1 by simp] at this
 ·have:=heap_alloc_new ((w.alloc (.cells #[.slice A0 n cap] 24)).alloc (.cells #[.int .i64 wh,.int .i64 dm,.int .i64 mb,.string nm,.int .i64 tg,.int .i64 sg] 27)) (.cells #[.slice none 0 0] 24)
  rwa [show ((w.alloc (.cells #[.slice A0 n cap] 24)).alloc (.cells #[.int .i64 wh,.int .i64 dm,.int .i64 mb,.string nm,.int .i64 tg,.int .i64 sg] 27)).heap.size=w.heap.size+2 by simp] at this
structure CtD (w:World) (B q:Nat) (A:Option Addr) (C:Nat) (d:Dm):Prop where
 box:w.heap[q]?=some (.cells #[.string d.name,.int .i64 d.solve,.slice A d.n C] 41 (0,0))
 row:w.ownsRow B 43 4 (.slice A d.n C) d.n (cellsMb d.mem d.n)
theorem CtD.later {w w':World} {B q C:Nat} {A:Option Addr} {d:Dm} (h:CtD w B q A C d) (hB:Below w.heap.size w w'):CtD w' B q A C d:=⟨(hB.block _ (Array.getElem?_eq_some_iff.1 h.box).1).trans h.box,own_later h.row hB⟩
theorem CtD.lt {w:World} {B q C:Nat} {A:Option Addr} {d:Dm} (h:CtD w B q A C d):q<w.heap.size:=(Array.getElem?_eq_some_iff.1 h.box).1
theorem CtD.c2 {w:World} {B q C:Nat} {A:Option Addr} {d:Dm} (h:CtD w B q A C d):w.cell? ⟨q,2,none⟩=some (.slice A d.n C):=(Lib.cell_of_heap h.box 2).trans rfl
theorem CtD.mems {w:World} {B q C:Nat} {A:Option Addr} {d:Dm} (h:CtD w B q A C d):MemsV w A C d.n d.mem:=by
 rcases h.row.2 with ⟨e,h0⟩ | ⟨g,cap,cur,e,-⟩
 ·simp only [Value.slice.injEq] at e
  obtain ⟨rfl,e1,e2⟩:=e
  exact ⟨by omega,Or.inl e1⟩
 ·simp only [Value.slice.injEq] at e
  obtain ⟨rfl,-,rfl⟩:=e
  exact ⟨(ow_blk h.row).2.2.1,Or.inr ⟨g,0,rfl,ow_mems h.row⟩⟩
noncomputable def ctC (p:List Nat):Code:=atC p (Tryz.f4.body.getD .skip)
abbrev ctF (T:Array Value) (s:Nat→Value):Prop:=FrK 423 28 T s
def ctL (s x:Nat→Value):Array Value := #[s 0,s 1,s 2,s 3,s 4,s 5,s 6,s 7,s 8,s 9,s 10,s 11,s 12,s 13,s 14,s 15,s 16,s 17,s 18,s 19,s 20,s 21,s 22,s 23,s 24,s 25,s 26,s 27,x 28,x 29,x 30,x 31,x 32,x 33,x 34,x 35,x 36,x 37,x 38,x 39,x 40,x 41,x 42,x 43,x 44,x 45,x 46,x 47,x 48,x 49,x 50,x 51,x 52,x 53,x 54,x 55,x 56,x 57,x 58,x 59,x 60,x 61,x 62,x 63,x 64,x 65,x 66,x 67,x 68,x 69,x 70,x 71,x 72,x 73,x 74,x 75,x 76,x 77,x 78,x 79,x 80,x 81,x 82,x 83,x 84,x 85,x 86,x 87,x 88,x 89,x 90,x 91,x 92,x 93,x 94,x 95,x 96,x 97,x 98,x 99,x 100,x 101,x 102,x 103,x 104,x 105,x 106,x 107,x 108,x 109,x 110,x 111,x 112,x 113,x 114,x 115,x 116,x 117,x 118,x 119,x 120,x 121,x 122,x 123,x 124,x 125,x 126,x 127,x 128,x 129,x 130,x 131,x 132,x 133,x 134,x 135,x 136,x 137,x 138,x 139,x 140,x 141,x 142,x 143,x 144,x 145,x 146,x 147,x 148,x 149,x 150,x 151,x 152,x 153,x 154,x 155,x 156,x 157,x 158,x 159,x 160,x 161,x 162,x 163,x 164,x 165,x 166,x 167,x 168,x 169,x 170,x 171,x 172,x 173,x 174,x 175,x 176,x 177,x 178,x 179,x 180,x 181,x 182,x 183,x 184,x 185,x 186,x 187,x 188,x 189,x 190,x 191,x 192,x 193,x 194,x 195,x 196,x 197,x 198,x 199,x 200,x 201,x 202,x 203,x 204,x 205,x 206,x 207,x 208,x 209,x 210,x 211,x 212,x 213,x 214,x 215,x 216,x 217,x 218,x 219,x 220,x 221,x 222,x 223,x 224,x 225,x 226,x 227,x 228,x 229,x 230,x 231,x 232,x 233,x 234,x 235,x 236,x 237,x 238,x 239,x 240,x 241,x 242,x 243,x 244,x 245,x 246,x 247,x 248,x 249,x 250,x 251,x 252,x 253,x 254,x 255,x 256,x 257,x 258,x 259,x 260,x 261,x 262,x 263,x 264,x 265,x 266,x 267,x 268,x 269,x 270,x 271,x 272,x 273,x 274,x 275,x 276,x 277,x 278,x 279,x 280,x 281,x 282,x 283,x 284,x 285,x 286,x 287,x 288,x 289,x 290,x 291,x 292,x 293,x 294,x 295,x 296,x 297,x 298,x 299,x 300,x 301,x 302,x 303,x 304,x 305,x 306,x 307,x 308,x 309,x 310,x 311,x 312,x 313,x 314,x 315,x 316,x 317,x 318,x 319,x 320,x 321,x 322,x 323,x 324,x 325,x 326,x 327,x 328,x 329,x 330,x 331,x 332,x 333,x 334,x 335,x 336,x 337,x 338,x 339,x 340,x 341,x 342,x 343,x 344,x 345,x 346,x 347,x 348,x 349,x 350,x 351,x 352,x 353,x 354,x 355,x 356,x 357,x 358,x 359,x 360,x 361,x 362,x 363,x 364,x 365,x 366,x 367,x 368,x 369,x 370,x 371,x 372,x 373,x 374,x 375,x 376,x 377,x 378,x 379,x 380,x 381,x 382,x 383,x 384,x 385,x 386,x 387,x 388,x 389,x 390,x 391,x 392,x 393,x 394,x 395,x 396,x 397,x 398,x 399,x 400,x 401,x 402,x 403,x 404,x 405,x 406,x 407,x 408,x 409,x 410,x 411,x 412,x 413,x 414,x 415,x 416,x 417,x 418,x 419,x 420,x 421,x 422]
theorem ct_open {T:Array Value} {s:Nat→Value} (h:ctF T s):∃ x,T=ctL s x:=frK_open h (by decide)
theorem ctL0 (T:Array Value) (s:Nat→Value) (A0:Option Addr) (n cap:Nat) (wh dm mb tg sg:Int) (nm:ByteArray) (w:World) (hF:ctF T s) (h0:s 0=.agg #[.slice A0 n cap]) (h2:s 2=.agg #[.int .i64 wh,.int .i64 dm,.int .i64 mb,.string nm,.int .i64 tg,.int .i64 sg])  (J:Act→World→Prop) (Q:Exit→Act→World→Prop)
  (hJ:∀ T',ctF T' (upG (upG (upG (upG (upG s 3 (.pointer (some ⟨w.heap.size,0,none⟩))) 5 (.pointer (some ⟨w.heap.size+1,0,none⟩))) 6 (.pointer (some ⟨w.heap.size+2,0,none⟩))) 7 (.slice none 0 0)) 8 (.int .i64 0))→J ⟨T',[]⟩ (((w.alloc (.cells #[.slice A0 n cap] 24)).alloc (.cells #[.int .i64 wh,.int .i64 dm,.int .i64 mb,.string nm,.int .i64 tg,.int .i64 sg] 27)).alloc (.cells #[.slice none 0 0] 24))):Code.wp Tryz.prog (ctC [0]) (Exit.then J Q) ⟨T,[]⟩ w:=by
 obtain ⟨xF,rfl⟩:=ct_open hF
 unfold ctL
 rw [h0,h2]
 have HJ:=hid_of hJ
 have H0:=hid_of h0
 have H2:=hid_of h2
 clear hJ hF h0 h2
 conv=>arg 2;whnf
 go_wp2_with fail
 refine HJ.out _ ⟨rfl,?_⟩ 
 rw [←H0.out,←H2.out]
 rfl
theorem ctL1 (T:Array Value) (s:Nat→Value) (p:Nat) (A0 AE:Option Addr) (n cap xl ce:Nat) (X:Value→World→Prop) (w:World) (hF:ctF T s) (h1:s 1=.slice AE xl ce) (h3:s 3=.pointer (some ⟨p,0,none⟩)) (hc:w.cell? ⟨p,0,none⟩=some (.slice A0 n cap)) (hcall:Calls Tryz.prog 9 #[.agg #[.slice A0 n cap],.slice AE xl ce] w fun e w' => ∃ v,e=.returned v∧X v w') (J:Act→World→Prop) (Q:Exit→Act→World→Prop)
  (hJ:∀ T' v w',ctF T' (upG s 9 v)→X v w'→J ⟨T',[]⟩ w'):Code.wp Tryz.prog (ctC [1,0]) (Exit.then J Q) ⟨T,[]⟩ w:=by
 obtain ⟨xF,rfl⟩:=ct_open hF
 unfold ctL
 rw [h1,h3]
 have HJ:=hid_of hJ
 have H1:=hid_of h1
 have H3:=hid_of h3
 clear hJ hF h1 h3
 conv=>arg 2;whnf
 go_wp2_with fail
 refine hcall.mono ?_
 rintro e w1 ⟨v,rfl,hX⟩
 have HX:=hid_of hX
 clear hcall hX
 go_wp2_with fail
 refine HJ.out _ v w1 ⟨rfl,?_⟩ HX.out
 rw [←H1.out,←H3.out]
 rfl
theorem ctL2 (T:Array Value) (s:Nat→Value) (p n cap:Nat) (A0:Option Addr) (E wh dm:Int) (w:World) (hF:ctF T s) (h3:s 3=.pointer (some ⟨p,0,none⟩)) (h5:s 5=.pointer (some ⟨(p+1),0,none⟩)) (h9:s 9=.int .i64 E) (c0:w.cell? ⟨p,0,none⟩=some (.slice A0 n cap)) (c1:w.cell? ⟨p+1,0,none⟩=some (.int .i64 wh)) (c2:w.cell? ⟨p+1,1,none⟩=some (.int .i64 dm)) (J:Act→World→Prop) (Q:Exit→Act→World→Prop)
  (hJ:∀ T',ctF T' s→Act.eval ⟨T',[]⟩ (.tmp 55)=.bool (decide (E=0∧(wh<1∨5<wh∨dm<0∨(n:Int)≤dm)))→J ⟨T',[]⟩ w):Code.wp Tryz.prog (ctC [1,1,0,0]) (Exit.then J Q) ⟨T,[]⟩ w:=by
 obtain ⟨xF,rfl⟩:=ct_open hF
 unfold ctL
 rw [h3,h5,h9]
 have HJ:=hid_of hJ
 have H3:=hid_of h3
 have H5:=hid_of h5
 have H9:=hid_of h9
 clear hJ hF h3 h5 h9
 conv=>arg 2;whnf
 by_cases h0:E=0
 ·have h0b:(E == 0)=true:=by simpa using h0
  by_cases h1:wh<1
  ·have HL:=hid_of (decide_eq_true (p:=E=0∧(wh<1∨5<wh∨dm<0∨(n:Int)≤dm)) (by omega))
   clear h0
   go_wp2_with fail
   refine HJ.out _ ⟨rfl,?_⟩ (by rw [HL.out];rfl)
   rw [←H3.out,←H5.out,←H9.out]
   rfl
  by_cases h2:5<wh
  ·have HL:=hid_of (decide_eq_true (p:=E=0∧(wh<1∨5<wh∨dm<0∨(n:Int)≤dm)) (by omega))
   clear h0
   go_wp2_with fail
   refine HJ.out _ ⟨rfl,?_⟩ (by rw [HL.out];rfl)
   rw [←H3.out,←H5.out,←H9.out]
   rfl
  by_cases h3:dm<0
  ·have HL:=hid_of (decide_eq_true (p:=E=0∧(wh<1∨5<wh∨dm<0∨(n:Int)≤dm)) (by omega))
   clear h0
   go_wp2_with fail
   refine HJ.out _ ⟨rfl,?_⟩ (by rw [HL.out];rfl)
   rw [←H3.out,←H5.out,←H9.out]
   rfl
  by_cases h4:(n:Int)≤dm
  ·have HL:=hid_of (decide_eq_true (p:=E=0∧(wh<1∨5<wh∨dm<0∨(n:Int)≤dm)) (by omega))
   clear h0
   go_wp2_with fail
   refine HJ.out _ ⟨rfl,?_⟩ (by rw [HL.out];rfl)
   rw [←H3.out,←H5.out,←H9.out]
   rfl
  ·have HL:=hid_of (decide_eq_false (p:=E=0∧(wh<1∨5<wh∨dm<0∨(n:Int)≤dm)) (by omega))
   clear h0
   go_wp2_with fail
   refine HJ.out _ ⟨rfl,?_⟩ (by rw [HL.out];rfl)
   rw [←H3.out,←H5.out,←H9.out]
   rfl
 ·have h0b:(E == 0)=false:=by simpa using h0
  have HL:=hid_of (decide_eq_false (p:=E=0∧(wh<1∨5<wh∨dm<0∨(n:Int)≤dm)) (by omega))
  clear h0
  go_wp2_with fail
  refine HJ.out _ ⟨rfl,?_⟩ (by rw [HL.out];rfl)
  rw [←H3.out,←H5.out,←H9.out]
  rfl
theorem ctL3 (T:Array Value) (s:Nat→Value)  (w:World) (hF:ctF T s)   (J:Act→World→Prop) (Q:Exit→Act→World→Prop)
  (hJ:∀ T',ctF T' (upG s 9 (.int .i64 1))→J ⟨T',[]⟩ w):Code.wp Tryz.prog (ctC [1,1,0,1,2]) (Exit.then J Q) ⟨T,[]⟩ w:=by
 obtain ⟨xF,rfl⟩:=ct_open hF
 unfold ctL
 have HJ:=hid_of hJ
 clear hJ hF 
 conv=>arg 2;whnf
 go_wp2_with fail
 refine HJ.out _ ⟨rfl,?_⟩ 
 rfl
theorem ctL4 (T:Array Value) (s:Nat→Value) (E:Int) (w:World) (hF:ctF T s) (h9:s 9=.int .i64 E)  (J:Act→World→Prop) (Q:Exit→Act→World→Prop)
  (hJ:∀ T',ctF T' s→Act.eval ⟨T',[]⟩ (.tmp 57)=.bool (decide (E≠0))→J ⟨T',[]⟩ w):Code.wp Tryz.prog (ctC [1,1,1,0,0]) (Exit.then J Q) ⟨T,[]⟩ w:=by
 obtain ⟨xF,rfl⟩:=ct_open hF
 unfold ctL
 rw [h9]
 have HJ:=hid_of hJ
 have H9:=hid_of h9
 clear hJ hF h9
 conv=>arg 2;whnf
 by_cases h0:E=0
 ·have HL:=hid_of (decide_eq_false (p:=E≠0) (by omega))
  have h0b:(E == 0)=true:=by simpa using h0
  have h0c:(E != 0)=false:=by simpa using h0
  clear h0
  go_wp2_with fail
  refine HJ.out _ ⟨rfl,?_⟩ (by rw [HL.out];rfl)
  rw [←H9.out]
  rfl
 ·have HL:=hid_of (decide_eq_true (p:=E≠0) h0)
  have h0b:(E == 0)=false:=by simpa using h0
  have h0c:(E != 0)=true:=by simpa using h0
  clear h0
  go_wp2_with fail
  refine HJ.out _ ⟨rfl,?_⟩ (by rw [HL.out];rfl)
  rw [←H9.out]
  rfl
theorem ctR5 (T:Array Value) (s:Nat→Value) (q:Nat) (x:Value) (E:Int) (w:World) (hF:ctF T s) (h6:s 6=.pointer (some ⟨q,0,none⟩)) (h9:s 9=.int .i64 E) (hq:w.heap[q]?=some (.cells #[x] 24 (0,0))) (J Rt:Act→World→Prop)
  (hJ:∀ T',ctF T' (upG (upG s 7 (.slice none 0 0)) 8 (.int .i64 E))→Rt ⟨T',[]⟩ (w.setCell ⟨q,0,none⟩ (.slice none 0 0))):Code.wp Tryz.prog (ctC [1,1,1,0,1,2]) (Exit.then J (QR Rt)) ⟨T,[]⟩ w:=by
 obtain ⟨xF,rfl⟩:=ct_open hF
 unfold ctL
 rw [h6,h9]
 have HJ:=hid_of hJ
 have H6:=hid_of h6
 have H9:=hid_of h9
 clear hJ hF h6 h9
 have a1:w.cell? ⟨q,0,none⟩=some x:=(Lib.cell_of_heap hq 0).trans rfl
 have a2:w.frozen? ⟨q,0,none⟩=false:=Lib.frozen_of_heap hq 0
 have a3:=(Array.getElem?_eq_some_iff.1 hq).1
 clear hq
 conv=>arg 2;whnf
 go_wp2_with fail
 show Rt _ _
 refine HJ.out _ ⟨rfl,?_⟩ 
 rw [←H6.out,←H9.out]
 rfl
theorem ctR9 (T:Array Value) (s:Nat→Value) (q:Nat) (x:Value)  (w:World) (hF:ctF T s) (h6:s 6=.pointer (some ⟨q,0,none⟩)) (hq:w.heap[q]?=some (.cells #[x] 24 (0,0))) (J Rt:Act→World→Prop)
  (hJ:∀ T',ctF T' (upG (upG s 7 (.slice none 0 0)) 8 (.int .i64 1))→Rt ⟨T',[]⟩ (w.setCell ⟨q,0,none⟩ (.slice none 0 0))):Code.wp Tryz.prog (ctC [1,1,1,1,1,1,0,1,2]) (Exit.then J (QR Rt)) ⟨T,[]⟩ w:=by
 obtain ⟨xF,rfl⟩:=ct_open hF
 unfold ctL
 rw [h6]
 have HJ:=hid_of hJ
 have H6:=hid_of h6
 clear hJ hF h6
 have a1:w.cell? ⟨q,0,none⟩=some x:=(Lib.cell_of_heap hq 0).trans rfl
 have a2:w.frozen? ⟨q,0,none⟩=false:=Lib.frozen_of_heap hq 0
 have a3:=(Array.getElem?_eq_some_iff.1 hq).1
 clear hq
 conv=>arg 2;whnf
 go_wp2_with fail
 show Rt _ _
 refine HJ.out _ ⟨rfl,?_⟩ 
 rw [←H6.out]
 rfl
theorem ctL8 (T:Array Value) (s:Nat→Value) (p q m C:Nat) (A:Option Addr) (wh mb:Int) (w:World) (hF:ctF T s) (h5:s 5=.pointer (some ⟨(p+1),0,none⟩)) (h10:s 10=.pointer (some ⟨q,0,none⟩)) (c1:w.cell? ⟨p+1,0,none⟩=some (.int .i64 wh)) (c2:w.cell? ⟨p+1,2,none⟩=some (.int .i64 mb)) (c3:w.cell? ⟨q,2,none⟩=some (.slice A m C)) (J:Act→World→Prop) (Q:Exit→Act→World→Prop)
  (hJ:∀ T',ctF T' s→Act.eval ⟨T',[]⟩ (.tmp 101)=.bool (decide (wh≠1∧(mb<0∨(m:Int)≤mb)))→J ⟨T',[]⟩ w):Code.wp Tryz.prog (ctC [1,1,1,1,1,1,0,0]) (Exit.then J Q) ⟨T,[]⟩ w:=by
 obtain ⟨xF,rfl⟩:=ct_open hF
 unfold ctL
 rw [h5,h10]
 have HJ:=hid_of hJ
 have H5:=hid_of h5
 have H10:=hid_of h10
 clear hJ hF h5 h10
 conv=>arg 2;whnf
 by_cases h0:wh=1
 ·have h0b:(wh == 1)=true:=by simpa using h0
  have h0c:(wh != 1)=false:=by simpa using h0
  have HL:=hid_of (decide_eq_false (p:=wh≠1∧(mb<0∨(m:Int)≤mb)) (by omega))
  clear h0
  go_wp2_with fail
  refine HJ.out _ ⟨rfl,?_⟩ (by rw [HL.out];rfl)
  rw [←H5.out,←H10.out]
  rfl
 ·have h0b:(wh == 1)=false:=by simpa using h0
  have h0c:(wh != 1)=true:=by simpa using h0
  by_cases h1:mb<0
  ·have HL:=hid_of (decide_eq_true (p:=wh≠1∧(mb<0∨(m:Int)≤mb)) (by omega))
   clear h0
   go_wp2_with fail
   refine HJ.out _ ⟨rfl,?_⟩ (by rw [HL.out];rfl)
   rw [←H5.out,←H10.out]
   rfl
  by_cases h2:(m:Int)≤mb
  ·have HL:=hid_of (decide_eq_true (p:=wh≠1∧(mb<0∨(m:Int)≤mb)) (by omega))
   clear h0
   go_wp2_with fail
   refine HJ.out _ ⟨rfl,?_⟩ (by rw [HL.out];rfl)
   rw [←H5.out,←H10.out]
   rfl
  ·have HL:=hid_of (decide_eq_false (p:=wh≠1∧(mb<0∨(m:Int)≤mb)) (by omega))
   clear h0
   go_wp2_with fail
   refine HJ.out _ ⟨rfl,?_⟩ (by rw [HL.out];rfl)
   rw [←H5.out,←H10.out]
   rfl
theorem ctL10 (T:Array Value) (s:Nat→Value) (v:Value) (w:World) (hF:ctF T s) (h1:s 1=v)  (J:Act→World→Prop) (Q:Exit→Act→World→Prop)
  (hJ:∀ T',ctF T' (upG s 11 v)→J ⟨T',[]⟩ w):Code.wp Tryz.prog (ctC [1,1,1,1,1,1,1,0]) (Exit.then J Q) ⟨T,[]⟩ w:=by
 obtain ⟨xF,rfl⟩:=ct_open hF
 unfold ctL
 rw [h1]
 have HJ:=hid_of hJ
 have H1:=hid_of h1
 clear hJ hF h1
 conv=>arg 2;whnf
 go_wp2_with fail
 refine HJ.out _ ⟨rfl,?_⟩ 
 rw [←H1.out]
 rfl
theorem ctL11 (T:Array Value) (s:Nat→Value) (p:Nat) (mb:Int) (w:World) (hF:ctF T s) (h5:s 5=.pointer (some ⟨(p+1),0,none⟩)) (c2:w.cell? ⟨p+1,2,none⟩=some (.int .i64 mb)) (J:Act→World→Prop) (Q:Exit→Act→World→Prop)
  (hJ:∀ T',ctF T' (upG s 12 (.int .i64 mb))→J ⟨T',[]⟩ w):Code.wp Tryz.prog (ctC [1,1,1,1,1,1,1,1,0]) (Exit.then J Q) ⟨T,[]⟩ w:=by
 obtain ⟨xF,rfl⟩:=ct_open hF
 unfold ctL
 rw [h5]
 have HJ:=hid_of hJ
 have H5:=hid_of h5
 clear hJ hF h5
 conv=>arg 2;whnf
 go_wp2_with fail
 refine HJ.out _ ⟨rfl,?_⟩ 
 rw [←H5.out]
 rfl
theorem ctL12 (T:Array Value) (s:Nat→Value) (p:Nat) (wh:Int) (w:World) (hF:ctF T s) (h5:s 5=.pointer (some ⟨(p+1),0,none⟩)) (c1:w.cell? ⟨p+1,0,none⟩=some (.int .i64 wh)) (J:Act→World→Prop) (Q:Exit→Act→World→Prop)
  (hJ:∀ T',ctF T' s→Act.eval ⟨T',[]⟩ (.tmp 107)=.int .i64 wh→J ⟨T',[]⟩ w):Code.wp Tryz.prog (ctC [1,1,1,1,1,1,1,1,1,0,0]) (Exit.then J Q) ⟨T,[]⟩ w:=by
 obtain ⟨xF,rfl⟩:=ct_open hF
 unfold ctL
 rw [h5]
 have HJ:=hid_of hJ
 have H5:=hid_of h5
 clear hJ hF h5
 conv=>arg 2;whnf
 go_wp2_with fail
 refine HJ.out _ ⟨rfl,?_⟩ rfl
 rw [←H5.out]
 rfl
end Go.Proofs.YtfldgghobddgkaaGreatDoor
