/- tallylaw3.GridTells, s -/
import Derived.Lib.SliceRun
import Derived.Shelf.Spec.SlicesInsertGrow
import Derived.Laws.OwnMore
import Derived.Test.YthlhjjabkgpenaaGreatDoorJTAG
namespace Go.Proofs.YthlhjjabkgpenaaGreatDoor
open Go ChangeShapes WideShapes ChangeAt RowKit Lib Deep
set_option maxRecDepth 99999
set_option maxHeartbeats 0
def Hq:Nat→Code→Code
 | 0,c=>c
 | k+1,.seq _ b=>Hq k b
 | _,c=>c
def Lj:Code→Code
 | .seq a _=>a
 | c=>c
noncomputable def lp (k:Nat):Code:=Lj (Hq k (Tryz.f3.body.getD .skip))
def aP (T:Array Value) (s:Nat→Value):Prop:=T.size=426∧T.toList.take 45=(List.range 45).map s
def cJ (s:Nat→Value) (k:Nat) (v:Value):Nat→Value:=fun i=>if i=k then v else s i
def a7 (s x:Nat→Value):Array Value := #[s 0,s 1,s 2,s 3,s 4,s 5,s 6,s 7,s 8,s 9,s 10,s 11,s 12,s 13,s 14,s 15,s 16,s 17,s 18,s 19,s 20,s 21,s 22,s 23,s 24,s 25,s 26,s 27,s 28,s 29,s 30,s 31,s 32,s 33,s 34,s 35,s 36,s 37,s 38,s 39,s 40,s 41,s 42,s 43,s 44,x 45,x 46,x 47,x 48,x 49,x 50,x 51,x 52,x 53,x 54,x 55,x 56,x 57,x 58,x 59,x 60,x 61,x 62,x 63,x 64,x 65,x 66,x 67,x 68,x 69,x 70,x 71,x 72,x 73,x 74,x 75,x 76,x 77,x 78,x 79,x 80,x 81,x 82,x 83,x 84,x 85,x 86,x 87,x 88,x 89,x 90,x 91,x 92,x 93,x 94,x 95,x 96,x 97,x 98,x 99,x 100,x 101,x 102,x 103,x 104,x 105,x 106,x 107,x 108,x 109,x 110,x 111,x 112,x 113,x 114,x 115,x 116,x 117,x 118,x 119,x 120,x 121,x 122,x 123,x 124,x 125,x 126,x 127,x 128,x 129,x 130,x 131,x 132,x 133,x 134,x 135,x 136,x 137,x 138,x 139,x 140,x 141,x 142,x 143,x 144,x 145,x 146,x 147,x 148,x 149,x 150,x 151,x 152,x 153,x 154,x 155,x 156,x 157,x 158,x 159,x 160,x 161,x 162,x 163,x 164,x 165,x 166,x 167,x 168,x 169,x 170,x 171,x 172,x 173,x 174,x 175,x 176,x 177,x 178,x 179,x 180,x 181,x 182,x 183,x 184,x 185,x 186,x 187,x 188,x 189,x 190,x 191,x 192,x 193,x 194,x 195,x 196,x 197,x 198,x 199,x 200,x 201,x 202,x 203,x 204,x 205,x 206,x 207,x 208,x 209,x 210,x 211,x 212,x 213,x 214,x 215,x 216,x 217,x 218,x 219,x 220,x 221,x 222,x 223,x 224,x 225,x 226,x 227,x 228,x 229,x 230,x 231,x 232,x 233,x 234,x 235,x 236,x 237,x 238,x 239,x 240,x 241,x 242,x 243,x 244,x 245,x 246,x 247,x 248,x 249,x 250,x 251,x 252,x 253,x 254,x 255,x 256,x 257,x 258,x 259,x 260,x 261,x 262,x 263,x 264,x 265,x 266,x 267,x 268,x 269,x 270,x 271,x 272,x 273,x 274,x 275,x 276,x 277,x 278,x 279,x 280,x 281,x 282,x 283,x 284,x 285,x 286,x 287,x 288,x 289,x 290,x 291,x 292,x 293,x 294,x 295,x 296,x 297,x 298,x 299,x 300,x 301,x 302,x 303,x 304,x 305,x 306,x 307,x 308,x 309,x 310,x 311,x 312,x 313,x 314,x 315,x 316,x 317,x 318,x 319,x 320,x 321,x 322,x 323,x 324,x 325,x 326,x 327,x 328,x 329,x 330,x 331,x 332,x 333,x 334,x 335,x 336,x 337,x 338,x 339,x 340,x 341,x 342,x 343,x 344,x 345,x 346,x 347,x 348,x 349,x 350,x 351,x 352,x 353,x 354,x 355,x 356,x 357,x 358,x 359,x 360,x 361,x 362,x 363,x 364,x 365,x 366,x 367,x 368,x 369,x 370,x 371,x 372,x 373,x 374,x 375,x 376,x 377,x 378,x 379,x 380,x 381,x 382,x 383,x 384,x 385,x 386,x 387,x 388,x 389,x 390,x 391,x 392,x 393,x 394,x 395,x 396,x 397,x 398,x 399,x 400,x 401,x 402,x 403,x 404,x 405,x 406,x 407,x 408,x 409,x 410,x 411,x 412,x 413,x 414,x 415,x 416,x 417,x 418,x 419,x 420,x 421,x 422,x 423,x 424,x 425]
theorem am {T:Array Value} {s:Nat→Value} (h:aP T s):∃ x,T=a7 s x:=by
 obtain ⟨a,b⟩:=h;refine ⟨fun i=>T.getD i (.bool false),?_⟩
 have d:a7 s (fun i=>T.getD i (.bool false))=((List.range 45).map s ++ ((List.range 381).map fun i=>T.getD (i+45) (.bool false))).toArray:=rfl
 rw [d,←b];have e:((List.range 381).map fun i=>T.getD (i+45) (.bool false))=T.toList.drop 45:=by
  refine List.ext_getElem (by simp [a]) fun i g c=>?_
  have f:45+i<T.size:=by simp at c;omega
  simp [Array.getD,Nat.add_comm i 45,f]
 rw [e,List.take_append_drop]
noncomputable def IJ (k:Nat):Code:=Hq k (Tryz.f3.body.getD .skip)
theorem bB {k:Nat} {Q:Exit→Act→World→Prop} {a:Act} {w:World} (e:IJ k=.seq (lp k) (IJ (k+1))) (h:∀ J:Act→World→Prop,(∀ a w,Code.wp Tryz.prog (IJ (k+1)) Q a w→J a w)→Code.wp Tryz.prog (lp k) (Exit.then J Q) a w):Code.wp Tryz.prog (IJ k) Q a w:=by
 rw [e];exact wp_seq_k h
def noC:Int×Int:=(0,0)
def bw:List (Int×Int)→List Value
 | []=>[]
 | c :: r=>.int .i64 c.1 :: .int .i64 c.2 :: bw r
theorem cellsC_append (a b:List (Int×Int)):bw (a ++ b)=bw a ++ bw b:=by
 induction a with
 | nil=>rfl
 | cons x r ih=>simp [bw,ih]
theorem vh (L:List (Int×Int)):∀ v∈bw L,v.oneCell'=true:=by
 induction L with
 | nil=>intro v a;cases a
 | cons x r ih =>
  intro v a;simp only [bw,List.mem_cons] at a
  rcases a with rfl | rfl | a
  ·rfl
  ·rfl
  exact ih v a
theorem zC (L:List (Int×Int)):∀ k,k<L.length→(bw L)[k*2]?=some (.int .i64 (L.getD k noC).1)∧(bw L)[k*2+1]?=some (.int .i64 (L.getD k noC).2):=by
 induction L with
 | nil=>intro k a;cases a
 | cons x r ih =>
  intro k a;cases k with
  | zero=>simp [bw]
  | succ k =>
   rw [show (k+1)*2=k*2+1+1 by omega]
   simp only [bw,List.getElem?_cons_succ,List.getD_cons_succ];exact ih k (by simpa using a)
def sv (w:World) (b o:Nat) (L:List (Int×Int)):Prop:=b<w.heap.size∧∀ k,k<L.length→w.cell? ⟨b,o+k*2,none⟩=some (.int .i64 (L.getD k noC).1)∧w.cell? ⟨b,o+k*2+1,none⟩=some (.int .i64 (L.getD k noC).2)
theorem sv.later {w w':World} {b o:Nat} {L:List (Int×Int)} (h:sv w b o L) (a:Bl w w'):sv w' b o L :=
 ⟨zW h.1 a.size,fun k c=>⟨(a.cell (p:=⟨b,o+k*2,none⟩) h.1).trans (h.2 k c).1,(a.cell (p:=⟨b,o+k*2+1,none⟩) h.1).trans (h.2 k c).2⟩⟩
def dt (w:World) (A:Option Addr) (cap:Nat) (L:List (Int×Int)):Prop:=L.length≤cap∧cap≤9223372036854775807∧(L=[]∨∃ b o,A=some ⟨b,o,none⟩∧sv w b o L)
theorem dt.later {w w':World} {A:Option Addr} {cap:Nat} {L:List (Int×Int)} (h:dt w A cap L) (f:Bl w w'):dt w' A cap L:=by
 obtain ⟨d,c,a | ⟨b,o,a,e⟩⟩:=h
 ·exact ⟨d,c,Or.inl a⟩
 exact ⟨d,c,Or.inr ⟨b,o,a,e.later f⟩⟩
theorem dt.nil (w:World) (A:Option Addr) (cap:Nat) (h:cap≤9223372036854775807):dt w A cap []:=⟨zU,h,Or.inl rfl⟩
def da (w:World) (g:Nat) (L:List (Int×Int)):Prop := ∃ cur:Array Value,w.heap[g]?=some (.cells cur 40 (0,0))∧∀ k,k<L.length→cur[k*2]?=some (.int .i64 (L.getD k noC).1)∧cur[k*2+1]?=some (.int .i64 (L.getD k noC).2)
section
variable {w w':World} {g:Nat} {L:List (Int×Int)}
theorem da.lt (h:da w g L):g<w.heap.size:=by
 obtain ⟨a,b,_⟩:=h;exact (zY b).1
theorem da.same (h:da w g L) (d:w'.heap[g]?=w.heap[g]?):da w' g L:=by
 obtain ⟨a,b,c⟩:=h;exact ⟨a,d.trans b,c⟩
theorem da.later (h:da w g L) (a:Bl w w'):da w' g L:=h.same (a.block g h.lt)
theorem da.at (h:da w g L) {k:Nat} (f:k<L.length):w.cell? ⟨g,k*2,none⟩=some (.int .i64 (L.getD k noC).1)∧w.cell? ⟨g,k*2+1,none⟩=some (.int .i64 (L.getD k noC).2):=by
 obtain ⟨b,a,c⟩:=h;obtain ⟨d,e⟩:=c k f;exact ⟨by simp [World.cell?,a,d],by simp [World.cell?,a,e]⟩
theorem da.frozen (h:da w g L) (j:Nat):w.frozen? ⟨g,j,none⟩=false:=by
 obtain ⟨a,b,_⟩:=h;exact Lib.frozen_of_heap b j
theorem da.celAt (h:da w g L):sv w g 0 L:=⟨h.lt,fun k a=>by rw [Nat.zero_add];exact h.at a⟩
theorem da.set (h:da w g L) {x:Nat} (p:x<L.length) (a b:Int):da ((w.setCell ⟨g,x*2,none⟩ (.int .i64 a)).setCell ⟨g,x*2+1,none⟩ (.int .i64 b)) g (L.set x (a,b)):=by
 obtain ⟨d,j,f⟩:=h;refine ⟨(d.setIfInBounds (x*2) (.int .i64 a)).setIfInBounds (x*2+1) (.int .i64 b),by simp [World.setCell,Array.getElem?_modify,j],fun k c=>?_⟩
 rw [List.length_set] at c;obtain ⟨l,m⟩:=f k c;obtain ⟨n,o⟩:=f x p;have q:=(zY n).1;have r:=(zY o).1
 by_cases e:k=x
 ·subst e
  constructor
  ·rw [Array.getElem?_setIfInBounds_ne (by omega),Array.getElem?_setIfInBounds_self_of_lt q]
   simp [List.getD,c]
  rw [Array.getElem?_setIfInBounds_self_of_lt (by simpa using r)]
  simp [List.getD,c]
 have i:(L.set x (a,b)).getD k noC=L.getD k noC:=by simp [List.getD,List.getElem?_set_ne (fun h=>e h.symm)]
 rw [i]
 constructor
 ·rw [Array.getElem?_setIfInBounds_ne (by omega),Array.getElem?_setIfInBounds_ne (by omega)];exact l
 rw [Array.getElem?_setIfInBounds_ne (by omega),Array.getElem?_setIfInBounds_ne (by omega)];exact m
theorem sN {base:Nat} {v:Value} (h:w.ownsRow base 40 2 v L.length (bw L)) (p:0<L.length):∃ g c,v=.slice (some ⟨g,0,none⟩) L.length c∧base≤g∧L.length≤c∧c≤9223372036854775807∧da w g L:=by
 rcases h.2 with ⟨_,n⟩ | ⟨g,cap,a,rfl,j,l,e,f,o,i⟩
 ·omega
 refine ⟨g,cap,rfl,j,e,by unfold maxLen at f;omega,a,l,fun k m=>?_⟩
 obtain ⟨b,d⟩:=zC L k m;rw [←i,List.getElem?_take,if_pos (by omega),Array.getElem?_toList] at b d
 exact ⟨b,d⟩
end
theorem Tryz.infoCe:(Tryz.prog.info? 40).map (fun i=>(i.zero,i.size,i.bytes))=some (some (.agg #[.int .i64 0,.int .i64 0]),2,16):=by kernel_rfl
def fV (L:List (Int×Int)) (k:Nat):Bool := !(good (L.getD k noC).1 (L.getD k noC).2)
def sA (xs:List EnL) (p:List Int):Prop:=(∀ k,k<xs.length→(xs.getD k noL).e.pl.length≤4)∧p.length≤4
def iN (w:World) (A:Option Addr) (m c:Nat) (N:Int) (T:Nat):World:=w.alloc (.cells #[.slice A m c,.int .i64 N] T)
theorem oA (w:World) (A:Option Addr) (m c:Nat) (N:Int) (T:Nat):(iN w A m c N T).heap.size=w.heap.size+1:=by unfold iN;simp
theorem ma (w:World) (A:Option Addr) (m c:Nat) (N:Int) (T:Nat):Bl w (iN w A m c N T):=by unfold iN;go_grown
theorem Gz (w:World) (A:Option Addr) (m c:Nat) (N:Int) (T:Nat):(iN w A m c N T).cell? ⟨w.heap.size,0,none⟩=some (.slice A m c):=by unfold iN;simp
theorem GA (w:World) (A:Option Addr) (m c:Nat) (N:Int) (T:Nat):(iN w A m c N T).cell? ⟨w.heap.size,1,none⟩=some (.int .i64 N):=by unfold iN;simp
def oC (w:World) (A0:Option Addr) (n cap:Nat) (A:Option Addr) (m c:Nat) (N:Int):World:=iN (aD w A0 n cap 24) A m c N 93
theorem wN (w:World) (A0:Option Addr) (n cap:Nat) (A:Option Addr) (m c:Nat) (N:Int):(oC w A0 n cap A m c N).heap.size=w.heap.size+2:=by unfold oC;rw [oA,aF]
theorem uo (w:World) (A0:Option Addr) (n cap:Nat) (A:Option Addr) (m c:Nat) (N:Int):Bl w (oC w A0 n cap A m c N):=ae (aA ..) (ma ..)
theorem GB (w:World) (A0:Option Addr) (n cap:Nat) (A:Option Addr) (m c:Nat) (N:Int):(oC w A0 n cap A m c N).cell? ⟨w.heap.size+1,1,none⟩=some (.int .i64 N):=by
 have h:=GA (aD w A0 n cap 24) A m c N 93;rw [aF] at h;exact h
theorem ts (A0:Option Addr) (cap n:Nat) (D:Nat→Dm) (A:Nat→Option Addr) (C:Nat→Nat) (Ae:Option Addr) (k:Nat) (e:En) (w:World) (t:(ah D n).2.2=0) (u:bd w A0 cap n D A C) (v:aO w Ae k e.pl) :
  Rt 121 #[.agg #[.slice A0 n cap],.agg #[.slice Ae e.pl.length k,.int .i64 e.n]] w (errV (entOne D n e)):=by
 have j:=uo w A0 n cap Ae e.pl.length k e.n;have h:=BA A0 cap n D A C Ae k e.pl (oC w A0 n cap Ae e.pl.length k e.n) (u.later j) (v.later j);have b:=aa j;have f:Hid (w.heap.size+1<(oC w A0 n cap Ae e.pl.length k e.n).heap.size):=by show _<_;rw [wN];omega
 have d:Hid ((oC w A0 n cap Ae e.pl.length k e.n).cell? ⟨w.heap.size+1,1,none⟩=some (.int .i64 e.n)):=GB ..;clear u v j
 by_cases i:placeErr D n e.pl=0
 ·by_cases q:leafV D n e.pl=true
  ·have p:=Gt t i q
   rw [i,q,errV_zero] at h;clear i q
   by_cases o:e.n < -1000000
   ·have g:Hid (errV (entOne D n e)=.iface 68 (.int .i64 1)):=by
     show _=_
     rw [p,if_pos (by simp [fk];omega)];rfl
    generalize e.pl.length=m at h b f d;generalize e.n=N at h b f d o;clear p
    go_enter Tryz.func121,Tryz.ntmps121
    go_wp2_with fail;refine h.mono ?_;rintro r w1 ⟨rfl,a⟩;have c1:=aL a f.out d.out;have c:=aa (ae b.out a);clear a;go_wp2_with fail;go_ret;rw [g.out];exact ⟨rfl,c.out⟩
   by_cases s:1000000<e.n
   ·have g:Hid (errV (entOne D n e)=.iface 68 (.int .i64 1)):=by
     show _=_
     rw [p,if_pos (by simp [fk];omega)];rfl
    generalize e.pl.length=m at h b f d;generalize e.n=N at h b f d o s;clear p
    go_enter Tryz.func121,Tryz.ntmps121
    go_wp2_with fail;refine h.mono ?_;rintro r w1 ⟨rfl,a⟩;have c1:=aL a f.out d.out;have c:=aa (ae b.out a);clear a;go_wp2_with fail;go_ret;rw [g.out];exact ⟨rfl,c.out⟩
   have g:Hid (errV (entOne D n e)=.nilIface):=by
    show _=_
    rw [p,if_neg (by simp [fk];omega)];rfl
   generalize e.pl.length=m at h b f d;generalize e.n=N at h b f d o s;clear p
   go_enter Tryz.func121,Tryz.ntmps121
   go_wp2_with fail;refine h.mono ?_;rintro r w1 ⟨rfl,a⟩;have c1:=aL a f.out d.out;have c:=aa (ae b.out a);clear a;go_wp2_with fail;go_ret;rw [g.out];exact ⟨rfl,c.out⟩
  have l:leafV D n e.pl=false:=by simpa using q
  have g:Hid (errV (entOne D n e)=.iface 68 (.int .i64 6)):=by show _=_;rw [Eu t i l];rfl
  rw [i,l,errV_zero] at h;generalize e.pl.length=m at h b;generalize e.n=N at h b;clear i q l f d
  go_enter Tryz.func121,Tryz.ntmps121
  go_wp2_with fail;refine h.mono ?_;rintro r w1 ⟨rfl,a⟩;have c:=aa (ae b.out a);clear a;go_wp2_with fail;go_ret;rw [g.out];exact ⟨rfl,c.out⟩
 have g:Hid (errV (entOne D n e)=.iface 68 (.int .i64 (placeErr D n e.pl))):=by show _=_;rw [Bo t i,aj i]
 rw [aj i] at h;generalize placeErr D n e.pl=E at h g;generalize leafV D n e.pl=lf at h;generalize e.pl.length=m at h b;generalize e.n=N at h b;clear i f d
 go_enter Tryz.func121,Tryz.ntmps121
 go_wp2_with fail;refine h.mono ?_;rintro r w1 ⟨rfl,a⟩;have c:=aa (ae b.out a);clear a;go_wp2_with fail;go_ret;rw [g.out];exact ⟨rfl,c.out⟩
theorem ji {D:Nat→Dm} {n:Nat} {L:List Int} (h:InO D n L):L.length≤4:=by rw [h.len];exact (aw h.right).2.1
theorem Kf {W w':World} {b b' o1 o2 o3:Nat} {u v z:Value} (h:b<W.heap.size∧b'<W.heap.size∧W.cell? ⟨b,o1,none⟩=some u∧W.cell? ⟨b,o2,none⟩=some v∧W.cell? ⟨b',o3,none⟩=some z) (a:Bl W w'):Bl W w'∧w'.cell? ⟨b,o1,none⟩=some u∧w'.cell? ⟨b,o2,none⟩=some v∧w'.cell? ⟨b',o3,none⟩=some z :=
 ⟨a,aL a h.1 h.2.2.1,aL a h.1 h.2.2.2.1,aL a h.2.1 h.2.2.2.2⟩
theorem nM (A0:Option Addr) (cap n:Nat) (D:Nat→Dm) (A:Nat→Option Addr) (C:Nat→Nat) (AE:Option Addr) (ce:Nat) (a:List EnL) (w:World) (hM:bd w A0 cap n D A C) (hE:ii w AE ce a) :
  Rt 93 #[.agg #[.slice A0 n cap],.slice AE a.length ce] w (errV (entsErr D n (lE a))):=by
 have S:=aA w A0 n cap 24;have h:=mx A0 cap n D A C (aD w A0 n cap 24) (hM.later S);have O:=aa S;have HM:=aa hM;have HE:=aa hE;generalize (ah D n).1=x1 at h;generalize (ah D n).2.1=x2 at h;clear hM S
 by_cases L:(ah D n).2.2=0
 ·have HR:=aa L
  have W:Hid (entsErr D n (lE a)=aV D n (qOf (lE a) 0) ((lE a).drop 0)):=yF _ L;rw [L,errV_zero] at h;obtain ⟨N,hN⟩:=ax a.length;have HN:=aa hN;have hNb:(N:Int)≤9223372036854775807:=by have h1:=hE.1;have h2:=hE.2.1;omega
  rw [hN];clear L hN hE
  go_enter Tryz.func93,Tryz.ntmps93
  go_wp2_with fail;refine h.mono ?_;rintro e w1 ⟨rfl,u⟩;have hB:Bl w w1:=ae O.out u;have hz:w.heap.size<w1.heap.size:=by have:=u.size;rw [aF] at this;omega
  have h2:w1.cell? ⟨w.heap.size,0,none⟩=some (.slice A0 n cap):=aL u (by show w.heap.size<_;rw [aF];omega) (aR ..)
  have HM1:=aa (HM.out.later hB);have HE1:=aa (HE.out.later hB);have HB:=aa hB;clear u h hB HM HE O;go_wp2_with fail
  go_loopg [22] N (fun g s22 wr => ∃ (k:Nat),k≤N∧g=N-k∧s22=.int .i64 k∧Hid (aV D n (qOf (lE a) k) ((lE a).drop k)=aV D n (qOf (lE a) 0) ((lE a).drop 0))∧Hid (∀ j,j<k→entOne D n ((lE a).getD j noEn)=0)∧Bl w1 wr)
  case atStart=>exact ⟨0,zU,rfl,rfl,(rfl:aV D n (qOf (lE a) 0) ((lE a).drop 0)=aV D n (qOf (lE a) 0) ((lE a).drop 0)),fun j X=>absurd X (Nat.not_lt_zero _),zS⟩
  case round =>
   obtain ⟨k,hk,rfl,rfl,HF,HO,p⟩:=hrel;have x:=aa p
   by_cases hlt:k<N
   ·have v:k<a.length:=by rw [HN.out];exact hlt
    have hki:(k:Int)<(N:Int):=by omega
    have hk1:(k:Int)+1≤9223372036854775807:=by omega
    obtain ⟨-,-,h0 | ⟨b,o,rfl,J⟩⟩:=HE1.out.later p
    ·have:=HN.out;rw [h0] at this;simp at this;omega
    obtain ⟨c1,c2⟩:=J.at v;have U:=J.pl v;have c0:wr.cell? ⟨w.heap.size,0,none⟩=some (.slice A0 n cap):=aL p hz h2;have hzr:w.heap.size<wr.heap.size:=zW hz p.size;have I:=ma wr (a.getD k noL).A (a.getD k noL).e.pl.length (a.getD k noL).c (a.getD k noL).e.n 93;have d:=ts A0 cap n D A C (a.getD k noL).A (a.getD k noL).c (a.getD k noL).e (iN wr (a.getD k noL).A (a.getD k noL).e.pl.length (a.getD k noL).c (a.getD k noL).e.n 93) HR.out ((HM1.out.later p).later I) (U.later I);have f:=aa I;have Q:=aa J;have G:=aa U;have s:Hid ((iN wr (a.getD k noL).A (a.getD k noL).e.pl.length (a.getD k noL).c (a.getD k noL).e.n 93).cell? ⟨wr.heap.size,0,none⟩=some (.slice (a.getD k noL).A (a.getD k noL).e.pl.length (a.getD k noL).c)):=Gz ..;have r:Hid (wr.heap.size<(iN wr (a.getD k noL).A (a.getD k noL).e.pl.length (a.getD k noL).c (a.getD k noL).e.n 93).heap.size):=by show _<_;rw [oA];omega
    clear p J U I
    by_cases M:entOne D n (a.getD k noL).e=0
    ·have hKO:=eE HR.out M
     have y:Hid (entOne D n ((lE a).getD k noEn)=0):=by show _=_;rw [lE_at];exact M
     have R:Hid ((a.getD k noL).e.pl.length≤4):=ji hKO.1;rw [M,errV_zero] at d;clear M hKO
     rcases Nat.eq_zero_or_pos k with hk0 | hk0
     ·subst hk0
      have HQ:Hid (aheadOk (qOf (lE a) 0) ((lE a).getD 0 noEn).pl=true):=rfl;have z:Hid (aV D n (qOf (lE a) 0) ((lE a).drop 0)=aV D n (qOf (lE a) (0+1)) ((lE a).drop (0+1))):=vE (by rw [dF];exact v) y.out HQ.out
      generalize (a.getD 0 noL).A=A1 at c1 d f s r;generalize (a.getD 0 noL).c=k1 at c1 d f s r;generalize (a.getD 0 noL).e.n=n1 at c2 d f s r;generalize (a.getD 0 noL).e.pl.length=m1 at c1 d f s r;simp only [Nat.zero_mul,Nat.add_zero] at c1 c2;clear G R;go_wp2_with fail;refine d.mono ?_;rintro e w2 ⟨rfl,l⟩;have m:=aa (ae f.out l);clear l;go_wp2_with fail
      go_quiet (fail)
      go_wp2_with fail
      go_roundg (N-(0+1))
      case measure=>omega
      case rel =>
       refine ⟨0+1,by omega,rfl,by go_num,z.out.symm,fun j X=>?_,ac (ae x.out m.out) _⟩
       have:j=0:=by omega
       subst this;exact y.out
     obtain ⟨j,X⟩:∃ j,k=j+1:=⟨k-1,by omega⟩
     have hjx:j<a.length:=by omega
     obtain ⟨d1,d2⟩:=Q.out.at hjx;have T:=eE HR.out (HO.out j (by omega))
     rw [lE_at] at T;have F:Hid (∀ w',Bl wr w'→Rt 122 #[.agg #[.slice (a.getD j noL).A (a.getD j noL).e.pl.length (a.getD j noL).c,.int .i64 (a.getD j noL).e.n],.slice (a.getD k noL).A (a.getD k noL).e.pl.length (a.getD k noL).c] w' (.int .i64 (cmpL (a.getD j noL).e.pl (a.getD k noL).e.pl))):=fun w' hw'=>Bt _ _ _ _ _ _ _ w' (ji T.1) R.out ((Q.out.pl hjx).later hw') (G.out.later hw')
     have P:Hid (decide (0≤cmpL (a.getD j noL).e.pl (a.getD k noL).e.pl) = !lessL (a.getD j noL).e.pl (a.getD k noL).e.pl):=sU (a.getD j noL).e.pl (a.getD k noL).e.pl;have HQ:Hid (aheadOk (qOf (lE a) k) ((lE a).getD k noEn).pl=lessL (a.getD j noL).e.pl (a.getD k noL).e.pl):=by show _=_;rw [←lE_at,←lE_at,X];rfl
     have hwr:IntKind.i64.wrap ((k:Int)-1)=(j:Int):=by rw [IntKind.wrap_i64];omega
     have hj0:(0:Int)<(k:Int):=by omega
     have HKJ:=aa X;have hjN:(j:Int)<(N:Int):=by omega
     generalize (a.getD k noL).A=A1 at c1 d f s r F;generalize (a.getD k noL).c=k1 at c1 d f s r F;generalize (a.getD k noL).e.n=n1 at c2 d f s r;generalize (a.getD k noL).e.pl.length=m1 at c1 d f s r F;generalize (a.getD j noL).A=A2 at d1 F;generalize (a.getD j noL).c=k2 at d1 F;generalize (a.getD j noL).e.n=n2 at d2 F;generalize (a.getD j noL).e.pl.length=m2 at d1 F;generalize cmpL (a.getD j noL).e.pl (a.getD k noL).e.pl=cc at F P;have K:=Q.out.1;clear G R T X;go_wp2_with fail;refine d.mono ?_;rintro e w2 ⟨rfl,l⟩;have H:Bl wr w2:=ae f.out l;have m:=aa H;have e1:w2.cell? ⟨b,o+j*2,none⟩=some (.slice A2 m2 k2):=aL H K d1;have e2:w2.cell? ⟨b,o+j*2+1,none⟩=some (.int .i64 n2):=aL H K d2;have e3:w2.cell? ⟨wr.heap.size,0,none⟩=some (.slice A1 m1 k1):=aL l r.out s.out;have hz2:wr.heap.size<w2.heap.size:=zW r.out l.size;clear l H c1 c2 d1 d2;have Z:Hid (b<w2.heap.size∧wr.heap.size<w2.heap.size∧w2.cell? ⟨b,o+j*2,none⟩=some (.slice A2 m2 k2)∧w2.cell? ⟨b,o+j*2+1,none⟩=some (.int .i64 n2)∧w2.cell? ⟨wr.heap.size,0,none⟩=some (.slice A1 m1 k1)):=⟨zW K m.out.size,hz2,e1,e2,e3⟩;go_wp2_with fail
     go_cut [45] (fun s45 wx=>s45=.bool (decide (0≤cc))∧Bl w2 wx)
     case first =>
      go_region_held3 (fun w'=>Bl w2 w'∧w'.cell? ⟨b,o+j*2,none⟩=some (.slice A2 m2 k2)∧w'.cell? ⟨b,o+j*2+1,none⟩=some (.int .i64 n2)∧w'.cell? ⟨wr.heap.size,0,none⟩=some (.slice A1 m1 k1))
       ((refine Kf Z.out ?_;go_grown;done))
       (first | (go_at_call 122;refine (F.out _ (ae m.out (by go_grown))).mono ?_;rintro e w3 ⟨rfl,B⟩;have hN3:=ae (W0:=w2) (by go_grown) B;have hy3:=hN3.size;clear B))
      all_goals go_wp2_with fail
      all_goals go_meet
      all_goals exact ⟨rfl,by go_grown⟩
     case rest =>
      obtain ⟨rfl,B⟩:=hcut;have Y:=aa B;clear B e1 e2 e3 Z F hz2 hwr hjN;obtain ⟨tC,V⟩:∃ t,decide (0≤cc)=t:=⟨_,rfl⟩;rw [V];have Lt:=aa V;clear V hk0 hj0 K hzr c0;cases tC
      case true =>
       have z:Hid (errV (entsErr D n (lE a))=.iface 68 (.int .i64 7)):=by
        show _=_
        have h3:=P.out;rw [Lt.out] at h3;rw [W.out,←HF.out,qc (by rw [dF];exact v) y.out (by rw [HQ.out];simpa using h3)];rfl
       go_wp2_with fail;go_ret;rw [z.out];exact ⟨rfl,ae HB.out (ae x.out (ae m.out Y.out))⟩
      case false =>
       have z:Hid (aV D n (qOf (lE a) k) ((lE a).drop k)=aV D n (qOf (lE a) (k+1)) ((lE a).drop (k+1))):=by
        show _=_
        have h3:=P.out;rw [Lt.out] at h3;exact vE (by rw [dF];exact v) y.out (by rw [HQ.out];simpa using h3)
       go_wp2_with fail
       go_roundg (N-(k+1))
       case measure=>omega
       case rel =>
        refine ⟨k+1,by omega,rfl,by go_num,z.out.symm.trans HF.out,fun i hi=>?_,ae x.out (ae m.out Y.out)⟩
        rcases Nat.lt_succ_iff_lt_or_eq.1 hi with h1 | rfl
        ·exact HO.out i h1
        exact y.out
    have q:Hid (errV (entsErr D n (lE a))=.iface 68 (.int .i64 (entOne D n (a.getD k noL).e))):=by
     show _=_
     rw [W.out,←HF.out,yD (by rw [dF];exact v) (by rw [lE_at];exact M),lE_at,aj M]
    rw [aj M] at d;generalize entOne D n (a.getD k noL).e=E at d q;generalize (a.getD k noL).A=A1 at c1 d f s r;generalize (a.getD k noL).c=k1 at c1 d f s r;generalize (a.getD k noL).e.n=n1 at c2 d f s r;generalize (a.getD k noL).e.pl.length=m1 at c1 d f s r;clear G M;go_wp2_with fail;refine d.mono ?_;rintro e w2 ⟨rfl,l⟩;have m:=aa (ae f.out l);clear l;go_wp2_with fail;go_ret;rw [q.out];exact ⟨rfl,ae HB.out (ae x.out m.out)⟩
   have hke:k=N:=by omega
   subst hke;have q:Hid (errV (entsErr D n (lE a))=.nilIface):=by show _=_;rw [W.out,←HF.out,yE (by rw [dF,HN.out];exact zT)];rfl
   clear p;go_wp2_with fail;go_ret;rw [q.out];exact ⟨rfl,ae HB.out x.out⟩
 have W:Hid (errV (entsErr D n (lE a))=.iface 68 (.int .i64 (ah D n).2.2)):=by show _=_;rw [te _ L,aj L]
 rw [aj L] at h;generalize (ah D n).2.2=E at h W;generalize a.length=N;clear L hE HM HE
 go_enter Tryz.func93,Tryz.ntmps93
 go_wp2_with fail;refine h.mono ?_;rintro e w1 ⟨rfl,u⟩;go_wp2_with fail;go_ret;rw [W.out];exact ⟨rfl,ae O.out u⟩
theorem GP {l:List En} {p:List Int} (h:hasE l p=true) (n:Int):Kt l p n=l.set (cntE l p) ⟨(l.getD (cntE l p) noEn).pl,n⟩∧cntE l p<l.length∧(l.getD (cntE l p) noEn).pl=p:=by
 have c:cntE l p<l.length:=by
  rcases Nat.lt_or_ge (cntE l p) l.length with h1 | h1
  ·exact h1
  rw [(ry rfl h1).1] at h;cases h
 have a:=F4 rfl c;rw [h] at a;have d:(l.getD (cntE l p) noEn).pl=p:=by
  rcases cmpL_three (l.getD (cntE l p) noEn).pl p with ⟨b,_⟩ | ⟨_,_,e⟩ | ⟨b,_⟩
  ·rw [b] at a;cases a
  ·exact e
  rw [b] at a;cases a
 refine ⟨?_,c,d⟩;unfold Kt;rw [h,d,if_pos rfl,List.set_eq_take_append_cons_drop,if_pos c]
theorem zG (A:Option Addr) (c:Nat) (L:List Int) (w:World) (z:L.length≤4) (q:aO w A c L):Calls Tryz.prog 28 #[.slice A L.length c] w fun e w'=>(∃ v,e=.returned v∧w'.ownsRow w.heap.size 3 1 v L.length (L.map (Value.int .i64)))∧Bl w w':=by
 have J:∀ (w:World) (a:Option Addr) (n c n' p:Nat),(binOp .eql 27 (.slice a n c) (.slice none n' p)).run Tryz.prog w=.ok (.bool a.isNone) w:=fun w a n c n' p=>Lib.run_eql_slice_nil w _ _ a n c n' p Tryz.underlying27
 cases A with
 | none =>
  obtain ⟨-,g | ⟨b,o,g,-⟩⟩:=q
  ·subst g
   simp only [List.length_nil]
   go_enter Tryz.func28,Tryz.ntmps28
   go_wp2_with fail;go_ret;exact ⟨⟨_,rfl,World.ownsRow_nil _ _ _ _⟩,zS⟩
  cases g
 | some a =>
  obtain ⟨i0,r,s,t,y⟩:=info_parts Tryz.infoIntP;have D:Hid (∀ j u,(L.map (Value.int .i64))[j]?=some u→w.cell? (a.add j)=some u):=by
   intro j u l;obtain ⟨-,g | ⟨b,o,g,-,h⟩⟩:=q
   ·subst g;simp at l
   cases g;have i:j<L.length:=by have:=(List.getElem?_eq_some_iff.1 l).1;simpa using this
   rw [bS,h j i];simp only [List.getElem?_map,zX i,Option.map_some,Option.some.injEq] at l;rw [←l,zZ,zX i]
   rfl
  have H:(L.map (Value.int .i64)).length=L.length*1:=by simp
  have F:∀ u∈L.map (Value.int .i64),u.oneCell'=true:=by intro u B;simp at B;obtain ⟨x,-,rfl⟩:=B;rfl
  have I:L.length≤4:=z;clear q z
  go_enter Tryz.func28,Tryz.ntmps28
  go_wp2_with (at_builtin;refine wpList_append_own _ rfl _ _ 27 rfl w.heap.size 3 i0 (.int .i64 0) 1 8 Tryz.underlying27 r s t y rfl (by decide) _ _ _ rfl (World.ownsRow_made w #[] 0 (zT) (zU) (by simp)) a L.length c (L.map (Value.int .i64)) rfl ?qc1 ?qc2 ?qc3 ?qc4 ?qc5 ?qc6 ?_)
  case qc1=>exact H
  case qc2=>exact fun j u l=>Lib.cell?_alloc_some _ (D.out j u l)
  case qc3=>exact F
  case qc4=>simp only [maxLen];omega
  case qc5=>omega
  case qc6=>simp
  intro v' w1 f d m;have E:=aa f;have C:Hid (Bl w w1):=((Below.refl _ w).alloc (zT) _).grown d (by simp) (by intro k G;simp [Value.ownBlock] at G;omega)
  clear f d m;go_wp2_with fail;go_ret;exact ⟨⟨_,rfl,E.out⟩,C.out⟩
theorem qG (b o n cap:Nat) (D:Nat→Dm) (A:Nat→Option Addr) (C:Nat→Nat) (w:World) (J:n≤4) (q:∀ j,j<n→(D j).n≤12) (m:eR w b o n D A C):Rt 51 #[.agg #[.slice (some ⟨b,o,none⟩) n cap]] w (.int .i64 (prodN D n)):=by
 have s:=aa m;have t:=aa q;clear m q;have p:=aF w (some ⟨b,o,none⟩) n cap 24;have c:=aA w (some ⟨b,o,none⟩) n cap 24;have a:=aR w (some ⟨b,o,none⟩) n cap 24;obtain ⟨W,f⟩:∃ W,W=aD w (some ⟨b,o,none⟩) n cap 24:=⟨_,rfl⟩;rw [←f] at c p a;have v:=aa f;have r:=aa a;have d:=aa c;have B:(n:Int)≤4:=by omega
 clear f a c p
 go_enter Tryz.func51,Tryz.ntmps51
 go_wp2_with fail
 go_loopg [3,4] n (fun g s3 s4 wr => ∃ (k:Nat),k≤n∧g=n-k∧s4=.int .i64 k∧s3=.int .i64 (prodN D k)∧wr=W)
 case atStart=>exact ⟨0,zU,rfl,rfl,rfl,by rw [v.out];rfl⟩
 case round =>
  obtain ⟨k,I,rfl,rfl,rfl,rfl⟩:=hrel;have c0:=r.out
  by_cases i:k<n
  ·obtain ⟨E,F,G,-⟩:=(s.out.later d.out).2 k i
   have x:(k:Int)<(n:Int):=by omega
   have l:prodN D (k+1)≤20736:=km (fun j H=>t.out j (by omega)) (by omega)
   have e:(prodN D (k+1):Int)=(prodN D k:Int)*((D k).n:Int):=by rw [prodN];exact Int.natCast_mul _ _
   have y:0≤(prodN D k:Int)*((D k).n:Int):=by omega
   have z:(prodN D k:Int)*((D k).n:Int)≤20736:=by omega
   have u:=aa e;clear l e;go_wp2_with fail
   go_roundg (n-(k+1))
   case measure=>omega
   case rel=>exact ⟨k+1,by omega,rfl,by go_num,by rw [u.out],rfl⟩
  have h:k=n:=by omega
  subst h;go_wp2_with fail;go_ret;exact ⟨rfl,d.out⟩
theorem Ho {l:List En} {p:List Int} (h:hasE l p=true):cntE l p<l.length:=(GP h 0).2.1
theorem lF (A B:Option Addr) (F G:Nat) (a b:List Int) (w:World) (N:a.length≤4) (P:b.length≤4) (H:aO w A F a) (I:aO w B G b):Rt 49 #[.slice A a.length F,.slice B b.length G] w (.bool (lessL a b)):=by
 have L:=aa H;have M:=aa I;have v:Hid (∀ k,k<a.length→k<b.length→lessL (a.drop k) (b.drop k)=if a.getD k 0=b.getD k 0 then lessL (a.drop (k+1)) (b.drop (k+1)) else decide (a.getD k 0<b.getD k 0)):=fun k D s=>DO D s
 have u:Hid (∀ k,b.length≤k→lessL (a.drop k) (b.drop k)=false):=fun k s=>wl s
 have z:Hid (∀ k,a.length≤k→k<b.length→lessL (a.drop k) (b.drop k)=true):=fun k D s=>tG D s
 obtain ⟨na,l⟩:=ax a.length;obtain ⟨nb,m⟩:=ax b.length;have q:=aa l;have r:=aa m;rw [l] at v z N;rw [m] at v u z P;rw [l,m];have O:(na:Int)≤4:=by omega
 have Q:(nb:Int)≤4:=by omega
 clear H I l m
 go_enter Tryz.func49,Tryz.ntmps49
 go_wp2_with fail
 go_loopg [5] na (fun g s5 wr => ∃ (k:Nat),k≤na∧k≤nb∧g=na-k∧s5=.int .i64 k∧Hid (lessL (a.drop k) (b.drop k)=lessL a b)∧Bl w wr)
 case atStart=>exact ⟨0,zU,zU,rfl,rfl,(rfl:lessL (a.drop 0) (b.drop 0)=lessL a b),zS⟩
 case round =>
  obtain ⟨k,Z,T,rfl,rfl,p,c⟩:=hrel;have f:=aa c
  by_cases t:k<na
  ·have U:(k:Int)<(na:Int):=by omega
   by_cases j:k<nb
   ·obtain ⟨Y,C | ⟨g1,o1,rfl,R,h⟩⟩:=L.out.later c
    ·have:=q.out;rw [C] at this;simp at this;omega
    obtain ⟨S,C | ⟨g2,o2,rfl,J,d⟩⟩:=M.out.later c
    ·have:=r.out;rw [C] at this;simp at this;omega
    have W:=h k (by rw [q.out];exact t)
    have X:=d k (by rw [r.out];exact j)
    have n:(k:Int)<(nb:Int):=by omega
    have e:=v.out k t j;generalize a.getD k 0=x at W e;generalize b.getD k 0=y at X e;clear h d c
    by_cases o:x=y
    ·have i:Hid (lessL (a.drop (k+1)) (b.drop (k+1))=lessL a b):=by show _=_;rw [←p.out,e,if_pos o]
     subst o;clear e;go_wp2_with fail
     go_quiet (fail)
     go_wp2_with fail
     go_roundg (na-(k+1))
     case measure=>omega
     case rel=>exact ⟨k+1,by omega,by omega,rfl,by go_num,i,ac f.out _⟩
    have i:Hid (lessL a b=decide (x<y)):=by show _=_;rw [←p.out,e,if_neg o]
    clear e;go_wp2_with fail
    go_quiet (fail)
    go_wp2_with fail
    go_quiet (fail)
    go_wp2_with fail;go_ret;rw [i.out];exact ⟨rfl,ac (ac f.out _) _⟩
   have i:Hid (lessL a b=false):=by show _=_;rw [←p.out,u.out k (by omega)]
   have n:(nb:Int)≤(k:Int):=by omega
   have V:decide ((na:Int)<(nb:Int))=false:=decide_eq_false (by omega)
   have K:decide (na<nb)=false:=decide_eq_false (by omega)
   clear c;go_wp2_with fail;go_ret;rw [i.out];exact ⟨rfl,f.out⟩
  have E:k=na:=by omega
  subst E
  by_cases j:k<nb
  ·have i:Hid (lessL a b=true):=by show _=_;rw [←p.out,z.out k (zT) j]
   have n:(k:Int)<(nb:Int):=by omega
   clear c;go_wp2_with fail;go_ret;rw [i.out];exact ⟨rfl,f.out⟩
  have i:Hid (lessL a b=false):=by show _=_;rw [←p.out,u.out k (by omega)]
  have n:(nb:Int)≤(k:Int):=by omega
  clear c;go_wp2_with fail;go_ret;rw [i.out];exact ⟨rfl,f.out⟩
theorem BV (A:Option Addr) (cap:Nat) (a:List EnL) (Ap:Option Addr) (I:Nat) (p:List Int) (w:World) (hn:a.length≤3000) (P:ii w A cap a) (J:sA a p) (R:aO w Ap I p) :
  Rt 83 #[.slice A a.length cap,.slice Ap p.length I] w (.tuple #[.int .i64 (cntE (lE a) p:Nat),.bool (hasE (lE a) p)]):=by
 have W:=aa P;have C:Hid (∀ k w',k<a.length→Bl w w'→Rt 49 #[.slice (a.getD k noL).A (a.getD k noL).e.pl.length (a.getD k noL).c,.slice Ap p.length I] w' (.bool (lessL (a.getD k noL).e.pl p))):=fun k w' q f=>by
  obtain ⟨-,-,E | ⟨b,o,E,y⟩⟩:=P.later f
  ·rw [E] at q;simp at q
  exact lF _ _ _ _ _ _ w' (J.1 k q) J.2 (y.pl q) (R.later f)
 have B:Hid (∀ k w',k<a.length→Bl w w'→Rt 49 #[.slice Ap p.length I,.slice (a.getD k noL).A (a.getD k noL).e.pl.length (a.getD k noL).c] w' (.bool (lessL p (a.getD k noL).e.pl))):=fun k w' q f=>by
  obtain ⟨-,-,E | ⟨b,o,E,y⟩⟩:=P.later f
  ·rw [E] at q;simp at q
  exact lF _ _ _ _ _ _ w' J.2 (J.1 k q) (R.later f) (y.pl q)
 have N:Hid (∀ i,i≤a.length→(∀ t,t<i→lessL (a.getD t noL).e.pl p=true)→(i<a.length→lessL (a.getD i noL).e.pl p=false)→cntE (lE a) p=i):=fun i Z d s=>Dg _ _ i (by rw [dF];exact Z) (fun t M=>by rw [lE_at];exact d t M) (fun V=>by rw [dF] at V;rw [lE_at];exact s V)
 have O:Hid (∀ i,cntE (lE a) p=i→i<a.length→hasE (lE a) p = !lessL p (a.getD i noL).e.pl):=fun i d s=>by rw [←lE_at];exact (rx d (by rw [dF];exact s)).1
 have u:Hid (∀ i,cntE (lE a) p=i→a.length≤i→hasE (lE a) p=false):=fun i d s=>(ry d (by rw [dF];exact s)).1
 obtain ⟨n,G⟩:=ax a.length;obtain ⟨np,L⟩:=ax p.length;have U:=aa G;rw [G] at hn C B N O u ⊢;rw [L] at C B ⊢;generalize cntE (lE a) p=cnt at N O u;generalize hasE (lE a) p=has at O u;have hn':(n:Int)≤3000:=by omega
 clear P J R G L
 go_enter Tryz.func83,Tryz.ntmps83
 go_wp2_with fail
 go_loopg [6] n (fun g s6 wr => ∃ (k:Nat),k≤n∧g=n-k∧s6=.int .i64 k∧Hid (∀ t,t<k→lessL (a.getD t noL).e.pl p=true)∧Bl w wr)
 case atStart=>exact ⟨0,zU,rfl,rfl,fun t M=>absurd M (Nat.not_lt_zero _),zS⟩
 case round =>
  obtain ⟨k,q,rfl,rfl,D,l⟩:=hrel;have H:=aa l
  by_cases x:k<n
  ·obtain ⟨-,-,E | ⟨b,o,rfl,y⟩⟩:=W.out.later l
   ·have:=U.out;rw [E] at this;simp at this;omega
   obtain ⟨c1,-⟩:=y.at (k:=k) (by rw [U.out];exact x)
   have d:=C.out k wr x l;have j:Hid (∀ w',Bl w w'→Rt 49 #[.slice Ap np I,.slice (a.getD k noL).A (a.getD k noL).e.pl.length (a.getD k noL).c] w' (.bool (lessL p (a.getD k noL).e.pl))):=fun w' f=>B.out k w' x f
   have Lt:(k:Int)<(n:Int):=by omega
   have S:=y.1;cases hl:lessL (a.getD k noL).e.pl p
   ·have r:Hid (cnt=k):=N.out k q D.out (fun _=>hl)
    have v:=aa (O.out k r.out x);rw [hl] at d;generalize lessL p (a.getD k noL).e.pl=bk at j v;generalize (a.getD k noL).A=A1 at c1 d j;generalize (a.getD k noL).c=k1 at c1 d j;generalize (a.getD k noL).e.pl.length=m1 at c1 d j;have hne:((k:Int) == (n:Int))=false:=by simp;omega
    clear hl y l;go_wp2_with fail;refine d.mono ?_;rintro e w1 ⟨rfl,m⟩;have F:Bl w w1:=ae H.out m;have z:=aa F;have Y:w1.cell? ⟨b,o+k*2,none⟩=some (.slice A1 m1 k1):=aL m S c1;have s:=j.out w1 F;clear m d c1 F;go_wp2_with fail;refine s.mono ?_;rintro e w2 ⟨rfl,K⟩;have Q:=aa (ae z.out K);clear K s Y;go_wp2_with fail
    go_ret2
    rw [r.out,v.out];exact ⟨rfl,Q.out⟩
   have X:Hid (∀ t,t<k+1→lessL (a.getD t noL).e.pl p=true):=fun t M=>by
    rcases Nat.lt_succ_iff_lt_or_eq.1 M with s | rfl
    ·exact D.out t s
    exact hl
   rw [hl] at d;generalize (a.getD k noL).A=A1 at c1 d;generalize (a.getD k noL).c=k1 at c1 d;generalize (a.getD k noL).e.pl.length=m1 at c1 d;clear hl y l j;go_wp2_with fail;refine d.mono ?_;rintro e w1 ⟨rfl,m⟩;have z:=aa (ae H.out m);clear m d c1;go_wp2_with fail
   go_roundg (n-(k+1))
   case measure=>omega
   case rel=>exact ⟨k+1,by omega,rfl,by go_num,X,z.out⟩
  have T:k=n:=by omega
  subst T;have r:Hid (cnt=k):=N.out k q D.out (fun h=>absurd h (Nat.lt_irrefl _))
  have v:Hid (has=false):=u.out k r.out (zT);go_wp2_with fail
  go_ret2
  rw [r.out,v.out];exact ⟨rfl,l⟩
section
variable {H:Type} {enc:TypeId×Value→H} {w:World} {held:Bool}
theorem yo:Tryz.prog.cellsOf 40=2:=by kernel_rfl
theorem Gv {fuel:Nat} {cs:List Value} {x:DataW H×List MemPlace} (h:DataW.trod enc Tryz.prog w 0 (fun _=>true) held fuel 40 cs=some x) :
  ∃ e:Int×Int,cs=[.int .i64 e.1,.int .i64 e.2]:=by
 obtain ⟨d,n,c⟩:=jd Tryz.underlying40 (by kernel_rfl) h
 rw [yo] at d
 match cs,d with
 | [v0,v1],_ =>
  obtain ⟨i,f⟩:=c 0 _ v0 rfl rfl;obtain ⟨j,g⟩:=c 1 _ v1 rfl rfl;obtain ⟨n0,a,-,-⟩:=DataW.trod_int Tryz.underlying3 f;obtain ⟨n1,b,-,-⟩:=DataW.trod_int Tryz.underlying3 g
  simp at a b
  exact ⟨(n0,n1),by rw [a,b]⟩
end
end Go.Proofs.YthlhjjabkgpenaaGreatDoor
