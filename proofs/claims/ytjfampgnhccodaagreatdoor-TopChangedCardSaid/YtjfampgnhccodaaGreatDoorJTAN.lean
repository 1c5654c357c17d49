/-
  What Print of package formula answers,in whatever memory: of any nodes their text,node by node.
-/
import Derived.Lib.ItoaLen
import Derived.Lib.AppendIntMem
import Derived.Lib.OwnBridge
import Derived.Shelf.Slices.In.SortNone
import Derived.Lib.SplitLaws
import Derived.Lib.IndexLaws
import Derived.Test.YtjfampgnhccodaaGreatDoorShelfS
import Derived.Shelf.Strings.Search3
import Derived.Shelf.Strings.Count
import Derived.Test.YtjfampgnhccodaaGreatDoorJTAL
namespace Go.Proofs.YtjfampgnhccodaaGreatDoor
open Tryz Go.ChangeShapes Go.WideShapes Go.ChangeAt Go.RowKit
set_option maxRecDepth 20000
def vv:ByteArray:=⟨#[]⟩
def yF(op:Int):ByteArray:=if op=3 then⟨#[43]⟩else if op=4 then⟨#[45]⟩else if op=5 then⟨#[42]⟩else⟨#[47]⟩
def MJ(l:List Nd)(T:List ByteArray)(x:Nd):ByteArray :=
 if x.op=1 then⟨(Lib.itoa x.n).toArray⟩else if x.op=2 then x.name
 else KK (T.getD x.left.toNat vv) (decide (bindN (l.getD x.left.toNat bT).op<bindN x.op))++yF x.op++KK (T.getD x.right.toNat vv) (decide (bindN (l.getD x.right.toNat bT).op<=bindN x.op))
def bO(l:List Nd):Nat->List ByteArray
 | 0=>List.replicate l.length vv
 |k+1=>(bO l k).set k (MJ l (bO l k) (l.getD k bT))
def jY(l:List Nd):ByteArray:=if ax l=0 then(bO l l.length).getD (l.length-1) vv else vv
theorem ku(l:List Nd):∀k,(bO l k).length=l.length
 | 0=>by simp[bO]
 |k+1=>by rw[bO,List.length_set,ku l k]
theorem lB(t:ByteArray)(b:Bool):(KK t b).size<=t.size+2:=by
 unfold KK
 split
 ·rw[ByteArray.size_append,ByteArray.size_append]
  show 1+t.size+1<=_
  omega
 omega
theorem J2(op:Int):(yF op).size=1:=by
 unfold yF
 split
 ·rfl
 split
 ·rfl
 split<;>rfl
theorem lp{l:List Nd}(d:∀j,j<l.length->ndErr (l.getD j bT) j=0):∀k,k<=l.length->∀j,((bO l k).getD j vv).size+5<=100*2 ^ k
 | 0,_,j=>by
  rw[bO,zZ,List.getElem?_replicate]
  split
  ·show 0+5<=100*1;omega
  show 0+5<=100*1;omega
 |k+1,hk,j=>by
  have c:=lp d k ω
  have q:=c 0;have r:100*2 ^ (k+1)=2*(100*2 ^ k):=by rw[Nat.pow_succ];omega
  have f:1<=2 ^ k:=Nat.one_le_two_pow;rw[bO,zZ,List.getElem?_set]
  by_cases e:k=j
  ·subst e
   rw[if_pos rfl,if_pos (by rw[ku];omega)]
   simp only[Option.getD_some];have a:=d k ω
   unfold MJ
   split
   ·rename_i h1
    have b:0<=(l.getD k bT).n/\(l.getD k bT).n<=1000000:=by
     unfold ndErr at a;rw[if_neg ω,if_pos h1]at a
     split at a
     ·cases a
     omega
    have:=Lib.itoa_length_le (l.getD k bT).n ω ω
    have s:(ByteArray.mk (Lib.itoa (l.getD k bT).n).toArray).size=(Lib.itoa (l.getD k bT).n).length:=by simp[ByteArray.size]
    omega
   split
   ·rename_i h1 h2
    have b:nameErr (l.getD k bT).name=0:=by
     unfold ndErr at a;rw[if_neg ω,if_neg h1,if_pos h2]at a
     split at a
     ·cases a
     rename_i h;simpa using h
    have:(l.getD k bT).name.size<=8:=by
     unfold nameErr at b
     split at b
     ·cases b
     omega
    omega
   have g:=lB ((bO l k).getD (l.getD k bT).left.toNat vv) (decide (bindN (l.getD (l.getD k bT).left.toNat bT).op<bindN (l.getD k bT).op));have i:=lB ((bO l k).getD (l.getD k bT).right.toNat vv) (decide (bindN (l.getD (l.getD k bT).right.toNat bT).op<=bindN (l.getD k bT).op));have m:=c (l.getD k bT).left.toNat;have o:=c (l.getD k bT).right.toNat;have p:=J2 (l.getD k bT).op;rw[ByteArray.size_append,ByteArray.size_append]
   omega
  rw[if_neg e,←zZ];have:=c j
  omega
theorem GZ(op:Int)(w:World):Calls prog 198 #[.int .i64 op] w fun e w'=>e=.returned (.int .i64 (bindN op))/\w'=w:=by
 unfold bindN
 by_cases a:op=3
 ·subst a
  go_enter func198,ntmps198
  go_wp2;go_ret;exact⟨by simp,rfl⟩
 by_cases b:op=4
 ·subst b
  go_enter func198,ntmps198
  go_wp2;go_ret;exact⟨by simp,rfl⟩
 by_cases c:op=5
 ·subst c
  go_enter func198,ntmps198
  go_wp2;go_ret;exact⟨by simp,rfl⟩
 by_cases d:op=6
 ·subst d
  go_enter func198,ntmps198
  go_wp2;go_ret;exact⟨by simp,rfl⟩
 rw[if_neg ω,if_neg ω]
 go_enter func198,ntmps198
 go_wp2;go_ret;exact⟨rfl,rfl⟩
theorem Om(t:ByteArray)(b:Bool)(a:t.size<=4611686018427387904)(w:World):Calls prog 197 #[.string t,.bool b] w fun e w'=>e=.returned (.string (KK t b))/\w'=w:=by
 have h1 :¬ 9223372036854775807<1+t.size:=ω;have h2 :¬ 9223372036854775807<1+t.size+1:=ω;cases b
 ·go_enter func197,ntmps197
  go_wp2;go_ret;exact⟨rfl,rfl⟩
 go_enter func197,ntmps197
 go_wp2;go_ret;exact⟨rfl,rfl⟩
def ix(w:World)(g:Nat)(L:List ByteArray):Prop:=w.heap[g]?=some (.cells (L.map Value.string).toArray 9 (0,0))
section
variable {w w':World} {g:Nat} {L:List ByteArray}
theorem ix.lt(h:ix w g L):g<w.heap.size:=(zY h).1
theorem ix.cell(h:ix w g L){j:Nat}(a:j<L.length):w.cell? ⟨g,j,none⟩=some (.string (L.getD j vv)):=by
 unfold ix at h
 simp[World.cell?,h,List.getD,zX a]
theorem ix.frozen(h:ix w g L)(j:Nat):w.frozen? ⟨g,j,none⟩=false:=by unfold ix at h;simp[World.frozen?,h]
theorem ix.later(h:ix w g L)(a:Bl w w'):ix w' g L:=(a.block g h.lt).trans h
theorem ix.set(h:ix w g L)(j:Nat)(x:ByteArray):ix (w.setCell ⟨g,j,none⟩ (.string x)) g (L.set j x):=by
 unfold ix at *;rw[setCell_eq_setRow w g j _ _ (0,0) _ h,setRow_heap w g _ _ _ _ h,List.setIfInBounds_toArray,List.map_set]
theorem ix.made(w:World)(n:Nat):ix (w.alloc (.cells (madeCells #[.string ⟨#[]⟩] n) 9)) w.heap.size (List.replicate n vv):=by
 unfold ix;rw[heap_alloc_new];have:madeCells #[.string ⟨#[]⟩] n=((List.replicate n vv).map Value.string).toArray:=by
  apply Array.ext
  ·simp[madeCells]
  intro i a b
  simp[madeCells,Nat.mod_one,vv]
 rw[this]
end
theorem infoStrF:(prog.info? 9).map (fun i=>(i.zero,i.size,i.bytes))=some (some (.string ⟨#[]⟩),1,16):=by kernel_rfl
def kz(w : World): Prop :=Lib.TabIs prog w "internal/strconv.uint64pow10" .u64 Lib.pow10Tab
theorem kz.later{w w':World}(h:kz w)(a:Bl w w'):kz w':=Lib.tabBelow_of_tabIs h w' a
theorem xa(n:Int)(w:World)(a : -9223372036854775808<=n)(b:n<=9223372036854775807)(c:kz w):Rt 36 #[.int .i64 n] w (.string ⟨(Lib.itoa n).toArray⟩):=
 (Any.strconv_Itoa laysM171 n a b w c).mono fun e w' ⟨d,k,os,f⟩=>⟨d,by rw[f];exact Lib.below_grow _ _ zT _ _⟩
theorem lr{l:List Nd}{k:Nat}{x:Nd}{t:ByteArray}(b:l.getD k bT=x)(a:MJ l (bO l k) x=t):bO l (k+1)=(bO l k).set k t:=by rw[bO,b,a]
theorem MK{l:List Nd}{T:List ByteArray}{x:Nd}(h:x.op=1):MJ l T x=⟨(Lib.itoa x.n).toArray⟩:=by rw[MJ,if_pos h]
theorem ML{l:List Nd}{T:List ByteArray}{x:Nd}(h:x.op=2):MJ l T x=x.name:=by rw[MJ,if_neg ω,if_pos h]
theorem N3{l:List Nd}{T:List ByteArray}{x:Nd}{a c:Nat}(h:2<x.op)(b:x.left=a)(d:x.right=c):MJ l T x=KK (T.getD a vv) (decide (bindN (l.getD a bT).op<bindN x.op))++yF x.op++KK (T.getD c vv) (decide (bindN (l.getD c bT).op<=bindN x.op)):=by
 rw[MJ,if_neg ω,if_neg ω,b,d]
 rfl
theorem Oq:yF 3=Utf8.encode (((ByteArray.mk #[43,45,42,47])[0]'(by decide)).toNat:Int):=by kernel_rfl
theorem Ow:(Utf8.encode (((ByteArray.mk #[43,45,42,47])[0]'(by decide)).toNat:Int)).size=1:=by rw[←Oq];rfl
theorem Ot:yF 4=Utf8.encode (((ByteArray.mk #[43,45,42,47])[1]'(by decide)).toNat:Int):=by kernel_rfl
theorem Ox:(Utf8.encode (((ByteArray.mk #[43,45,42,47])[1]'(by decide)).toNat:Int)).size=1:=by rw[←Ot];rfl
theorem Ou:yF 5=Utf8.encode (((ByteArray.mk #[43,45,42,47])[2]'(by decide)).toNat:Int):=by kernel_rfl
theorem Oy:(Utf8.encode (((ByteArray.mk #[43,45,42,47])[2]'(by decide)).toNat:Int)).size=1:=by rw[←Ou];rfl
theorem Ov:yF 6=Utf8.encode (((ByteArray.mk #[43,45,42,47])[3]'(by decide)).toNat:Int):=by kernel_rfl
theorem Oz:(Utf8.encode (((ByteArray.mk #[43,45,42,47])[3]'(by decide)).toNat:Int)).size=1:=by rw[←Ov];rfl
set_option maxRecDepth 100000 in
theorem z8(A:Option Addr)(cap:Nat)(l:List Nd)(w:World)(hE:kz w)(U:kx w A cap l):Rt 144 #[.slice A l.length cap] w (.tuple #[.string (jY l),errV (ax l)]):=by
 have u:=jO A cap l w U
 by_cases G:ax l=0
 case neg =>
  have V:jY l=⟨#[]⟩:=by unfold jY;rw[if_neg G];rfl
  rw[V];rw[ac G]at u|-;clear G V
  go_enter func144,ntmps144
  go_wp2_with fail;refine u.mono ?_;rintro e w1⟨rfl,f⟩;go_wp2_with fail;go_returns;exact⟨rfl,f⟩
 obtain⟨PT,al,hg,-⟩:=dH G;have V:jY l=(bO l l.length).getD (l.length-1) vv:=by unfold jY;rw[if_pos G]
 rw[G,errV_zero]at u|-;rw[V];obtain⟨-,-,B|⟨b,o,rfl,U⟩⟩:=U
 ·rw[B]at PT;simp at PT
 have HG:=aa hg;have HN:=aa U;have HE:=aa hE;have PU:=run_make_row' (P:=prog) 147 9 (.string ⟨#[]⟩) 16 underlying147 infoStrF rfl .i64 .i64 l.length ω ω
 obtain⟨n,hn⟩:=ar l.length;have HL:=aa hn;rw[hn]at PU u|-;have aJ:(n:Int)<=30:=ω;have aI:0<(n:Int):=ω;clear G V hg U hE
 go_enter func144,ntmps144
 go_wp2_with fail;refine u.mono ?_;rintro e w1⟨rfl,f⟩;have F:=aa f;clear f u;go_wp2_with fail
 go_loopg [20] n (fun g aq wr =>∃(k:Nat),k<=n/\g=n-k/\aq=.int .i64 k/\ix wr w1.heap.size (bO l k)/\Bl w1 wr)
 case atStart=>exact⟨0,zU,rfl,rfl,by rw[bO,HL.o];exact ix.made w1 n,by go_grown⟩
 case round =>
  obtain⟨k,hk,rfl,rfl,hS,R⟩:=hrel;have z:=aa hS;have O:=aa R;clear hS R
  by_cases aH:k<n
  ·have aG:(k:Int)<(n:Int):=ω;have y:=aa (ad F.o O.o);obtain⟨x0,x1,x2,x3,x4⟩:=(HN.o.later y.o).nd (k:=k) ω
   have aD:b<w.heap.size:=HN.o.1;have aN:=y.o.size;have ao:=F.o.size;have aF:=z.o.lt;have d:=HG.o k ω
   obtain⟨x,hx⟩:=ar (l.getD k bT);have HX:=aa hx;rw[hx]at x0 x1 x2 x3 x4 d;clear hx;have am:(bO l k).length=n:=by rw[ku];exact hn
   by_cases B:x.op=1
   ·have v:=aa (lr HX.o (MK (l:=l) (T:=bO l k) B))
    have aK:0<=x.n/\x.n<=1000000:=by
     unfold ndErr at d;rw[if_neg ω,if_pos B]at d
     split at d
     ·cases d
     omega
    have S:=fun w' hE=>xa x.n w' ω ω hE
    rw[B]at x0;clear d;go_wp2_with fail;refine(S _ (HE.o.later (ad y.o γ))).mono ?_
    rintro e w2⟨rfl,i⟩;have p:Hid (Bl wr w2):=ad γ i
    have L:=(z.o.later p.o).cell (j:=k) ω
    have y2:=(z.o.later p.o).frozen k;clear i S;go_wp2_with fail
    go_roundg (n-(k+1))
    case measure=>omega
    case rel=>exact⟨k+1,ω,rfl,by go_num,by rw[v.o];exact(z.o.later p.o).set k _,(ad O.o p.o).setCell zT _⟩
   by_cases M:x.op=2
   ·have v:=aa (lr HX.o (ML (l:=l) (T:=bO l k) M))
    have E:nameErr x.name=0:=by
     unfold ndErr at d;rw[if_neg ω,if_neg B,if_pos M]at d
     split at d
     ·cases d
     rename_i h;simpa using h
    have aL:x.name.size<=8:=by
     unfold nameErr at E
     split at E
     ·cases E
     omega
    have J:=fun w=>d5 x.name w ω
    rw[M]at x0;clear d E;go_wp2_with fail;refine(J _).mono ?_;rintro e w2⟨rfl,i⟩;have p:Hid (Bl wr w2):=ad γ i
    have L:=(z.o.later p.o).cell (j:=k) ω
    have y2:=(z.o.later p.o).frozen k;clear i J;go_wp2_with fail
    go_roundg (n-(k+1))
    case measure=>omega
    case rel=>exact⟨k+1,ω,rfl,by go_num,by rw[v.o];exact(z.o.later p.o).set k _,(ad O.o p.o).setCell zT _⟩
   have an:3<=x.op/\x.op<=6:=by
    unfold ndErr at d
    split at d
    ·cases d
    omega
   obtain⟨l0,l1,r0,r1⟩:=e8 d ω
   obtain⟨a,ha⟩:∃a:Nat,x.left=a:=⟨x.left.toNat,ω⟩
   obtain⟨c,hc⟩:∃c:Nat,x.right=c:=⟨x.right.toNat,ω⟩
   have aC:a<n:=ω;have J:c<n:=ω;have v:=aa (lr HX.o (N3 (l:=l) (T:=bO l k) (a:=a) (c:=c) ω ha hc))
   obtain⟨W,X⟩:=ar (wr.alloc (.cells #[.int .i64 x.op,.int .i64 x.n,.string x.name,.int .i64 x.left,.int .i64 x.right] 223));have C:Bl wr W:=by rw[←X];exact(zS).alloc zT _
   have ab:=aa C;have q:W.heap[wr.heap.size]?=some (.cells #[.int .i64 x.op,.int .i64 x.n,.string x.name,.int .i64 x.left,.int .i64 x.right] 223 (0,0)):=by rw[←X];exact heap_alloc_new _ _
   have z0:W.cell? ⟨wr.heap.size,0,none⟩=some (.int .i64 x.op):=by simp[World.cell?,q]
   have z3:W.cell? ⟨wr.heap.size,3,none⟩=some (.int .i64 a):=by simp[World.cell?,q,ha]
   have z4:W.cell? ⟨wr.heap.size,4,none⟩=some (.int .i64 c):=by simp[World.cell?,q,hc]
   have r:=aa (z.o.later C);have ta:=r.o.cell (j:=a) ω
   have tc:=r.o.cell (j:=c) ω
   have D:=HN.o.later (ad y.o C);obtain⟨q1,-⟩:=D.nd (k:=a) ω
   obtain⟨q2,-⟩:=D.nd (k:=c) ω
   have sa:=lp HG.o k ω a
   have sc:=lp HG.o k ω c
   have ag:100*2 ^ k<=100*2 ^ 30:=Nat.mul_le_mul_left _ (Nat.pow_le_pow_right ω ω)
   have Q:(100*2 ^ 30:Nat)=107374182400:=by decide
   obtain⟨tA,P0⟩:∃t,(bO l k).getD a vv=t:=⟨_,rfl⟩;obtain⟨tC,P1⟩:∃t,(bO l k).getD c vv=t:=⟨_,rfl⟩;obtain⟨oA,PV⟩:∃t,(l.getD a bT).op=t:=⟨_,rfl⟩;obtain⟨oC,PW⟩:∃t,(l.getD c bT).op=t:=⟨_,rfl⟩;rw[P0]at ta sa v;rw[P1]at tc sc v;rw[PV]at q1 v;rw[PW]at q2 v;have Y:=fun b w=>Om tA b ω w
   have Z:=fun b w=>Om tC b ω w
   have uA:=lB tA (decide (bindN oA<bindN x.op));have uC:=lB tC (decide (bindN oC<=bindN x.op));have aB:(a:Int)<(n:Int):=ω;have aE:(c:Int)<(n:Int):=ω;have L:=r.o.cell (j:=k) ω
   have y2:=r.o.frozen k;have ai:w1.heap.size<W.heap.size:=r.o.lt;have ah:b<W.heap.size:=D.1;have K:wr.heap.size<W.heap.size:=(zY q).1;have aO:tA.size<=200000000000:=ω;have aP:tC.size<=200000000000:=ω;obtain⟨ov,PX⟩:=ar x.op;rw[PX]at X x0 z0 v uA uC an B M;rw[ha,hc]at X;have hs1 :¬ 9223372036854775807<(KK tA (decide (bindN oA<bindN ov))).size+1:=ω;have hs2 :¬ 9223372036854775807<(KK tA (decide (bindN oA<bindN ov))).size+1+(KK tC (decide (bindN oC<=bindN ov))).size:=ω;have e1:(ov == 1)=false:=by simpa using B
   have e2:(ov == 2)=false:=by simpa using M
   clear q D P0 P1 PV PW l0 l1 r0 r1 d C ag Q sa sc PX B M;go_wp2_with fail
   go_quiet (first
    |(go_at_call 198;exact Calls.quiet_of_same (GZ _ _))
    |(go_at_call 197;exact Calls.quiet_of_same (Y _ _)))
   obtain⟨W1,H⟩:=ar (W.drewN nq);have f:Bl W W1:=by rw[←H];exact aj zS _
   have P3:=aM f K z0;have av:=aM f K z4;have au:=aM f ai tc;have ap:=aM f ah q2;have af:=aa (r.o.later f);have N:=aa (ad O.o (ad ab.o f));have P2:wr.heap.size<W1.heap.size:=zW K f.size;rw[H];clear f H z0 z3 z4 ta tc q1 q2 L y2 X;go_wp2_with fail
   go_quiet (first
    |(go_at_call 198;exact Calls.quiet_of_same (GZ _ _))
    |(go_at_call 197;exact Calls.quiet_of_same (Z _ _)))
   obtain⟨W2,I⟩:=ar (W1.drewN nq);have i:Bl W1 W2:=by rw[←I];exact aj zS _
   have v0:=aM i P2 P3;have s:=aa (af.o.later i);have ae:=aa (ad N.o i);have L:=s.o.cell (j:=k) ω
   have y2:=s.o.frozen k;rw[I];clear i I P3 av au ap Y Z;have PY:ov=3\/ov=4\/ov=5\/ov=6:=ω;clear hs1 hs2
   rcases PY with rfl|rfl|rfl|rfl
   all_goals
    have aw:=Ow;have ay:=Ox;have az:=Oy;have aA:=Oz;go_wp2_with fail
    go_roundg (n-(k+1))
    case measure=>omega
    case rel=>exact⟨k+1,ω,rfl,by go_num,by rw[v.o];first|(rw[Oq];exact s.o.set k _)|(rw[Ot];exact s.o.set k _)|(rw[Ou];exact s.o.set k _)|(rw[Ov];exact s.o.set k _),ae.o.setCell zT _⟩
  have ak:k=n:=ω;subst ak;have L:=z.o.cell (j:=k-1) (by rw[ku,HL.o];omega)
  have PZ:(k:Int)-1=((k-1:Nat):Int):=ω;obtain⟨t,ht⟩:=ar ((bO l k).getD (k-1) vv);have v:=aa ht;rw[ht]at L;obtain⟨m,hm⟩:=ar (k-1);rw[hm]at L PZ;have PU:(m:Int)<(k:Int):=ω;clear ht;go_wp2_with fail;go_returns;exact⟨by rw[v.o];rfl,ad F.o O.o⟩
theorem tQ(l:List Nd){k:Nat}(a:k<l.length):l.take (k+1)=l.take k++[l.getD k bT]:=by
 rw[List.take_add_one,zX a]
 simp[List.getD,zX a]
end Go.Proofs.YtjfampgnhccodaaGreatDoor
namespace Go.Proofs.YtjfampgnhccodaaGreatDoor
open Tryz
inductive Tre where
 |num (n:Int)
 |ref (s:ByteArray)
 |bin (o:Int) (a b:Tre)
theorem LZ(u:Nat):∀b∈Lib.decDigits u,48<=b.toNat/\b.toNat<=57:=by
 induction u using Nat.strongRecOn with
 |_ u ih =>
  intro b a
  by_cases h:u<10
  ·rw[Lib.decDigits_one h,List.mem_singleton]at a
   subst a;have e:(UInt8.ofNat (48+u)).toNat=48+u:=by simp;omega
   omega
  rw[Lib.decDigits,dif_neg h,List.mem_append,List.mem_singleton]at a
  rcases a with a|a
  ·exact ih (u / 10) ω b a
  subst a;have e:(UInt8.ofNat (48+u % 10)).toNat=48+u % 10:=by simp;omega
  omega
theorem qF{s:ByteArray}(h:nameErr s=0):1<=s.size/\s.size<=8/\∀i,i<s.size->cZ (byteN s i)=true:=by
 unfold nameErr at h
 split at h
 ·cases h
 rename_i h1
 split at h
 ·cases h
 rename_i h2
 refine⟨ω,ω,fun i b=>?_⟩
 rcases findFrom_cases (eV s) s.size 0 with⟨_,a⟩|⟨m,e,_⟩
 ·have:=a i zU ω
  unfold eV GV at this;unfold cZ
  simp at this|-
  omega
 omega
end Go.Proofs.YtjfampgnhccodaaGreatDoor
namespace Go.Proofs.YtjfampgnhccodaaGreatDoor
open Tryz Go.ChangeShapes Go.WideShapes Go.ChangeAt Go.RowKit
open Go.Sort (putRow Holds grow holds_putRow)
set_option maxRecDepth 20000
def dD(l:List Nd)(k:Nat):List (List UInt8):=((l.take k).filter fun x=>decide (x.op=2)).map fun x=>x.name.data.toList
def aP(l:List Nd):List (List UInt8):=if ax l=0 then Lib.compact ((dD l l.length).mergeSort fun x y=>decide (x<=y))else[]
theorem LU{l:List Nd}{k:Nat}{x:Nd}(a:k<l.length)(b:l.getD k bT=x)(h:x.op=2):dD l (k+1)=dD l k++[x.name.data.toList]:=by
 unfold dD;rw[tQ l a,b,List.filter_append,List.map_append]
 simp[h]
theorem I3{l:List Nd}{k:Nat}{x:Nd}(a:k<l.length)(b:l.getD k bT=x)(h:x.op≠2):dD l (k+1)=dD l k:=by
 unfold dD;rw[tQ l a,b,List.filter_append,List.map_append]
 simp[h]
theorem Du(l:List Nd)(k:Nat):(dD l k).length<=k:=by
 unfold dD;rw[List.length_map];exact zV (List.length_filter_le _ _) (by rw[List.length_take];omega)
def gO(w:World)(A:Option Addr)(c:Nat)(L:List (List UInt8)):Prop:=L.length<=c/\c<=9223372036854775807/\(L=[]\/∃b o,A=some ⟨b,o,none⟩/\b<w.heap.size/\∀j,j<L.length->w.cell? ⟨b,o+j,none⟩=some (.string ⟨(L.getD j []).toArray⟩))
theorem gO.nil(w:World)(A:Option Addr)(c:Nat)(h:c<=9223372036854775807):gO w A c []:=⟨zU,h,Or.inl rfl⟩
theorem gO.later{w w':World}{A:Option Addr}{c:Nat}{L:List (List UInt8)}(h:gO w A c L)(g:Bl w w'):gO w' A c L:=by
 obtain⟨d,e,a|⟨b,o,a,f,i⟩⟩:=h
 ·exact⟨d,e,Or.inl a⟩
 exact⟨d,e,Or.inr ⟨b,o,a,zW f g.size,fun j k=>aM g f (i j k)⟩⟩
theorem DD{w:World}{g k:Nat}{d:Array (List UInt8)}(h:k≠g):(putRow encStr w g 0 d).heap[k]?=w.heap[k]?:=by
 unfold putRow Sort.mapBlock;simp only[Array.getElem?_modify];rw[if_neg (fun e=>h e.symm)]
theorem vj{w0 w:World}{g n:Nat}{d:Array (List UInt8)}{os:Array Obj}(h:Bl w0 w)(b:w0.heap.size<=g):Bl w0 (grow (putRow encStr (Sort.ahead w n) g 0 d) os):=by
 refine⟨h.os,h.tape,h.output,by have:=h.size;simp;omega,fun k a=>?_⟩
 have c:=h.size;rw[Sort.heap_grow_old _ _ (by simp;omega),DD ω]
 exact h.block k a
theorem uW{w0 w:World}{g n:Nat}{d:Array (List UInt8)}(h:Bl w0 w)(b:w0.heap.size<=g):Bl w0 (putRow encStr (Sort.ahead w n) g 0 d):=by
 refine⟨h.os,h.tape,h.output,by have:=h.size;simp;omega,fun k a=>?_⟩
 rw[DD ω]
 exact h.block k a
theorem n7(zs:List (List UInt8)):(Lib.compact zs).length<=zs.length:=by
 unfold Lib.compact Lib.compactUpTo;rw[List.length_map];exact zV (List.length_filter_le _ _) σ
theorem xZ{w:World}{g n cap:Nat}{zs:List (List UInt8)}(d:Holds encStr w g 0 zs.toArray)(i:zs.length<=cap)(h:cap<=maxLen)(f:g<w.heap.size):
  gO (putRow encStr (Sort.ahead w n) g 0 (Lib.compact zs++List.replicate (zs.length-(Lib.compact zs).length) []).toArray) (some ⟨g,0,none⟩) cap (Lib.compact zs):=by
 have k:=n7 zs;refine⟨ω,by unfold maxLen at h;omega,Or.inr ⟨g,0,rfl,by simpa using f,fun j b=>?_⟩⟩
 have a:(Lib.compact zs++List.replicate (zs.length-(Lib.compact zs).length) []).toArray.size=zs.toArray.size:=by simp;omega
 have c:=(holds_putRow encStr (Sort.ahead w n) g 0 zs.toArray _ d a j (by rw[a];simp;omega)).1
 rw[c];have e:(Lib.compact zs++List.replicate (zs.length-(Lib.compact zs).length) ([]:List UInt8)).toArray[j]! =(Lib.compact zs).getD j []:=by
  rw[getElem!_pos _ j (by rw[a];simp;omega)]
  simp[List.getD,zX b,List.getElem_append_left b]
 rw[e]
end Go.Proofs.YtjfampgnhccodaaGreatDoor
namespace Go.Proofs.YtjfampgnhccodaaGreatDoor
open Tryz Go.ChangeShapes Go.WideShapes Go.ChangeAt Go.RowKit
set_option maxRecDepth 20000
theorem kf(c:UInt8)(l:List UInt8):(cutB c l).length=Lib.countByte l c+1:=by
 unfold Lib.countByte
 induction l with
 |nil=>rfl
 |cons x t ih =>
  rw[cutB]
  by_cases h:x=c
  ·rw[if_pos h,List.length_cons,ih,h,List.count_cons_self]
  rw[if_neg h,List.count_cons_of_ne (by simpa using h)]
  cases hs:cutB c t with
  |nil=>exact absurd hs (o6 c t)
  |cons a r=>rw[hs]at ih;simpa using ih
theorem wt{c:UInt8}{l:List UInt8}(h:Lib.indexByte l c = -1):cutB c l=[l]:=by
 refine lG fun d=>?_
 obtain⟨i,b,a⟩:=List.getElem_of_mem d;exact Lib.indexByte_none h i (by rw[zX b,a])
theorem uh{c:UInt8}{l:List UInt8}{o:Nat}(h:Lib.indexByte l c=o):o<l.length/\cutB c l=l.take o :: cutB c (l.drop (o+1)):=by
 obtain⟨d,f⟩:=Lib.indexByte_some h;obtain⟨b,g⟩:=List.getElem?_eq_some_iff.1 d;refine⟨b,?_⟩;have e:l=l.take o++c :: l.drop (o+1):=by
  rw[←g,←List.drop_eq_getElem_cons b,List.take_append_drop]
 have m:c∉l.take o:=fun k=>by
  obtain⟨i,j,n⟩:=List.getElem_of_mem k;have a:i<o:=by simp at j;omega
  exact f i a (by rw[zX ω];simpa using n)
 conv=>lhs;rw[e]
 exact eG m _
theorem jH{x:ByteArray}{l:List UInt8}(h:x.data.toList=l):(⟨l.toArray⟩:ByteArray)=x:=by
 subst h;cases x
 simp
theorem q9{x:ByteArray}(h:Lib.indexByte x.data.toList 46 = -1):pieces x=[x]:=by
 unfold pieces;rw[wt h,List.map_singleton,jH rfl]
theorem oI{x:ByteArray}{i:Nat}(h:Lib.indexByte x.data.toList 46=i):i+1<=x.size/\pieces x=x.extract 0 i :: pieces (x.extract (i+1) x.size):=by
 obtain⟨c,a⟩:=uh h;have b:x.data.toList.length=x.size:=by simp
 refine⟨ω,?_⟩
 unfold pieces;rw[a,List.map_cons,jH (Lib.extract_from_zero x i),Lib.extract_to_end]
theorem lj(x:ByteArray):1<=(pieces x).length:=by
 unfold pieces;rw[List.length_map,kf]
 omega
theorem mj(x:ByteArray):(pieces x).length=Lib.countByte x.data.toList 46+1:=by
 unfold pieces;rw[List.length_map,kf]
theorem tE(x:ByteArray):(pieces x).length<=x.size+1:=by
 rw[mj];unfold Lib.countByte;have:=List.count_le_length (a:=(46:UInt8)) (l:=x.data.toList);have b:x.data.toList.length=x.size:=by simp
 omega
theorem ya{x:ByteArray}(h:(pieces x).length=1):pieces x=[x]:=by
 have d:=Lib.indexByte_ge x.data.toList 46
 by_cases a:Lib.indexByte x.data.toList 46 = -1
 ·exact q9 a
 obtain⟨i,c⟩:∃i:Nat,Lib.indexByte x.data.toList 46=i:=⟨(Lib.indexByte x.data.toList 46).toNat,ω⟩
 have b:=(oI c).2;have e:=lj (x.extract (i+1) x.size);rw[b,List.length_cons]at h
 omega
theorem BE{x:ByteArray}(h:2<=(pieces x).length):∃i:Nat,Lib.indexByte x.data.toList 46=i/\i+1<=x.size/\pieces x=x.extract 0 i :: pieces (x.extract (i+1) x.size):=by
 have c:=Lib.indexByte_ge x.data.toList 46
 by_cases b:Lib.indexByte x.data.toList 46 = -1
 ·rw[q9 b]at h;simp at h
 obtain⟨i,a⟩:∃i:Nat,Lib.indexByte x.data.toList 46=i:=⟨(Lib.indexByte x.data.toList 46).toNat,ω⟩
 exact⟨i,a,oI a⟩
def piecesC(c:UInt8)(s:ByteArray):List ByteArray:=(cutB c s.data.toList).map fun l=>⟨l.toArray⟩
theorem g7(c:UInt8)(x:ByteArray):1<=(piecesC c x).length:=by
 unfold piecesC;rw[List.length_map,kf]
 omega
theorem lh(c:UInt8)(x:ByteArray):(piecesC c x).length<=x.size+1:=by
 unfold piecesC;rw[List.length_map,kf];unfold Lib.countByte;have:=List.count_le_length (a:=c) (l:=x.data.toList);have b:x.data.toList.length=x.size:=by simp
 omega
theorem infoStr:(prog.info? 9).map (fun i=>(i.zero,i.size,i.bytes))=some (some (.string ByteArray.empty),1,16):=by kernel_rfl
end Go.Proofs.YtjfampgnhccodaaGreatDoor
namespace Go.Proofs.YtjfampgnhccodaaGreatDoor
open Tryz Go.ChangeShapes Go.WideShapes Go.ChangeAt Go.RowKit
theorem Bh{D:Nat->Dm}{n:Nat}(h:(ag D n).2.2=0){i j:Nat}(c:i<n)(d:j<(D i).n):((D i).mem j).name.size<=30:=by
 have a:=(aq ((aZ h).2 i c)).2.2.2 j d;have b:nameErr ((D i).mem j).name=0:=by
  unfold aQ at a
  split at a
  ·cases a
  rename_i h3;simpa using h3
 unfold nameErr at b
 split at b
 ·cases b
 omega
end Go.Proofs.YtjfampgnhccodaaGreatDoor
namespace Go.Proofs.YtjfampgnhccodaaGreatDoor
open Tryz Go.ChangeShapes Go.WideShapes Go.ChangeAt Go.RowKit
set_option maxRecDepth 20000
def badW(x:UInt8):Bool:=x == 61||x == 46
def nmW(s:ByteArray):Bool := !s.data.toList.any badW&& !s.data.toList.isEmpty
theorem jt{D:Nat->Dm}{n:Nat}{L:List Int}(h:InO D n L):∀k,k<=n->(aY D L k).length<=k*31
 | 0,_=>by simp[aY]
 |k+1,hk=>by
  have a:=jt h k ω
  have b:(fW D L k).size<=30:=Bh h.right ω (by have:=h.lo k ω;have:=h.hi k ω;omega)
  have c:(fW D L k).data.toList.length=(fW D L k).size:=by simp
  rw[aY,List.length_append,List.length_append]
  split<;>simp at * <;>omega
theorem sV(s:ByteArray)(w:World):Calls prog 131 #[.string s,.string ⟨#[46]⟩] w fun e w'=>e=.returned (.int .i64 (((pieces s).length:Int)-1))/\w'=w:=by
 refine(Any.strings_Count_one lays138 s 46 w).mono fun e w' ⟨a,b⟩=>⟨?_,b⟩
 rw[a,mj]
 simp
theorem E1(s:ByteArray)(w:World):Calls prog 181 #[.string s,.string ⟨#[46]⟩] w fun e w'=>e=.returned (.int .i64 (Lib.indexByte s.data.toList 46))/\w'=w:=Any.strings_Index_one lays143 s 46 w
theorem uo(s:ByteArray)(w:World)(C:(pieces s).length<=4)(M:s.size<=4611686018427387904):Calls prog 172 #[.string s,.string ⟨#[46]⟩,.int .i64 0,.int .i64 (-1)] w fun e w'=>e=.returned (.slice (some ⟨w.heap.size,0,none⟩) (pieces s).length (pieces s).length)/\w'=w.alloc (.cells ((pieces s).map Value.string).toArray 9):=by
 have c:=sV s;have q:=lj s;have k:=tE s;obtain⟨N,l⟩:=ar ((pieces s).length);have t:=aa l;rw[l]at C c q k;rw[l];have m:=run_make_row' (P:=prog) 147 9 (.string ByteArray.empty) 16 underlying147 infoStr rfl .i64 .i64 N ω ω
 have I:(s.size:Int)<=4611686018427387904:=ω;have E:(N:Int)<=4:=ω;have D:(1:Int)<=(N:Int):=ω;have n:min (N:Int) ((s.size:Int)+1)=(N:Int):=Int.min_eq_left ω
 clear l
 go_enter func172,ntmps172
 go_wp2_with fail;refine(c _).mono ?_;rintro e w1⟨rfl,rfl⟩;go_wp2_with fail;clear m c n
 go_loopg [0,10,11] (N-1) (fun g s0 ab ac wr =>∃(done:List ByteArray) (a:ByteArray),s0=.string a/\ab=.int .i64 done.length/\done.length<=N-1/\g=N-1-done.length/\a.size<=s.size/\wr=w1.alloc (.cells (Lib.cellsOf done N) 9)/\done++pieces a=pieces s)
 case atStart=>exact⟨[],s,rfl,rfl,zU,rfl,zT,by rw[Lib.cellsOf_nil],rfl⟩
 case round =>
  obtain⟨done,a,rfl,rfl,L,rfl,H,rfl,f⟩:=hrel;have o:(Lib.cellsOf done N)[done.length]?=some (.string ByteArray.empty):=Lib.cellsOf_next ω
  have u:=aa f;have p:done.length+(pieces a).length=N:=by rw[←t.o,←f,List.length_append]
  have d:=E1 a;clear f
  by_cases G:done.length<N-1
  ·have h:((done.length:Nat):Int)<(N:Int)-1:=ω;obtain⟨i,y,r,j⟩:=BE (x:=a) ω
   rw[y]at d;have A:=aa j;have c0 :¬((i:Int)<0):=ω;have c2:(i:Int)<=(a.size:Int):=ω;have J:(i:Int)+1<=(a.size:Int):=ω;have K:(a.size:Int)<=4611686018427387904:=ω;clear j y p;go_wp2_with fail;refine(d _).mono ?_;rintro e w2⟨rfl,rfl⟩;go_wp2_with fail
   go_roundg (N-1-(done.length+1))
   case measure=>omega
   case rel =>
    refine⟨done++[a.extract 0 i],a.extract (i+1) a.size,rfl,by simp,by simp;omega,by simp,by rw[ByteArray.size_extract];omega,by rw[←Lib.cellsOf_set ω],?_⟩
    rw[←u.o,A.o]
    simp
  have h :¬(((done.length:Nat):Int)<(N:Int)-1):=ω;have b:=ya (x:=a) ω
  have z:Hid ((Lib.cellsOf done N).setIfInBounds done.length (.string a)=((pieces s).map Value.string).toArray):=by
   show _=_
   have B:done++[a]=pieces s:=by rw[←u.o,b]
   rw[Lib.cellsOf_set ω,B,←t.o,Lib.cellsOf_full]
  have F:done.length+1=N:=ω;have v:((done.length:Nat):Int)+1=(N:Int):=ω;clear b d;go_wp2_with fail;go_ret;rw[←z.o];exact⟨by rfl,rfl⟩
theorem Ge(s:ByteArray)(w:World)(a:(pieces s).length<=4)(b:s.size<=4611686018427387904):Calls prog 132 #[.string s,.string ⟨#[46]⟩] w fun e w'=>e=.returned (.slice (some ⟨w.heap.size,0,none⟩) (pieces s).length (pieces s).length)/\w'=w.alloc (.cells ((pieces s).map Value.string).toArray 9):=by
 have h:=uo s w a b;generalize (pieces s).length=m at h;generalize ((pieces s).map Value.string).toArray=cs at h;clear a b
 go_enter func132,ntmps132
 go_wp2_with fail;refine h.mono ?_;rintro e w1⟨rfl,rfl⟩;go_wp2_with fail;go_ret;exact⟨rfl,rfl⟩
end Go.Proofs.YtjfampgnhccodaaGreatDoor
