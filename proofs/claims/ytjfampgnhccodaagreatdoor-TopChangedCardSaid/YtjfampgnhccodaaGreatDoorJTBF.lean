/- An outline that is rig -/
import Derived.BigRegion
import Derived.Test.YtjfampgnhccodaaGreatDoorJTAW
import Derived.Test.YtjfampgnhccodaaGreatDoorJTBE
namespace Go.Proofs.YtjfampgnhccodaaGreatDoor
open Tryz ChangeShapes WideShapes ChangeAt RowKit Go
set_option maxRecDepth 99999
set_option maxHeartbeats 0
theorem dZ{D:Nat->Dm}{n:Nat}(h:(au D n).2.2=0):(ag D n).2.2=0/\eT D n:=by
 by_cases d:(ag D n).2.2=0
 ·refine⟨d,Classical.byContradiction fun r=>?_⟩
  have f:∃i,i<n/\(bB (D i)).2≠0:=Classical.byContradiction fun p=>r fun i g=>Classical.byContradiction fun b=>p ⟨i,g,b⟩
  have a:∀m,(∃i,i<m/\i<n/\(bB (D i)).2≠0)->∃i,i<n/\(bB (D i)).2≠0/\∀j,j<i->(bB (D j)).2=0:=by
   intro m
   induction m with
   |zero=>rintro⟨i,h,-⟩;omega
   |succ m ih =>
    rintro⟨i,s,l,o⟩
    by_cases k:∃i,i<m/\i<n/\(bB (D i)).2≠0
    ·exact ih k
    exact⟨i,l,o,fun j t=>Classical.byContradiction fun b=>k ⟨j,ω,ω,b⟩⟩
  obtain⟨i0,c,e⟩:=f;obtain⟨i,g,b,q⟩:=a n ⟨i0,c,c,e⟩;rw[Po d g b q]at h;exact b h
 rw[Pn d]at h;exact absurd h d
theorem Ms{D:Nat->Dm}{n:Nat}(a:(ag D n).2.2=0)(b:eT D n):(au D n).2.2=0:=by rw[O6 a b]
theorem Ja{D:Nat->Dm}{n:Nat}{p:List Int}(h:InO D n p):∃x:Nat,numI D p n=(x:Int)/\x<prodN D n/\ah D n x=p:=by
 obtain⟨b,c,-⟩:=bQ h (Nat.le_refl n);have a:=iO h;exact⟨(numI D p n).toNat,ω,ω,a⟩
def PH:Mem:=⟨⟨#[98]⟩,-1,0,⟨#[99,43,49]⟩⟩
def PI:Mem:=⟨⟨#[99]⟩,-1,0,⟨#[]⟩⟩
def oneM(i:Nat):Mem:=if i=0 then PH else PI
def MX:Dm:=⟨⟨#[97]⟩,0,2,oneM⟩
theorem Jg:jz MX=[[1],[]]:=by decide+kernel
theorem MM{N:List (List Int)}(h:∀(a:Int),∀x∈jD N a,a<x)(i:Nat):cycB N i=false:=by
 rw[ui];intro e;have d:∀ {a b:Int},Rch N a b->a<b:=by
  intro a b c
  induction c with
  |one hx=>exact h _ _ hx
  |more hx _ ih=>have:=h _ _ hx;omega
 have:=d e
 omega
theorem Jc(i:Nat):cycB (jz MX) i=false:=by
 rw[Jg];refine MM (fun a x b=>?_) i
 unfold jD at b
 rcases h:a.toNat with _|_|k
 ·rw[h]at b
  simp at b
  omega
 ·rw[h]at b
  simp at b
 rw[h]at b
 simp at b
theorem zO(A0:Option Addr)(cap n:Nat)(D:Nat->Dm)(A:Nat->Option Addr)(C:Nat->Nat)(AE:Option Addr)(ce:Nat)(xs:List EnL)(w:World)(hM:aL w A0 cap n D A C)(hE:bU w AE ce xs)(he:entsErr D n (lE xs)=0):
  Calls prog 27 #[.agg #[.slice A0 n cap],.slice AE xs.length ce] w fun e w'=>(∃g,e=.returned (.tuple #[.slice (some ⟨g,0,none⟩) (prodN D n) (prodN D n),.nilIface])/\w.heap.size<=g/\cB w' g (wrV D n (lE xs)))/\Bl w w':=by
 have m:=ay w A0 n cap 24;have h:=dW A0 cap n D A C AE ce xs (aE w A0 n cap 24) (hM.later m) (hE.later m);have ab:=aa m;have HM:=aa hM;have HE:=aa hE;clear hM hE m;have o:=qd he;have ai:=aa o;have PX:xs.length<=3000:=by have:=o.few;rw[aR]at this;exact this
 have hR:=o.right;have HR:=aa hR;obtain⟨aG,aH,PZ,hd⟩:=ao hR;rw[he,errV_zero]at h;have F:Hid (w.heap.size<(aE w A0 n cap 24).heap.size/\(aE w A0 n cap 24).cell? ⟨w.heap.size,0,none⟩=some (.slice A0 n cap)):=⟨by rw[aB];omega,aU ..⟩
 obtain⟨N,hN⟩:=ar xs.length;have HN:=aa hN;rw[hN]at h PX|-;have az:(N:Int)<=3000:=ω;obtain⟨PN,q⟩:=ar (prodN D n);have I:=aa q;rw[q]at PZ;have ap:=rE PN PZ;have al:(PN:Int)<=3000:=ω;have ak:Hid (((lE xs).take N).foldl (dN D n) (List.replicate PN (0,0))=wrV D n (lE xs)):=by show _=_;rw[List.take_of_length_le (by rw[aR,hN];exact zT),←q];rfl
 clear he o hR hd hN q
 go_enter func27,ntmps27
 go_wp2_with fail;refine h.mono ?_;rintro e w1⟨rfl,r⟩;have hB:Bl w w1:=ad ab.o r;have HB:=aa hB;have x:Hid (rX w1 w.heap.size (.slice A0 n cap)):=⟨zW F.o.1 r.size,aM r F.o.1 F.o.2⟩;have c1:=x.o.2;have Q:=q7 A0 cap n D A C w1 (HM.o.later hB);have PW:ja D n=(PN:Int):=by unfold ja;rw[if_pos HR.o,I.o]
 rw[HR.o,errV_zero,PW]at Q;clear r h hB PW;go_wp2_with fail;refine Q.mono ?_;rintro e w2⟨rfl,O⟩;have S:=aa (ad HB.o O);have d:=aa (x.o.later O);obtain⟨v2,R⟩:∃v,w2.alloc (.cells (madeCells #[.int .i64 0,.int .i64 0] (PN*2)) 61)=v:=⟨_,rfl⟩;have L:Bl w2 v2:=by rw[←R];go_grown
 have T:=aa L;have ah:Hid (cB v2 w2.heap.size (List.replicate PN (0,0))):=by rw[←R];exact Ec w2 PN
 have G:=aa (d.o.later L);have aI:w.heap.size<w2.heap.size:=d.o.1;clear Q O c1 L;go_wp2_with fail;clear ap R
 go_loopg [32] N (fun gg ax wr =>∃(k:Nat),k<=N/\gg=N-k/\ax=.int .i64 k/\Hid (cB wr w2.heap.size (((lE xs).take k).foldl (dN D n) (List.replicate PN (0,0))))/\Hid (v2.grownBy wr (some w2.heap.size)))
 case atStart=>exact⟨0,zU,rfl,rfl,ah,bP v2 _⟩
 case round =>
  obtain⟨k,hk,rfl,rfl,HC,HG⟩:=hrel;have b:Bl w2 wr:=T.o.grown HG.o T.o.size (fun j hj=>by cases hj;exact zT)
  have ac:=aa b;have H:=aa (ad S.o b)
  by_cases an:k<N
  ·have s:k<xs.length:=by rw[HN.o];exact an
   have aF:(k:Int)<(N:Int):=ω;obtain⟨-,-,h0|⟨bb,oo,rfl,hA⟩⟩:=HE.o.later H.o
   ·have:=HN.o;rw[h0]at this;simp at this;omega
   obtain⟨c1,c2⟩:=hA.at s;have B:(xs.getD k noL).e∈lE xs:=List.mem_map.2 ⟨_,cJ s,rfl⟩;obtain⟨u,-,E⟩:=ai.o.each _ B;have hnn : -1000000<=(xs.getD k noL).e.n/\(xs.getD k noL).e.n<=1000000:=by simpa [dE]using E
   obtain⟨aq,au,-⟩:=bQ u (Nat.le_refl n);have P0:=hA.pl s;have l:=ME D n (List.replicate PN (0,0)) xs s;unfold dN at l;obtain⟨X,hX⟩:∃X:Nat,numI D (xs.getD k noL).e.pl n=X:=⟨(numI D (xs.getD k noL).e.pl n).toNat,ω⟩
   have PY:numV D n (xs.getD k noL).e.pl=(X:Int):=by unfold numV;rw[if_pos u.ok,hX]
   have aA:X<PN:=by have:=I.o;omega
   have f:∀w',Bl wr w'->_:=fun w' P1=>jX A0 cap n D A C (xs.getD k noL).A (xs.getD k noL).c (xs.getD k noL).e.pl w' (HM.o.later (ad H.o P1)) (P0.later P1)
   rw[PY,u.ok,errV_zero]at f;have a:=aa f;have t:=fun w'=>jk (xs.getD k noL).e.n w'
   rw[uG ω ω]at t
   rw[hX,show((X:Int)).toNat=X by omega]at l
   have W:Hid _:=l;obtain⟨LL,p⟩:=ar (((lE xs).take k).foldl (dN D n) (List.replicate PN (0,0)));have Z:LL.length=PN:=by rw[←p,vt];simp
   have ag:Hid (cB wr w2.heap.size LL):=by rw[←p];exact HC.o
   have V:Hid (((lE xs).take (k+1)).foldl (dN D n) (List.replicate PN (0,0))=LL.set X (1,(xs.getD k noL).e.n)):=by
    show _=_
    rw[←p];exact W.o
   have z:Hid (rX wr w.heap.size (.slice A0 n cap)):=za G.o ω HG.o
   have PU:X<LL.length:=ω;have Y:=aa PU;generalize (xs.getD k noL).A=A1 at c1 a;generalize (xs.getD k noL).c=k1 at c1 a;generalize (xs.getD k noL).e.n=num at c2 hnn t V;generalize (xs.getD k noL).e.pl.length=m1 at c1 a;have aD:=z.o.2;have aC:(X:Int)<(PN:Int):=ω;obtain⟨y,hy⟩:=ar (wr.alloc (.cells #[.slice A1 m1 k1,.int .i64 num] 45));have M:Bl wr y:=by rw[←hy];go_grown
   have U:=aa M;have J:Hid (y.heap[wr.heap.size]?=some (.cells #[.slice A1 m1 k1,.int .i64 num] 45 (0,0))):=by show _=_;rw[←hy];exact heap_alloc_new ..
   obtain⟨p0,p1,-,-⟩:=ff J.o;have aw:=(z.o.later M).2;clear b hA B u E P0 l f PY p Z hX aq au M PU W;go_wp2_with fail;refine(a.o _ U.o).mono ?_;rintro e w5⟨rfl,P⟩;have ae:=aa P;have av:wr.heap.size<y.heap.size:=(zY J.o).1;have PT:w5.heap[wr.heap.size]?=some (.cells #[.slice A1 m1 k1,.int .i64 num] 45 (0,0)):=(P.block _ av).trans J.o;obtain⟨-,s1,-,-⟩:=ff PT;clear P PT p0 p1 aw;go_wp2_with fail;refine(t _).mono ?_;rintro e w6⟨rfl,PV⟩;have K:Bl wr w6:=ad (ad U.o ae.o) PV;have i:=aa (ag.o.later K);obtain⟨g1,g2⟩:=i.o.at Y.o;have g3:=i.o.frozen (X*2);have g4:=i.o.frozen (X*2+1);have af:Hid (cB ((w6.setCell ⟨w2.heap.size,X*2,none⟩ (.int .i64 1)).setCell ⟨w2.heap.size,X*2+1,none⟩ (.int .i64 num)) w2.heap.size (((lE xs).take (k+1)).foldl (dN D n) (List.replicate PN (0,0)))):=by show cB _ _ _;rw[V.o];exact i.o.set Y.o 1 num
   have aj:Hid (v2.grownBy ((w6.setCell ⟨w2.heap.size,X*2,none⟩ (.int .i64 1)).setCell ⟨w2.heap.size,X*2+1,none⟩ (.int .i64 num)) (some w2.heap.size)):=Ef (k8 HG.o K);clear PV K t s1;go_wp2_with fail
   go_roundg (N-(k+1))
   case measure=>omega
   case rel=>exact⟨k+1,ω,rfl,by go_num,af,aj⟩
  have am:k=N:=ω;subst am;have HV:Hid (cB wr w2.heap.size (wrV D n (lE xs))):=by rw[←ak.o];exact HC.o
  clear b;go_wp2_with fail
  go_ret2
  exact⟨⟨w2.heap.size,by rw[I.o];rfl,S.o.size,HV.o⟩,H.o⟩
theorem mZ{D:Nat->Dm}{n:Nat}{l:List En}(h:Ens D n l)(p:List Int):dq (getE l p):=by
 unfold getE
 split
 ·exact ki
 rename_i e r he
 split
 ·exact ki
 have a:e∈l:=List.mem_of_mem_drop (i:=cntE l p) (by rw[he];exact List.mem_cons_self ..)
 exact EV (h.each e a).2.2
theorem OO{D:Nat->Dm}{n:Nat}{l:List En}(h:Ens D n l){j:Nat}(a:j<prodN D n):(wrV D n l).getD j noC=getE l (ah D n j):=by
 rw[N9 h]
 simp[OI,List.getD,a]
theorem Mu{p:Nat->Bool}{N m:Nat}(a:m<N):(m:Int)∈selTo p N↔p m=true :=
 ⟨fun h=>by obtain⟨j,c,-,b⟩:=dy _ h;have e:m=j:= ω;rw[e];exact b,fun h=>ks a h⟩
def OX:Mem:=⟨⟨#[98]⟩,-1,0,⟨#[]⟩⟩
def OY:Mem:=⟨⟨#[99]⟩,0,1,⟨#[]⟩⟩
def ndmM(i:Nat):Mem:=if i=0 then OX else OY
def Fl:Dm:=⟨⟨#[97]⟩,0,2,ndmM⟩
def uy:Nat->Dm:=fun _=>Fl
theorem LP:am Fl=(-1,0):=by decide+kernel
theorem LR:∀j:Fin 2,mErr Fl j=0:=by decide+kernel
theorem ND:jz Fl=[[1],[]]:=by decide+kernel
theorem LQ:bB Fl=(-1,0):=O5 (by rw[LP]) (fun j a=>LR ⟨j,a⟩) fun j _=>by rw[ND,←Jg];exact Jc j
theorem LO:(ag uy 1).2.2=0:=by decide+kernel
theorem NE:(au uy 1).2.2=0:=Ms LO fun i _=>by show(bB Fl).2=0;rw[LQ]
theorem xB:prodN uy 1=2:=by decide+kernel
structure DrV(q:Nat)(S:RdQ)(A:Nat->Option Addr)(C:Nat->Nat)(vd vc:Value)(w:World):Prop where
 box:w.heap[q]?=some (.cells #[vd,vc] 106 (0,0))
 dm:DmV w (q+1) vd A C S.dims
 cells:w.ownsRow (q+1) 167 3 vc S.pl.length (cellsDW S S.pl.length)
 num:S.num.length=S.pl.length
theorem DrV.lt{q:Nat}{S:RdQ}{A:Nat->Option Addr}{C:Nat->Nat}{vd vc:Value}{w:World}(h:DrV q S A C vd vc w):q<w.heap.size:=(zY h.box).1
theorem DrV.later{q:Nat}{S:RdQ}{A:Nat->Option Addr}{C:Nat->Nat}{vd vc:Value}{w w':World}(h:DrV q S A C vd vc w)(a:Bl w w'):DrV q S A C vd vc w' :=
 ⟨(a.block q h.lt).trans h.box,h.dm.later a,ak h.cells a,h.num⟩
theorem G0{w:World}{q T:Nat}{a b v:Value}(h:w.heap[q]?=some (.cells #[a,b] T (0,0))):(w.setCell ⟨q,0,none⟩ v).heap[q]?=some (.cells #[v,b] T (0,0)):=by simp[World.setCell,Array.getElem?_modify,h]
theorem G1{w:World}{q T:Nat}{a b v:Value}(h:w.heap[q]?=some (.cells #[a,b] T (0,0))):(w.setCell ⟨q,1,none⟩ v).heap[q]?=some (.cells #[a,v] T (0,0)):=by simp[World.setCell,Array.getElem?_modify,h]
theorem DrV.dim{q:Nat}{S:RdQ}{A:Nat->Option Addr}{C:Nat->Nat}{vd vc v':Value}{w wa w1:World}{nm:ByteArray}{sv:Int}(h:DrV q S A C vd vc w)(l:Bl w wa)
  (d:w1.ownsRow (q+1) 67 3 v' (S.dims.length+1) (cellsDo (b7 S.dims) A C S.dims.length++[.string nm,.int .i64 sv,.slice none 0 0])) (c:wa.grownBy w1 vd.ownBlock):
  DrV q ⟨S.dims++[⟨nm,sv,[]⟩],S.pl,S.num,S.first⟩ (fun j=>if j<S.dims.length then A j else none) (fun j=>if j<S.dims.length then C j else 0) v' vc (w1.setCell ⟨q,0,none⟩ v')/\Below q w (w1.setCell ⟨q,0,none⟩ v'):=by
 have y:=h.lt;have a:∀(b:Nat) (cs:Array Value) (fr:Nat×Nat) (t:Nat),w.heap[b]?=some (Obj.cells cs t fr)->t≠67->w1.heap[b]?=w.heap[b]?:=fun b cs fr t f u=>by
  have i:=(zY f).1;exact(c.block b (zW i l.size) fun e=>eC h.dm.dims f u e.symm).trans (l.block b i)
 have g:=(a q _ _ _ h.box (by decide)).trans h.box
 have p:v'.ownBlock≠some q:=fun e=>by have:=(d.lt q e).1;omega
 refine⟨⟨G0 g,h.dm.push (fun b cs fr x f=>?_) (dx d p),?_,h.num⟩,?_⟩
 ·rw[ae _ _ _ _ _ ω]
  exact a b cs fr _ f (by decide)
 ·have e:cellsDW ⟨S.dims++[⟨nm,sv,[]⟩],S.pl,S.num,S.first⟩ S.pl.length=cellsDW S S.pl.length:=ke (S:=⟨S.dims++[⟨nm,sv,[]⟩],S.pl,S.num,S.first⟩) (S':=S) rfl _ fun _ _=>⟨rfl,rfl⟩
  show World.ownsRow _ _ _ _ _ S.pl.length (cellsDW ⟨S.dims++[⟨nm,sv,[]⟩],S.pl,S.num,S.first⟩ S.pl.length)
  rw[e];refine fQ h.cells fun b f=>?_
  obtain⟨v,-,m,r⟩:=aO h.cells f;rw[ae _ _ _ _ _ ω]
  exact a b m _ _ r (by decide)
 have n:Below q w wa:=l.mono ω
 have o:Below q w w1:=n.grown c (by have:=l.size;omega) fun k s=>by have:=(h.dm.dims.lt k s).1;omega
 exact o.setCell zT _
theorem infoDimP:(prog.info? 67).map (fun i=>(i.zero,i.size,i.bytes))=some (some (.agg #[.string ⟨#[]⟩,.int .i64 0,.slice none 0 0]),3,48):=by kernel_rfl
theorem Gh(q:Nat)(S:RdQ)(A:Nat->Option Addr)(C:Nat->Nat)(vd vc:Value)(nm sv:ByteArray)(w:World)(h:DrV q S A C vd vc w)(hE:iv w)(hn:S.dims.length<=1048577)(P:nm.size<=1048576)(G:sv.size<=1048576):
  Calls prog 128 #[.pointer (some ⟨q,0,none⟩),.string nm,.string sv] w fun e w'=>e=.returned (.bool (cntB sv&&nmW nm&&decide (S.pl.length=0)))/\Below q w w'/\(cntB sv=true/\nmW nm=true/\S.pl.length=0->∃A' C' vd' vc',DrV q ⟨S.dims++[⟨nm,intI sv,[]⟩],S.pl,S.num,S.first⟩ A' C' vd' vc' w'):=by
 have c:=rF sv w hE G;have f:=fun w=>tL nm w P
 have m:=h.lt;obtain⟨i0,k,U,V,W⟩:=info_parts infoDimP;obtain⟨Ad,cd,T⟩:=cV h.dm.dims;obtain⟨Ac,Y,R⟩:=cV h.cells;subst T R;have HV:=aa h;have c0:w.cell? ⟨q,0,none⟩=some (.slice Ad S.dims.length cd):=(Lib.cell_of_heap h.box 0).trans rfl;have c1:w.cell? ⟨q,1,none⟩=some (.slice Ac S.pl.length Y):=(Lib.cell_of_heap h.box 1).trans rfl;have Z:w.frozen? ⟨q,0,none⟩=false:=Lib.frozen_of_heap h.box 0;have r:Hid (∀w',Bl w w'->w'.cell? ⟨q,0,none⟩=some (.slice Ad S.dims.length cd)/\w'.frozen? ⟨q,0,none⟩=false/\w'.cell? ⟨q,1,none⟩=some (.slice Ac S.pl.length Y)):=fun w' o=>⟨aM o m c0,(o.frozen (p:=⟨q,0,none⟩) m).trans Z,aM o m c1⟩
 clear c0 c1 Z h hE G;have H:Hid (∀w',Bl w w'->Below q w w'):=fun w' o=>o.mono ω
 cases hc:cntB sv with
 |false =>
  rw[hc]at c;simp only[Bool.false_and];generalize cntI sv=x at c;clear f hc r HV k
  go_enter func128,ntmps128
  go_wp2_with fail;refine c.mono ?_;rintro e w1⟨rfl,d⟩;go_wp2_with fail;go_ret;exact⟨rfl,H.o _ d,fun h=>absurd h.1 (by decide)⟩
 |true =>
  rw[hc]at c;have hx:cntI sv=intI sv:=by unfold cntI;rw[if_pos hc]
  rw[hx]at c;generalize intI sv=x at c;clear hx hc;cases hw:nmW nm with
  |false =>
   simp only[hw]at f;simp only[Bool.and_false,Bool.false_and];clear r HV k hw
   go_enter func128,ntmps128
   go_wp2_with fail;refine c.mono ?_;rintro e w1⟨rfl,d⟩;go_wp2_with fail;refine(f _).mono ?_;rintro e w2⟨rfl,i⟩;have b:=H.o _ (ad d i);go_wp2_with fail;go_ret;exact⟨rfl,b,fun h=>absurd h.2.1 (by decide)⟩
  |true =>
   simp only[hw]at f;simp only[Bool.true_and];clear hw
   by_cases B:S.pl.length=0
   ·rw[decide_eq_true B]
    have M:=aa B;have y:((S.pl.length:Nat):Int)=0:=ω;obtain⟨pl,F⟩:=ar S.pl.length;rw[F]at r y;obtain⟨n,l⟩:=ar S.dims.length;have J:=aa l;rw[l]at r hn;have j:=HV.o.dm.dims;rw[l]at j;have K:=aa j;obtain⟨XS,v⟩:=ar (cellsDo (b7 S.dims) A C n);have N:=aa v;rw[v]at K;have I:Hid (∀w',Rt 48 #[.string nm] w' (.string nm)):=fun w'=>d5 nm w' ω
    have D:Hid (some q≠(Value.slice Ad n cd).ownBlock):=fun e=>by have:=(K.o.lt _ e.symm).1;omega
    clear j B F v l
    go_enter func128,ntmps128
    go_wp2_with fail;refine c.mono ?_;rintro e w1⟨rfl,d⟩;go_wp2_with fail;refine(f _).mono ?_;rintro e w2⟨rfl,i⟩;have b:=aa (ad d i);obtain⟨x1,x2,x3⟩:=r.o _ b.o;have z:q<w2.heap.size:=zW m b.o.size;have s:Hid (∀w',Bl w2 w'->w'.cell? ⟨q,0,none⟩=some (.slice Ad n cd)/\w'.frozen? ⟨q,0,none⟩=false):=fun w' o=>⟨aM o z x1,(o.frozen (p:=⟨q,0,none⟩) z).trans x2⟩
    have L:=aa (ak K.o b.o);clear d i c f;go_wp2_with fail
    go_region_law ((first
     |(refine step_append_lies _ (by rfl) _ _ _ (by rfl) (q+1) 67 i0 _ 3 48 underlying22 k U V W rfl ω (.slice Ad n cd) n XS (by rfl) (nw L.o γ) ⟨w4.heap.size,0,none⟩ 1 1 [.string nm,.int .i64 x,.slice none 0 0] (by rfl) (by rfl) (World.news_of_block (cs:=#[.string nm,.int .i64 x,.slice none 0 0]) (t:=67) (fr:=(0,0)) (heap_alloc_new w4 _)) (by simp[Value.oneCell']) ω (by unfold maxLen;omega) ω (by simp;omega) (w4.heap.size+1) σ ?_;intro gg cg w6 g a ac ab;have y1:=(a.cell_far ⟨q,0,none⟩ (by simp;omega) D.o).trans (s.o _ γ).1;have y2:=(a.frozen_far ⟨q,0,none⟩ (by simp;omega) D.o).trans (s.o _ γ).2)
     |(go_simp;refine(I.o _).mono ?_;rintro e w4⟨rfl,E⟩;have u:=ad (W0:=w2) γ E;have Q:=u.size;obtain⟨z1,z2⟩:=s.o _ u;have ae:q<w4.heap.size:=zW z Q;clear E)))
    all_goals rw[←N.o,←J.o]at g
    all_goals rw[←J.o]at a
    all_goals (have O:=DrV.dim (HV.o.later b.o) γ g a)
    all_goals rw[J.o]at O
    all_goals (have X:=aa O)
    all_goals clear g a O u
    all_goals go_wp2_with fail
    all_goals go_ret
    all_goals exact⟨rfl,(H.o _ b.o).trans X.o.2,fun _=>⟨_,_,_,_,X.o.1⟩⟩
   rw[decide_eq_false B];have y:0<((S.pl.length:Nat):Int):=ω;have M:=aa B;generalize S.pl.length=pl at r y M;clear HV k B
   go_enter func128,ntmps128
   go_wp2_with fail;refine c.mono ?_;rintro e w1⟨rfl,d⟩;go_wp2_with fail;refine(f _).mono ?_;rintro e w2⟨rfl,i⟩;have b:=aa (ad d i);obtain⟨x1,x2,x3⟩:=r.o _ b.o;go_wp2_with fail;go_ret;exact⟨rfl,H.o _ b.o,fun h=>absurd h.2.2 M.o⟩
def KU(S:RdQ)(p:ByteArray)(x:Int)(i:Nat):RdQ:=⟨S.dims,S.pl++[p],S.num++[x],if S.pl.length=0 then i else S.first⟩
theorem DrV.cell{q:Nat}{S:RdQ}{A:Nat->Option Addr}{C:Nat->Nat}{vd vc v':Value}{w wa w1:World}{p:ByteArray}{x:Int}{i:Nat}(h:DrV q S A C vd vc w)(s:S.pl.length=0\/S.first+S.pl.length=i)(j:Bl w wa)
  (d:w1.ownsRow (q+1) 167 3 v' (S.pl.length+1) (cellsDW S S.pl.length++[.int .i64 (i:Int),.string p,.int .i64 x])) (a:wa.grownBy w1 vc.ownBlock):
  DrV q (KU S p x i) A C vd v' (w1.setCell ⟨q,1,none⟩ v')/\Below q w (w1.setCell ⟨q,1,none⟩ v'):=by
 have z:=h.lt;have c:∀(b:Nat) (cs:Array Value) (fr:Nat×Nat) (t:Nat),w.heap[b]?=some (Obj.cells cs t fr)->t≠167->w1.heap[b]?=w.heap[b]?:=fun b cs fr t l o=>by
  have g:=(zY l).1;exact(a.block b (zW g j.size) fun e=>eC h.cells l o e.symm).trans (j.block b g)
 have f:=(c q _ _ _ h.box (by decide)).trans h.box
 have r:v'.ownBlock≠some q:=fun e=>by have:=(d.lt q e).1;omega
 have v:(S.pl++[p]).length=S.pl.length+1:=by simp
 refine⟨⟨G1 f,h.dm.keep fun b cs fr t y l o=>?_,?_,by show(S.num++[x]).length=(S.pl++[p]).length;simp[h.num]⟩,?_⟩
 ·rw[ae _ _ _ _ _ ω]
  exact c b cs fr _ l (by rcases o with rfl|rfl<;>decide)
 ·show World.ownsRow _ _ _ _ _ (S.pl++[p]).length (cellsDW ⟨S.dims,S.pl++[p],S.num++[x],if S.pl.length=0 then i else S.first⟩ (S.pl++[p]).length)
  rw[v,vZ h.num s];exact dx d r
 have m:Below q w wa:=j.mono ω
 have n:Below q w w1:=m.grown a (by have:=j.size;omega) fun k u=>by have:=(h.cells.lt k u).1;omega
 exact n.setCell zT _
theorem infoWrP:(prog.info? 167).map (fun i=>(i.zero,i.size,i.bytes))=some (some (.agg #[.int .i64 0,.string ⟨#[]⟩,.int .i64 0]),3,32):=by kernel_rfl
theorem Cx(q:Nat)(S:RdQ)(A:Nat->Option Addr)(C:Nat->Nat)(vd vc:Value)(p sv:ByteArray)(i:Nat)(w:World)(h:DrV q S A C vd vc w)(L:iv w)(E:S.pl.length=0\/S.first+S.pl.length=i)(Z:S.pl.length<=1048577)(V:p.size<=1048576)(z:sv.size<=1048576):
  Calls prog 130 #[.pointer (some ⟨q,0,none⟩),.string p,.string sv,.int .i64 i] w fun e w'=>e=.returned (.bool (f8 sv&&(piecesC 46 p).all nmW))/\Below q w w'/\(f8 sv=true/\(piecesC 46 p).all nmW=true->∃A' C' vd' vc',DrV q (KU S p (intI sv) i) A' C' vd' vc' w'):=by
 have d:=yL sv w L z;have g:∀w',Bl w w'->Rt 178 #[.string p] w' (.bool ((piecesC 46 p).all nmW)):=fun w' t=>Cu p w' (L.later t) V
 have s:=h.lt;obtain⟨i0,r,P,Q,R⟩:=info_parts infoWrP;obtain⟨Ac,K,O⟩:=cV h.cells;subst O;have HV:=aa h;have c1:w.cell? ⟨q,1,none⟩=some (.slice Ac S.pl.length K):=(Lib.cell_of_heap h.box 1).trans rfl;have U:w.frozen? ⟨q,1,none⟩=false:=Lib.frozen_of_heap h.box 1;have B:Hid (∀w',Bl w w'->w'.cell? ⟨q,1,none⟩=some (.slice Ac S.pl.length K)/\w'.frozen? ⟨q,1,none⟩=false):=fun w' t=>⟨aM t s c1,(t.frozen (p:=⟨q,1,none⟩) s).trans U⟩
 clear c1 U h L z V;have I:Hid (∀w',Bl w w'->Below q w w'):=fun w' t=>t.mono ω
 cases hc:f8 sv with
 |false =>
  rw[hc]at d;simp only[Bool.false_and];generalize intI sv=x at d;clear g hc B HV r E
  go_enter func130,ntmps130
  go_wp2_with fail;refine d.mono ?_;rintro e w1⟨rfl,c⟩;go_wp2_with fail;go_ret;exact⟨rfl,I.o _ c,fun h=>absurd h.1 (by decide)⟩
 |true =>
  rw[hc]at d;generalize intI sv=x at d;clear hc;cases hw:(piecesC 46 p).all nmW with
  |false =>
   simp only[hw]at g;simp only[Bool.and_false];clear B HV r hw E
   go_enter func130,ntmps130
   go_wp2_with fail;refine d.mono ?_;rintro e w1⟨rfl,c⟩;have D:=g w1 c;go_wp2_with fail;refine D.mono ?_;rintro e w2⟨rfl,l⟩;have f:=I.o _ (ad c l);go_wp2_with fail;go_ret;exact⟨rfl,f,fun h=>absurd h.2 (by decide)⟩
  |true =>
   simp only[hw]at g;simp only[Bool.true_and];have X:=aa E;clear hw E;obtain⟨n,m⟩:=ar S.pl.length;have F:=aa m;rw[m]at B Z;have k:=HV.o.cells;rw[m]at k;have G:=aa k;obtain⟨XS,o⟩:=ar (cellsDW S n);have J:=aa o;rw[o]at G;have v:Hid (some q≠(Value.slice Ac n K).ownBlock):=fun e=>by have:=(G.o.lt _ e.symm).1;omega
   clear k o m
   go_enter func130,ntmps130
   go_wp2_with fail;refine d.mono ?_;rintro e w1⟨rfl,c⟩;have D:=g w1 c;go_wp2_with fail;refine D.mono ?_;rintro e w2⟨rfl,l⟩;have f:=aa (ad c l);obtain⟨x1,x2⟩:=B.o _ f.o;have N:q<w2.heap.size:=zW s f.o.size;have H:=aa (ak G.o f.o);clear c l d g D
   go_wp2_with (at_builtin;refine wpList_append_own _ rfl _ _ 104 rfl (q+1) 167 i0 (.agg #[.int .i64 0,.string ⟨#[]⟩,.int .i64 0]) 3 32 underlying104 r P Q R rfl (by decide) _ _ _ rfl (H.o.alloc _) ⟨w2.heap.size,0,none⟩ 1 1 [.int .i64 i,.string p,.int .i64 x] rfl rfl ?qe2 ?qe3 ?qe4 ?qe5 ?qe6 ?_)
   case qe2 =>
    intro j u Y;rw[rc,Lib.cell_of_heap (heap_alloc_new w2 (.cells #[.int .i64 i,.string p,.int .i64 x] 167))]
    simpa using Y
   case qe3=>intro u W;simp at W;rcases W with rfl|rfl|rfl<;>rfl
   case qe4=>simp only[maxLen];omega
   case qe5=>omega
   case qe6=>simp;omega
   intro v' w8 b a y;obtain⟨A8,c8,rfl⟩:=cV b;have y1:=(a.cell_far ⟨q,1,none⟩ (by simp;omega) v.o).trans ((nY x1 γ))
   have y2:w8.frozen? ⟨q,1,none⟩=false:=(a.frozen_far ⟨q,1,none⟩ (by simp;omega) v.o).trans ((Below.frozen (p:=⟨q,1,none⟩) γ N).trans x2)
   rw[←J.o,←F.o]at b;rw[←F.o]at a;have M:=DrV.cell (HV.o.later f.o) X.o γ b a
   rw[F.o]at M;have T:=aa M;clear b a M y;go_wp2_with fail;go_ret;exact⟨rfl,(I.o _ f.o).trans T.o.2,fun _=>⟨_,_,_,_,T.o.1⟩⟩
def kH(S:RdQ)(m:Mem):RdQ:=⟨jF S.dims m,S.pl,S.num,S.first⟩
theorem DrV.mem{q gd cd g o:Nat}{S:RdQ}{A:Nat->Option Addr}{C:Nat->Nat}{vc:Value}{w wa w1:World}{m:Mem}(h:DrV q S A C (.slice (some ⟨gd,0,none⟩) S.dims.length cd) vc w)(F:0<S.dims.length)(d:Bl w wa)
  (j:w1.ownsRow (q+1) 64 4 (.slice (some ⟨g,0,none⟩) ((b7 S.dims (S.dims.length-1)).n+1) o) ((b7 S.dims (S.dims.length-1)).n+1) (cellsMb (b7 S.dims (S.dims.length-1)).mem (b7 S.dims (S.dims.length-1)).n++[.string m.name,.int .i64 m.parent,.int .i64 m.sign,.string m.formula]))
  (a:wa.grownBy w1 (Value.slice (A (S.dims.length-1)) (b7 S.dims (S.dims.length-1)).n (C (S.dims.length-1))).ownBlock) (s:(Value.slice (A (S.dims.length-1)) (b7 S.dims (S.dims.length-1)).n (C (S.dims.length-1))).ownBlock=some g\/wa.heap.size<=g):
  (∃A' C',DrV q (kH S m) A' C' (.slice (some ⟨gd,0,none⟩) S.dims.length cd) vc (w1.setCell ⟨gd,(S.dims.length-1)*3+2,none⟩ (.slice (some ⟨g,0,none⟩) ((b7 S.dims (S.dims.length-1)).n+1) o)))/\Below q w (w1.setCell ⟨gd,(S.dims.length-1)*3+2,none⟩ (.slice (some ⟨g,0,none⟩) ((b7 S.dims (S.dims.length-1)).n+1) o)):=by
 have H:=h.lt;obtain⟨z,B,x,f⟩:=aO h.dm.dims (b:=gd) rfl;have D:S.dims.length-1<S.dims.length:=ω;have c:∀(b:Nat) (cs:Array Value) (fr:Nat×Nat) (t:Nat),w.heap[b]?=some (Obj.cells cs t fr)->t≠64->w1.heap[b]?=w.heap[b]?:=fun b cs fr t l G=>by
  have i:=(zY l).1;exact(a.block b (zW i d.size) fun e=>eC (h.dm.mems _ D) l G e.symm).trans (d.block b i)
 have y:=h.dm.more F d j a s;refine⟨⟨_,_,⟨?_,y,?_,h.num⟩⟩,?_⟩
 ·rw[ae _ _ _ _ _ ω]
  exact(c q _ _ _ h.box (by decide)).trans h.box
 ·have e:cellsDW (kH S m) S.pl.length=cellsDW S S.pl.length:=ke (S:=kH S m) (S':=S) rfl _ fun _ _=>⟨rfl,rfl⟩
  show World.ownsRow _ _ _ _ _ S.pl.length (cellsDW (kH S m) S.pl.length)
  rw[e];refine fQ h.cells fun b l=>?_
  obtain⟨y,-,p,r⟩:=aO h.cells l;rw[ae _ _ _ _ _ fun e=>by
   subst e;rw[f]at r;exact absurd (Obj.cells.inj (Option.some.inj r)).2.1 (by decide)]
  exact c b p _ _ r (by decide)
 have u:Below q w wa:=d.mono ω
 have v:Below q w w1:=u.grown a (by have:=d.size;omega) fun k E=>by have:=((h.dm.mems _ D).lt k E).1;omega
 exact v.setCell (by show q<=gd;omega) _
theorem DrV.memL{q gd cd g c l k cm:Nat}{S:RdQ}{A:Nat->Option Addr}{C:Nat->Nat}{vc:Value}{w wa w1:World}{nm d:ByteArray}{x sg:Int}{XS:List Value}{Am:Option Addr}(h:DrV q S A C (.slice (some ⟨gd,0,none⟩) S.dims.length cd) vc w)(u:S.dims.length=l+1)(t:(b7 S.dims l).n=k)(r:cellsMb (b7 S.dims l).mem k=XS)(o:A l=Am)(p:C l=cm)(s:Bl w wa)
  (b:w1.ownsRow (q+1) 64 4 (.slice (some ⟨g,0,none⟩) (k+1) c) (k+1) (XS++[.string nm,.int .i64 x,.int .i64 sg,.string d]))
  (a:wa.grownBy w1 (Value.slice Am k cm).ownBlock) (f:(Value.slice Am k cm).ownBlock=some g\/wa.heap.size<=g):
  (∃A' C' vd',DrV q (kH S ⟨nm,x,sg,d⟩) A' C' vd' vc (w1.setCell ⟨gd,l*3+2,none⟩ (.slice (some ⟨g,0,none⟩) (k+1) c)))/\Below q w (w1.setCell ⟨gd,l*3+2,none⟩ (.slice (some ⟨g,0,none⟩) (k+1) c)):=by
 have e:S.dims.length-1=l:=ω;subst e t r o p;obtain⟨⟨A',C',i⟩,j⟩:=DrV.mem (m:=⟨nm,x,sg,d⟩) h ω s b a f
 exact⟨⟨A',C',_,i⟩,j⟩
theorem infoMemP:(prog.info? 64).map (fun i=>(i.zero,i.size,i.bytes))=some (some (.agg #[.string ⟨#[]⟩,.int .i64 0,.int .i64 0,.string ⟨#[]⟩]),4,48):=by kernel_rfl
theorem Cy(q:Nat)(S:RdQ)(A:Nat->Option Addr)(C:Nat->Nat)(vd vc:Value)(nm pa tl:ByteArray)(x:Int)(w:World)(h:DrV q S A C vd vc w)(hn:S.dims.length<=1048577)(hm:(b7 S.dims (S.dims.length-1)).n<=1048577)(aw:nm.size<=1048576)(ae:(foS tl).size<=1048576)
  (h1:Rt 175 #[.string pa] w (.tuple #[.int .i64 x,.bool true]))
  (h2:∀w,Rt 176 #[.string tl] w (.tuple #[.int .i64 (sgI tl),.string (foS tl),.bool true]))
  (h3:∀w,Rt 174 #[.string nm] w (.bool true)) (hd:0<S.dims.length) (hp:S.pl.length=0):
  Calls prog 129 #[.pointer (some ⟨q,0,none⟩),.string nm,.string pa,.string tl] w fun e w'=>e=.returned (.bool true)/\Below q w w'/\∃A' C' ab vc',DrV q (kH S ⟨nm,x,sgI tl,foS tl⟩) A' C' ab vc' w':=by
 have G:=h.lt;obtain⟨i0,af,an,ao,ap⟩:=info_parts infoMemP;obtain⟨gd,cd,am,O,g⟩:=h.dm.dims.form hd;obtain⟨Ac,cc,al⟩:=cV h.cells;subst am al;have HV:=aa h;obtain⟨l,hl⟩:∃l,S.dims.length=l+1:=⟨S.dims.length-1,ω⟩
 have R:S.dims.length-1=l:=ω;have HL:=aa hl;have r:=h.dm.dims;have o:=(du (b7 S.dims) A C S.dims.length l ω).2.2
 have T:=r.cellAt (l*3+2) ω
 rw[o]at T;have k3:=r.frozenAt (l*3+2);have c0:w.cell? ⟨q,0,none⟩=some (.slice (some ⟨gd,0,none⟩) S.dims.length cd):=(Lib.cell_of_heap h.box 0).trans rfl;have c1:w.cell? ⟨q,1,none⟩=some (.slice Ac S.pl.length cc):=(Lib.cell_of_heap h.box 1).trans rfl;rw[hl]at c0;have d:=h.dm.mems l ω
 rw[R]at hm;obtain⟨m,F⟩:=ar ((b7 S.dims l).n);obtain⟨XS,D⟩:=ar (cellsMb (b7 S.dims l).mem m);rw[F]at T d hm;rw[D]at d;have HM:=aa F;have HX:=aa D;obtain⟨Am,z⟩:=ar (A l);obtain⟨cm,E⟩:=ar (C l);rw[z,E]at T d;have HA:=aa z;have Y:=aa E;have Q:=g;have I:Hid (∀w',Bl w w'->w'.cell? ⟨q,0,none⟩=some (.slice (some ⟨gd,0,none⟩) (l+1) cd)/\w'.cell? ⟨q,1,none⟩=some (.slice Ac S.pl.length cc)/\w'.cell? ⟨gd,l*3+2,none⟩=some (.slice Am m cm)/\w'.frozen? ⟨gd,l*3+2,none⟩=false):=fun w' j=>⟨aM j G c0,aM j G c1,aM j g T,(j.frozen (p:=⟨gd,l*3+2,none⟩) g).trans k3⟩
 have HO:=aa d;have J:Hid (some gd≠(Value.slice Am m cm).ownBlock):=fun e=>by
  obtain⟨-,-,ac,P⟩:=aO r (b:=gd) rfl;exact eC d P (by decide) e.symm
 have aq:(l:Int)<=1048577:=ω;have av:(m:Int)<=1048577:=ω;have ah:((S.pl.length:Nat):Int)=0:=ω;generalize S.pl.length=pl at I ah;generalize sgI tl=sg at h2;generalize foS tl=fo at h2 ae;have X:Hid (∀s:ByteArray,s=nm\/s=fo->∀w',Rt 48 #[.string s] w' (.string s)):=fun s hs w'=>d5 s w' (by rcases hs with rfl|rfl<;>omega)
 clear c0 c1 T k3 d o r h hd hp hl R F D z E hn O
 go_enter func129,ntmps129
 go_wp2_with fail;refine h1.mono ?_;rintro e w1⟨rfl,K⟩;go_wp2_with fail;refine(h2 _).mono ?_;rintro e w2⟨rfl,L⟩;have W:=aa (ad K L);clear K L;go_wp2_with fail;refine(h3 _).mono ?_;rintro e w3⟨rfl,M⟩;have v:=aa (ad W.o M);clear M;obtain⟨x1,x2,x3,x4⟩:=I.o _ v.o;have az:IntKind.i64.wrap (l:Int)=(l:Int):=IntWalk.i64_in _ ω
 have au:(l:Int)<(l:Int)+1:=ω;go_wp2_with fail
 go_quiet (fail)
 have u:gd<w3.heap.size:=zW Q v.o.size;have k:=aa (aj (Below.refl w3.heap.size w3) nq);have H:Hid (∀w',Bl w3 w'->w'.cell? ⟨gd,l*3+2,none⟩=some (.slice Am m cm)/\w'.frozen? ⟨gd,l*3+2,none⟩=false):=fun w' j=>⟨aM j u x3,(j.frozen (p:=⟨gd,l*3+2,none⟩) u).trans x4⟩
 have f:=aa (ad v.o k.o);have U:=H.o _ k.o;have c:gd<(w3.drewN nq).heap.size:=zW u k.o.size;generalize w3.drewN nq=wr at f U c;obtain⟨x5,x6⟩:=U;have y:Hid (∀w',Bl wr w'->w'.cell? ⟨gd,l*3+2,none⟩=some (.slice Am m cm)/\w'.frozen? ⟨gd,l*3+2,none⟩=false):=fun w' j=>⟨aM j c x5,(j.frozen (p:=⟨gd,l*3+2,none⟩) c).trans x6⟩
 have Z:=aa (ak HO.o f.o);have ay:q+1<=wr.heap.size:=zV G f.o.size;clear x1 x2 x3 x4 H k u;go_wp2_with fail
 go_region_law ((first
  |(refine step_append_lies _ (by rfl) _ _ _ (by rfl) (q+1) 64 i0 _ 4 48 underlying65 af an ao ap rfl ω (.slice Am m cm) m XS (by rfl) (nw Z.o γ) ⟨w5.heap.size,0,none⟩ 1 1 [.string nm,.int .i64 x,.int .i64 sg,.string fo] (by rfl) (by rfl) (World.news_of_block (cs:=#[.string nm,.int .i64 x,.int .i64 sg,.string fo]) (t:=64) (fr:=(0,0)) (heap_alloc_new w5 _)) (by simp[Value.oneCell']) ω (by unfold maxLen;omega) ω (by simp;omega) (w5.heap.size+1) σ ?_;intro gg cg w6 i a o ag;have y1:=(a.cell_far ⟨gd,l*3+2,none⟩ (by simp;omega) J.o).trans (y.o _ γ).1;have y2:=(a.frozen_far ⟨gd,l*3+2,none⟩ (by simp;omega) J.o).trans (y.o _ γ).2)
  |(go_simp;refine(X.o _ (by first|exact Or.inl rfl|exact Or.inr rfl) _).mono ?_;rintro e w5⟨rfl,N⟩;have B:=ad (W0:=wr) γ N;have ai:=B.size;obtain⟨z1,z2⟩:=y.o _ B;have ax:gd<w5.heap.size:=zW c ai;clear N)))
 all_goals (have V:=DrV.memL (HV.o.later f.o) HL.o HM.o HX.o HA.o Y.o γ i a (o.imp id (by intro e;simp;omega)))
 all_goals (have HS:=aa V)
 all_goals clear i a V B
 all_goals go_wp2_with fail
 all_goals go_ret
 all_goals (obtain⟨⟨A',C',ab,V⟩,hB⟩:=HS.o)
 all_goals exact⟨rfl,(f.o.mono ω).trans hB,A',C',ab,_,V⟩
def gW(S:RdQ)(nm pa tl:ByteArray):Bool:=paOk pa&&sgOk tl&&nmW nm&&decide (0<S.dims.length)&&decide (S.pl.length=0)
theorem Gi(q:Nat)(S:RdQ)(A:Nat->Option Addr)(C:Nat->Nat)(vd vc:Value)(nm pa tl:ByteArray)(w:World)(h:DrV q S A C vd vc w)(y:iv w)(U:S.dims.length<=1048577)(T:(b7 S.dims (S.dims.length-1)).n<=1048577)(E:nm.size<=1048576)(I:pa.size<=1048576)(J:tl.size<=1048576):
  Calls prog 129 #[.pointer (some ⟨q,0,none⟩),.string nm,.string pa,.string tl] w fun e w'=>e=.returned (.bool (gW S nm pa tl))/\Below q w w'/\(gW S nm pa tl=true->∃A' C' vd' vc',DrV q (kH S ⟨nm,KM pa,sgI tl,foS tl⟩) A' C' vd' vc' w'):=by
 have m:=yO pa w y I;have p:=fun w=>Gf tl w J
 have t:=fun w=>tL nm w E
 have F:=h.lt;have B:Hid (∀w',Bl w w'->Below q w w'):=fun w' r=>r.mono ω
 by_cases j:gW S nm pa tl=true
 ·rw[j]
  have o:=j;unfold gW at o;simp only[Bool.and_eq_true,decide_eq_true_eq]at o;obtain⟨⟨⟨⟨s,u⟩,v⟩,G⟩,M⟩:=o;rw[s,NH s]at m;simp only[u,v]at p t;have H:(foS tl).size<=1048576:=by
   unfold foS
   split
   ·rw[ByteArray.size_extract];omega
   exact zU
  refine(Cy q S A C vd vc nm pa tl (KM pa) w h U T E H m (fun w=>(p w).mono fun e w' ⟨⟨a,f,D,R⟩,r⟩=>⟨by obtain⟨rfl,rfl⟩:=R trivial;exact D,r⟩) t G M).mono fun e w' ⟨D,r,Q⟩=>⟨D,r,fun _=>Q⟩
 have c:gW S nm pa tl=false:=by simpa using j
 rw[c]
 suffices hs:Calls prog 129 #[.pointer (some ⟨q,0,none⟩),.string nm,.string pa,.string tl] w fun e w'=>e=.returned (.bool false)/\Below q w w' from hs.mono fun e w' ⟨D,r⟩=>⟨D,r,fun h=>by cases h⟩
 unfold gW at c;cases s:paOk pa with
 |false =>
  rw[s]at m;generalize parI pa=x at m;generalize sgOk tl=b at p;clear j c h y s t
  go_enter func129,ntmps129
  go_wp2_with fail;refine m.mono ?_;rintro e w1⟨rfl,d⟩;go_wp2_with fail;refine(p _).mono ?_;rintro e w2⟨⟨a,f,rfl,-⟩,g⟩;have i:=B.o _ (ad d g);go_wp2_with fail;go_ret;exact⟨rfl,i⟩
 |true =>
  rw[s]at m c;generalize parI pa=x at m;cases u:sgOk tl with
  |false =>
   simp only[u]at p;clear j c h y s u t
   go_enter func129,ntmps129
   go_wp2_with fail;refine m.mono ?_;rintro e w1⟨rfl,d⟩;go_wp2_with fail;refine(p _).mono ?_;rintro e w2⟨⟨a,f,rfl,-⟩,g⟩;have i:=B.o _ (ad d g);go_wp2_with fail;go_ret;exact⟨rfl,i⟩
  |true =>
   simp only[u]at p c;cases v:nmW nm with
   |false =>
    simp only[v]at t;clear j c h y s u v
    go_enter func129,ntmps129
    go_wp2_with fail;refine m.mono ?_;rintro e w1⟨rfl,d⟩;go_wp2_with fail;refine(p _).mono ?_;rintro e w2⟨⟨a,f,rfl,-⟩,g⟩;have i:=aa (ad d g);clear d g;go_wp2_with fail;refine(t _).mono ?_;rintro e w3⟨rfl,l⟩;have k:=B.o _ (ad i.o l);go_wp2_with fail;go_ret;exact⟨rfl,k⟩
   |true =>
    simp only[v,Bool.true_and,Bool.and_self]at t c;obtain⟨Ad,cd,L⟩:=cV h.dm.dims;obtain⟨Ac,N,K⟩:=cV h.cells;subst L K;have c0:w.cell? ⟨q,0,none⟩=some (.slice Ad S.dims.length cd):=(Lib.cell_of_heap h.box 0).trans rfl;have c1:w.cell? ⟨q,1,none⟩=some (.slice Ac S.pl.length N):=(Lib.cell_of_heap h.box 1).trans rfl;have z:Hid (∀w',Bl w w'->w'.cell? ⟨q,0,none⟩=some (.slice Ad S.dims.length cd)/\w'.cell? ⟨q,1,none⟩=some (.slice Ac S.pl.length N)):=fun w' r=>⟨aM r F c0,aM r F c1⟩
    clear c0 c1
    by_cases G:S.dims.length=0
    ·rw[G]at z
     clear j c h y s u v G
     go_enter func129,ntmps129
     go_wp2_with fail;refine m.mono ?_;rintro e w1⟨rfl,d⟩;go_wp2_with fail;refine(p _).mono ?_;rintro e w2⟨⟨a,f,rfl,-⟩,g⟩;have i:=aa (ad d g);clear d g;go_wp2_with fail;refine(t _).mono ?_;rintro e w3⟨rfl,l⟩;have k:=aa (ad i.o l);obtain⟨X,Y⟩:=z.o _ k.o;clear l;go_wp2_with fail;go_ret;exact⟨rfl,B.o _ k.o⟩
    have M:S.pl.length≠0:=fun e=>by
     have O:decide (0<S.dims.length)=true:=decide_eq_true ω
     have P:decide (S.pl.length=0)=true:=decide_eq_true e;rw[O,P]at c;cases c
    have V:((S.dims.length:Int) == 0)=false:=beq_eq_false_iff_ne.2 ω
    have W:(0:Int)<(S.pl.length:Int):=ω;generalize S.dims.length=dn at z V;generalize S.pl.length=pn at z W;clear j c h y s u v G M
    go_enter func129,ntmps129
    go_wp2_with fail;refine m.mono ?_;rintro e w1⟨rfl,d⟩;go_wp2_with fail;refine(p _).mono ?_;rintro e w2⟨⟨a,f,rfl,-⟩,g⟩;have i:=aa (ad d g);clear d g;go_wp2_with fail;refine(t _).mono ?_;rintro e w3⟨rfl,l⟩;have k:=aa (ad i.o l);obtain⟨X,Y⟩:=z.o _ k.o;clear l;go_wp2_with fail;go_ret;exact⟨rfl,B.o _ k.o⟩
theorem vY{W:List ByteArray}{N k:Nat}(a:k<W.length):(Lib.cellsOf W N)[k]?=some (.string (wdB W k)):=by
 unfold Lib.cellsOf wdB
 simp[List.getElem?_append_left,a,List.getD]
def bR(W:List ByteArray):Nat:=if gG (wdB W 0) [100,105,109]=true/\W.length=3 then 1 else if gG (wdB W 0) [109,101,109]=true/\W.length=4 then 2 else if gG (wdB W 0) [99,101,108,108]=true/\W.length=3 then 3 else 0
theorem IH{P W:List ByteArray}(h:mG P W):bR P=bR W:=by
 obtain⟨d,e,a,b⟩:=h
 by_cases c:P.length<=4
 ·rw[a c]
 have f:=b ω
 unfold bR;rw[if_neg ω,if_neg ω,if_neg ω,if_neg ω,if_neg ω,if_neg ω]
theorem gV{x:ByteArray}{l l':List UInt8}(h:gG x l=true)(b:l≠l'):gG x l'=false:=by
 unfold gG at h|-;have a:x.toList=l:=by simpa using h
 rw[a]
 simpa using b
theorem DF{S:RdQ}{i:Nat}{P:List ByteArray}(h:bR P=0):rdLine S i P=(S,false):=by
 unfold bR at h
 split at h
 ·cases h
 rename_i h1
 split at h
 ·cases h
 rename_i h2
 split at h
 ·cases h
 rename_i h3
 unfold rdLine zu Bd Ha;rw[if_neg,if_neg,if_neg]
 ·simp only[Bool.and_eq_true,decide_eq_true_eq];exact h3
 ·simp only[Bool.and_eq_true,decide_eq_true_eq];exact fun h=>h2 ⟨h.1.1.1,h.1.1.2⟩
 simp only[Bool.and_eq_true,decide_eq_true_eq];exact fun h=>h1 h.1
theorem xg{P:List ByteArray}(h:bR P=1):gG (wdB P 0) [100,105,109]=true/\P.length=3:=by
 unfold bR at h
 split at h
 ·assumption
 split at h
 ·cases h
 split at h<;>cases h
theorem xh{P:List ByteArray}(h:bR P=2):gG (wdB P 0) [109,101,109]=true/\P.length=4:=by
 unfold bR at h
 split at h
 ·cases h
 split at h
 ·assumption
 split at h<;>cases h
theorem xe{P:List ByteArray}(h:bR P=3):gG (wdB P 0) [99,101,108,108]=true/\P.length=3:=by
 unfold bR at h
 split at h
 ·cases h
 split at h
 ·cases h
 split at h
 ·assumption
 cases h
theorem BS{S:RdQ}{i:Nat}{P:List ByteArray}(h:bR P=1):(rdLine S i P).2=(cntB (wdB P 2)&&nmW (wdB P 1)&&decide (S.pl.length=0))/\(S.pl.length=0->(rdLine S i P).1=⟨S.dims++[⟨wdB P 1,intI (wdB P 2),[]⟩],S.pl,S.num,S.first⟩):=by
 obtain⟨b,c⟩:=xg h
 by_cases a:S.pl.length=0
 ·have e:rdLine S i P=(⟨S.dims++[⟨wdB P 1,intI (wdB P 2),[]⟩],S.pl,S.num,S.first⟩,f8 (wdB P 2)&&decide (0<=intI (wdB P 2))&&nmW (wdB P 1)):=by
   unfold rdLine;rw[if_pos (by unfold zu;simp[b,c,a])]
  rw[e];refine⟨?_,fun _=>rfl⟩
  rw[decide_eq_true a,Bool.and_true]
  rfl
 have e:rdLine S i P=(S,false):=by
  unfold rdLine zu Bd Ha;rw[gV b (l':=[109,101,109]) (by decide),gV b (l':=[99,101,108,108]) (by decide),decide_eq_false a]
  simp
 rw[e,decide_eq_false a,Bool.and_false];exact⟨rfl,fun h=>absurd h a⟩
theorem BT{S:RdQ}{i:Nat}{P:List ByteArray}(h:bR P=2):(rdLine S i P).2=gW S (wdB P 1) (wdB P 2) (wdB P 3)/\(gW S (wdB P 1) (wdB P 2) (wdB P 3)=true->(rdLine S i P).1=kH S ⟨wdB P 1,KM (wdB P 2),sgI (wdB P 3),foS (wdB P 3)⟩):=by
 obtain⟨c,g⟩:=xh h;have f:zu S P=false:=by unfold zu;rw[gV c (by decide)];rfl
 by_cases a:S.pl.length=0/\0<S.dims.length
 ·have e:rdLine S i P=(⟨jF S.dims (OC P),S.pl,S.num,S.first⟩,nmW (wdB P 1)&&paOk (wdB P 2)&&sgOk (wdB P 3)):=by
   unfold rdLine;rw[if_neg (by rw[f];decide),if_pos (by unfold Bd;simp[c,g,a.1,a.2])]
  rw[e];refine⟨?_,fun _=>rfl⟩
  unfold gW;rw[decide_eq_true a.1,decide_eq_true a.2];cases nmW (wdB P 1) <;>cases paOk (wdB P 2) <;>cases sgOk (wdB P 3) <;>rfl
 have d:gW S (wdB P 1) (wdB P 2) (wdB P 3)=false:=by
  unfold gW
  by_cases b:S.pl.length=0
  ·rw[decide_eq_false (p:=0<S.dims.length) fun h=>a ⟨b,h⟩]
   simp
  rw[decide_eq_false b,Bool.and_false]
 have e:rdLine S i P=(S,false):=by
  unfold rdLine;rw[if_neg (by rw[f];decide),if_neg,if_neg]
  ·unfold Ha;rw[gV c (by decide)];simp
  unfold Bd;simp only[Bool.and_eq_true,decide_eq_true_eq];exact fun h=>a ⟨h.1.2,h.2⟩
 rw[e,d];exact⟨rfl,fun h=>by cases h⟩
theorem BR{S:RdQ}{i:Nat}{P:List ByteArray}(h:bR P=3):rdLine S i P=(KU S (wdB P 1) (intI (wdB P 2)) i,f8 (wdB P 2)&&(piecesC 46 (wdB P 1)).all nmW):=by
 obtain⟨a,b⟩:=xe h;unfold rdLine zu Bd Ha;rw[gV a (l':=[100,105,109]) (by decide),gV a (l':=[109,101,109]) (by decide),a,decide_eq_true b]
 rfl
end Go.Proofs.YtjfampgnhccodaaGreatDoor
