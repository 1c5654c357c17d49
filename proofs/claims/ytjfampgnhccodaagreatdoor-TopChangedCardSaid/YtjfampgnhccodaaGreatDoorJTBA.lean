/- How all members of a d -/
import Derived.Shelf.Strings.BuilderK
import Derived.Test.YtjfampgnhccodaaGreatDoorJTAV
import Derived.Test.YtjfampgnhccodaaGreatDoorJTAZ
namespace Go.Proofs.YtjfampgnhccodaaGreatDoor
open Tryz ChangeShapes WideShapes ChangeAt RowKit
set_option maxRecDepth 99999
set_option maxHeartbeats 0
def eW(l:List WL):List Value:=l.flatMap jb
theorem v7(l:List WL)(x:WL):eW (l++[x])=eW l++jb x:=by simp[eW]
theorem sN:∀(l:List WL) (k:Nat),k<l.length->(eW l)[k*5]?=some (.bool (l.getD k eS).lf)/\(eW l)[k*5+1]?=some (.slice (l.getD k eS).An (l.getD k eS).nd.length (l.getD k eS).cn)/\(eW l)[k*5+2]?=some (.slice (l.getD k eS).As (l.getD k eS).nm.length (l.getD k eS).cs)/\(eW l)[k*5+3]?=some (.slice (l.getD k eS).Ai (l.getD k eS).ne.length (l.getD k eS).ci)/\(eW l)[k*5+4]?=some (.slice (l.getD k eS).Ag (l.getD k eS).sg.length (l.getD k eS).cg)
 |x :: r,0,_=>⟨rfl,rfl,rfl,rfl,rfl⟩
 |x :: r,k+1,h=>by
  have b:=sN r k (by simpa using h)
  have e:eW (x :: r)=jb x++eW r:=rfl;have a:(jb x).length=5:=rfl;rw[e];refine⟨?_,?_,?_,?_,?_⟩
  ·rw[List.getElem?_append_right ω,a,show(k+1)*5-5=k*5 by omega];exact b.1
  ·rw[List.getElem?_append_right ω,a,show(k+1)*5+1-5=k*5+1 by omega];exact b.2.1
  ·rw[List.getElem?_append_right ω,a,show(k+1)*5+2-5=k*5+2 by omega];exact b.2.2.1
  ·rw[List.getElem?_append_right ω,a,show(k+1)*5+3-5=k*5+3 by omega];exact b.2.2.2.1
  rw[List.getElem?_append_right ω,a,show(k+1)*5+4-5=k*5+4 by omega];exact b.2.2.2.2
def iy(w:World)(A:Option Addr)(cap:Nat)(xs:List WL):Prop:=xs.length<=cap/\(xs=[]\/∃b cs fr,A=some ⟨b,0,none⟩/\w.heap[b]?=some (.cells cs 149 fr)/\∀k,k<xs.length->cs[k*5]?=some (.bool (xs.getD k eS).lf)/\cs[k*5+1]?=some (.slice (xs.getD k eS).An (xs.getD k eS).nd.length (xs.getD k eS).cn)/\cs[k*5+2]?=some (.slice (xs.getD k eS).As (xs.getD k eS).nm.length (xs.getD k eS).cs)/\cs[k*5+3]?=some (.slice (xs.getD k eS).Ai (xs.getD k eS).ne.length (xs.getD k eS).ci)/\cs[k*5+4]?=some (.slice (xs.getD k eS).Ag (xs.getD k eS).sg.length (xs.getD k eS).cg))/\∀x∈xs,ey w x
theorem iy.keepA{w w':World}{A:Option Addr}{cap:Nat}{xs:List WL}(h:iy w A cap xs)(c:kT 133 w w'):iy w' A cap xs:=by
 obtain⟨d,a,e⟩:=h;refine⟨d,?_,fun x f=>(e x f).keepA c⟩
 rcases a with a|⟨b,cs,fr,a,h4,h5⟩
 ·exact Or.inl a
 exact Or.inr ⟨b,cs,fr,a,(c b cs _ fr h4 D8).trans h4,h5⟩
theorem iy.later{w w':World}{A:Option Addr}{cap:Nat}{xs:List WL}(h:iy w A cap xs)(c:Bl w w'):iy w' A cap xs:=by
 obtain⟨d,a,e⟩:=h;refine⟨d,?_,fun x f=>(e x f).later c⟩
 rcases a with a|⟨b,cs,fr,a,h4,h5⟩
 ·exact Or.inl a
 exact Or.inr ⟨b,cs,fr,a,(c.block b (zY h4).1).trans h4,h5⟩
theorem KC{w:World}{base:Nat}{v:Value}{xs:List WL}(h:w.ownsRow base 149 5 v xs.length (eW xs))(b:∀x∈xs,ey w x):∃A c,v=.slice A xs.length c/\iy w A c xs:=by
 rcases h.2 with⟨rfl,l⟩|⟨g,cap,a,rfl,t,p,m,r,s,n⟩
 ·have o:xs=[]:=List.eq_nil_of_length_eq_zero l
  subst o;exact⟨none,0,rfl,by simp,Or.inl rfl,b⟩
 refine⟨_,_,rfl,m,Or.inr ⟨g,a,_,rfl,p,fun k q=>?_⟩,b⟩
 obtain⟨d,e,f,i,j⟩:=sN xs k q;rw[←n,List.getElem?_take,if_pos ω,Array.getElem?_toList]at d e f i j
 exact⟨d,e,f,i,j⟩
theorem infoWay:(prog.info? 149).map (fun i=>(i.zero,i.size,i.bytes))=some (some (.agg #[.bool false,.slice none 0 0,.slice none 0 0,.slice none 0 0,.slice none 0 0]),5,104):=by kernel_rfl
theorem L3{w w':World}{base n:Nat}{v:Value}{zs:List Value}(a:w.ownsRow base 149 5 v n zs)(f:w.grownBy w' v.ownBlock):kT 149 w w':=fun b cs t fr c i=>by
 refine f.block b (zY c).1 fun e=>?_
 rcases a.2 with⟨rfl,-⟩|⟨g,cap,d,rfl,-,h,-⟩
 ·cases e
 simp only[Value.ownBlock,Option.some.injEq]at e;rw[e,h]at c;simp only[Option.some.injEq,Obj.cells.injEq]at c;exact i c.2.1.symm
theorem re(b j:Nat):(⟨b,0,none⟩:Addr).add j=⟨b,j,none⟩:=by unfold Addr.add;split<;>simp_all
theorem CN(d:Dm)(A:Option Addr)(cap:Nat)(w:World)(T:(bB d).2=0)(hM:dC w A cap d.n d.mem):
  Calls prog 63 #[dw d A cap] w fun e w'=>(∃A' p xs,e=.returned (.tuple #[.slice A' d.n p,.nilIface])/\xs.length=d.n/\iy w' A' p xs/\∀k,k<d.n->fJ d k (xs.getD k eS))/\Bl w w':=by
 obtain⟨i0,X,ae,af,ag⟩:=info_parts infoWay;obtain⟨hd,-,-,-⟩:=bw T;obtain⟨-,-,V,-⟩:=aq hd;have D:=bu w d A cap 67;have hS:=bg w d A cap 67;have o:Hid (∀w1,Below (aH w d A cap 67).heap.size (aH w d A cap 67) w1->w1.cell? ⟨w.heap.size,0,none⟩=some (.string d.name)/\w1.cell? ⟨w.heap.size,1,none⟩=some (.int .i64 d.solve)/\w1.cell? ⟨w.heap.size,2,none⟩=some (.slice A d.n cap)/\w.heap.size<w1.heap.size):=fun w1 h=>gl h
 have B:Hid (∀w' i,Bl w w'->i<d.n->Calls prog 105 #[dw d A cap,.int .i64 i] w' fun e ab=>(∃x,e=.returned (.tuple #[wayV x,.nilIface])/\ey ab x/\fJ d i x)/\Bl w' ab):=fun w' i hb hi=>Gy d A cap i w' T hi (hM.later hb)
 unfold dw at B|-;obtain⟨W,N⟩:=ar (aH w d A cap 67);rw[N]at D hS o;unfold aH at N;obtain⟨o0,o1,o2,hq⟩:=o.o W zS;have H:=aa D;obtain⟨n,hn⟩:=ar d.n;have HN:=aa hn;rw[hn]at o2 B V N o|-;have am:(n:Int)<=12:=ω;clear D T hM hd hn hS
 go_enter func63,ntmps63
 go_wp2_with fail;clear N o0 o1 o2
 go_loopg [4,11] n (fun g s4 ah wr =>∃(k:Nat) (v:Value) (xs:List WL),k<=n/\g=n-k/\ah=.int .i64 k/\v=s4/\Hid (xs.length=k/\(∀j,j<k->fJ d j (xs.getD j eS))/\∀x∈xs,ey wr x)/\wr.ownsRow W.heap.size 149 5 v k (eW xs)/\Bl W wr)
 case atStart=>exact⟨0,_,[],zU,rfl,rfl,rfl,(⟨rfl,fun j O=>absurd O (Nat.not_lt_zero _),fun x hx=>by cases hx⟩:_/\_/\_),World.ownsRow_nil _ _ _ _,zS⟩
 case round =>
  obtain⟨k,v,xs,hk,rfl,rfl,rfl,C,M,f⟩:=hrel;have HO:=aa M;have I:=aa f
  by_cases Z:k<n
  ·have al:(k:Int)<(n:Int):=ω;obtain⟨p0,p1,p2,an⟩:=o.o wr f;have L:=B.o wr k (ad H.o f) Z;clear M f;go_wp2_with fail;refine L.mono ?_;rintro e w1⟨⟨x,rfl,U,F⟩,G⟩;have aj:Hid (ey w1 x/\fJ d k x):=⟨U,F⟩;have ai:=aa G;obtain⟨y,hy⟩:=ar (w1.alloc (.cells #[.bool x.lf,.slice x.An x.nd.length x.cn,.slice x.As x.nm.length x.cs,.slice x.Ai x.ne.length x.ci,.slice x.Ag x.sg.length x.cg] 149));have c:y.heap[w1.heap.size]?=some (.cells #[.bool x.lf,.slice x.An x.nd.length x.cn,.slice x.As x.nm.length x.cs,.slice x.Ai x.ne.length x.ci,.slice x.Ag x.sg.length x.cg] 149 (0,0)):=by rw[←hy];exact heap_alloc_new ..
   have y0:y.cell? ⟨w1.heap.size,0,none⟩=some (.bool x.lf):=by simp[World.cell?,c]
   have y1:y.cell? ⟨w1.heap.size,1,none⟩=some (.slice x.An x.nd.length x.cn):=by simp[World.cell?,c]
   have y2:y.cell? ⟨w1.heap.size,2,none⟩=some (.slice x.As x.nm.length x.cs):=by simp[World.cell?,c]
   have y3:y.cell? ⟨w1.heap.size,3,none⟩=some (.slice x.Ai x.ne.length x.ci):=by simp[World.cell?,c]
   have y4:y.cell? ⟨w1.heap.size,4,none⟩=some (.slice x.Ag x.sg.length x.cg):=by simp[World.cell?,c]
   have E:Bl w1 y:=by rw[←hy];go_grown
   have s:=aa (ad G E);have J:Hid (ey y x/\fJ d k x):=⟨U.later E,F⟩;have t:Hid (y.ownsRow W.heap.size 149 5 v k (eW xs)):=ak HO.o s.o;have r:=aa (ad I.o s.o);have S:Hid (∀z∈xs,ey y z):=fun z q=>(C.o.2.2 z q).later s.o
   have ac:=r.o.size;unfold wayV;clear G U F L c E p0 p1 p2
   go_wp2_with (at_builtin;refine wpList_append_own _ rfl _ _ 129 rfl W.heap.size 149 i0 (.agg #[.bool false,.slice none 0 0,.slice none 0 0,.slice none 0 0,.slice none 0 0]) 5 104 underlying129 X ae af ag rfl (by decide) _ _ _ rfl (t.o.alloc _) ⟨y.heap.size,0,none⟩ 1 1 (jb x) rfl rfl ?qe2 ?qe3 ?qe4 ?qe5 ?qe6 ?_)
   case qe2 =>
    intro j u O;rw[re,Lib.cell_of_heap (heap_alloc_new y (.cells #[.bool x.lf,.slice x.An x.nd.length x.cn,.slice x.As x.nm.length x.cs,.slice x.Ai x.ne.length x.ci,.slice x.Ag x.sg.length x.cg] 149))]
    simpa [jb]using O
   case qe3=>intro u hu;simp[jb]at hu;rcases hu with rfl|rfl|rfl|rfl|rfl<;>rfl
   case qe4=>simp only[maxLen];omega
   case qe5=>omega
   case qe6=>simp;omega
   intro v' w4 m b K;have P:Hid (Bl W w4):=dk r.o t.o b;have Q:Hid (w4.ownsRow W.heap.size 149 5 v' (k+1) (eW (xs++[x]))):=by
    show World.ownsRow ..
    rw[v7];exact m
   have l:∀z,ey y z->ey w4 z:=fun z q=>(q.later γ).keepW (L3 (t.o.alloc _) b)
   have R:Hid ((xs++[x]).length=k+1/\(∀j,j<k+1->fJ d j ((xs++[x]).getD j eS))/\∀z∈xs++[x],ey w4 z):=by
    have a:=C.o.1;refine⟨by rw[List.length_append,a];rfl,fun j O=>?_,fun z q=>?_⟩
    ·by_cases e:j=k
     ·rw[e,zZ,List.getElem?_append_right ω,a,Nat.sub_self]
      exact J.o.2
     rw[zZ,List.getElem?_append_left ω,←zZ]
     exact C.o.2.1 j ω
    rcases List.mem_append.1 q with q|q
    ·exact l z (S.o z q)
    rw[List.mem_singleton.1 q];exact l x J.o.1
   clear m b K y0 y1 y2 y3 y4 hy l;go_wp2_with fail
   go_roundg (n-(k+1))
   case measure=>omega
   case rel=>exact⟨k+1,_,xs++[x],ω,rfl,by go_num,rfl,R,Q.o,P.o⟩
  have Y:k=n:=ω;subst Y;have HF:Hid (∃A' p,v=.slice A' k p/\iy wr A' p xs):=by
   have a:=C.o.1;have h:=M;rw[←a]at h;obtain⟨A',p,e,hv⟩:=KC h C.o.2.2;rw[a]at e;exact⟨A',p,e,hv⟩
  clear M f;go_wp2_with fail;go_returns;obtain⟨A',p,e,hv⟩:=HF.o;exact⟨⟨A',p,xs,by rw[←e];rfl,C.o.1,hv,C.o.2.1⟩,ad H.o I.o⟩
def vH(D:Nat->Dm)(n:Nat):Nat->Nat
 | 0=>1
 |k+1=>vH D n k*(D (n-1-k)).n
theorem vI{D:Nat->Dm}{n:Nat}:∀k,k<n->vH D n k=cE D n (n-1-k)
 | 0,h=>by unfold cE;rw[show n-1-(n-1-0)=0 by omega];rfl
 |k+1,h=>by
  rw[vH,vI k ω]
  unfold cE;rw[show n-1-(n-1-(k+1))=k+1 by omega,stepTo_front,show n-1-(k+1)+1=n-1-k by omega,show n-1-(n-1-k)=k by omega]
  exact Nat.mul_comm _ _
theorem GS{D:Nat->Dm}{n:Nat}(h:∀j,j<n->(D j).n<=12):∀k,k<=n->vH D n k<=12 ^ k
 | 0,_=>zT
 |k+1,hk=>by
  rw[vH,Nat.pow_succ];exact Nat.mul_le_mul (GS h k ω) (h _ ω)
theorem sG{D:Nat->Dm}{n:Nat}(b:n<=4)(h:∀j,j<n->(D j).n<=12){k:Nat}(a:k<=n):vH D n k<=20736 :=
 zV (GS h k a) (zV (Nat.pow_le_pow_right ω (show k<=4 by omega)) (by decide))
structure AL where
 xs:List WL
 A:Option Addr
 c:Nat
def Pq(cur:Array Value)(o:Nat)(d:Dm)(ap:Nat)(x:AL):Prop:=cur[o]?=some (.int .i64 d.solve)/\cur[o+1]?=some (.int .i64 ap)/\cur[o+2]?=some (.slice x.A d.n x.c)
def ir(w:World)(d:Dm)(x:AL):Prop:=x.xs.length=d.n/\iy w x.A x.c x.xs/\∀k,k<d.n->fJ d k (x.xs.getD k eS)
theorem ir.later{w w':World}{d:Dm}{x:AL}(h:ir w d x)(a:Bl w w'):ir w' d x:=⟨h.1,h.2.1.later a,h.2.2⟩
theorem ir.keepA{w w':World}{d:Dm}{x:AL}(h:ir w d x)(a:kT 133 w w'):ir w' d x:=⟨h.1,h.2.1.keepA a,h.2.2⟩
def pH(w:World)(g n k:Nat)(D:Nat->Dm)(X:Nat->AL):Prop := ∃cur,w.heap[g]?=some (.cells cur 133 (0,0))/\cur.size=n*3/\∀i,n-k<=i->i<n->Pq cur (i*3) (D i) (cE D n i) (X i)/\ir w (D i) (X i)
theorem pH.later{w w':World}{g n k:Nat}{D:Nat->Dm}{X:Nat->AL}(h:pH w g n k D X)(f:Bl w w'):pH w' g n k D X:=by
 obtain⟨c,d,j,e⟩:=h;exact⟨c,(f.block g (zY d).1).trans d,j,fun i a b=>⟨(e i a b).1,(e i a b).2.later f⟩⟩
def cM(w:World)(q g n:Nat)(D:Nat->Dm)(X:Nat->AL):Prop:=w.heap[q]?=some (.cells #[.slice (some ⟨g,0,none⟩) n n,.int .i64 (prodN D n:Nat)] 135 (0,0))/\pH w g n n D X
theorem cM.later{w w':World}{q g n:Nat}{D:Nat->Dm}{X:Nat->AL}(h:cM w q g n D X)(a:Bl w w'):cM w' q g n D X:=⟨(a.block q (zY h.1).1).trans h.1,h.2.later a⟩
theorem cM.cells{w:World}{q g n:Nat}{D:Nat->Dm}{X:Nat->AL}(h:cM w q g n D X):q<w.heap.size/\w.cell? ⟨q,0,none⟩=some (.slice (some ⟨g,0,none⟩) n n)/\w.cell? ⟨q,1,none⟩=some (.int .i64 (prodN D n:Nat)):=
 ⟨(zY h.1).1,by simp[World.cell?,h.1],by simp[World.cell?,h.1]⟩
theorem OG{w:World}{g o T:Nat}{d:Array Value}{fr:Nat×Nat}{a b c:Value}(h:w.heap[g]?=some (.cells d T fr)):kT T w (((w.setCell ⟨g,o,none⟩ a).setCell ⟨g,o+1,none⟩ b).setCell ⟨g,o+2,none⟩ c)/\(((w.setCell ⟨g,o,none⟩ a).setCell ⟨g,o+1,none⟩ b).setCell ⟨g,o+2,none⟩ c).heap[g]?=some (.cells (((d.setIfInBounds o a).setIfInBounds (o+1) b).setIfInBounds (o+2) c) T fr):=
 ⟨eA (eA (eq h) (eq (dj h))) (eq (dj (dj h))),dj (dj (dj h))⟩
theorem rj{d:Array Value}{o j:Nat}{a b c:Value}(h:j<o\/o+3<=j):(((d.setIfInBounds o a).setIfInBounds (o+1) b).setIfInBounds (o+2) c)[j]?=d[j]?:=by
 rw[Array.getElem?_setIfInBounds_ne ω,Array.getElem?_setIfInBounds_ne ω,Array.getElem?_setIfInBounds_ne ω]
theorem Mg{d:Array Value}{o:Nat}{a b c:Value}(h:o+3<=d.size):(((d.setIfInBounds o a).setIfInBounds (o+1) b).setIfInBounds (o+2) c)[o]?=some a/\(((d.setIfInBounds o a).setIfInBounds (o+1) b).setIfInBounds (o+2) c)[o+1]?=some b/\(((d.setIfInBounds o a).setIfInBounds (o+1) b).setIfInBounds (o+2) c)[o+2]?=some c:=by
 refine⟨?_,?_,?_⟩
 ·rw[Array.getElem?_setIfInBounds_ne ω,Array.getElem?_setIfInBounds_ne ω,Array.getElem?_setIfInBounds_self,if_pos ω]
 ·rw[Array.getElem?_setIfInBounds_ne ω,Array.getElem?_setIfInBounds_self,if_pos (by simp;omega)]
 rw[Array.getElem?_setIfInBounds_self,if_pos (by simp;omega)]
theorem pH.put{w:World}{g n k i:Nat}{D:Nat->Dm}{X:Nat->AL}{x:AL}(h:pH w g n k D X)(r:n=k+1+i)(q:ir w (D i) x):
  pH (((w.setCell ⟨g,i*3,none⟩ (.int .i64 (D i).solve)).setCell ⟨g,i*3+1,none⟩ (.int .i64 (cE D n i))).setCell ⟨g,i*3+2,none⟩ (.slice x.A (D i).n x.c)) g n (k+1) D (fun j=>if j=i then x else X j):=by
 obtain⟨d,f,l,m⟩:=h;obtain⟨o1,o2⟩:=OG (o:=i*3) (a:=.int .i64 (D i).solve) (b:=.int .i64 (cE D n i)) (c:=.slice x.A (D i).n x.c) f;refine⟨_,o2,by simp[l],fun j a b=>?_⟩
 by_cases e:j=i
 ·subst e
  simp only[if_true];exact⟨Mg ω,q.keepA o1⟩
 simp only[if_neg e];obtain⟨⟨c0,c1,c2⟩,p⟩:=m j ω b
 have s:i<j:=ω;refine⟨⟨?_,?_,?_⟩,p.keepA o1⟩
 ·rw[rj ω];exact c0
 ·rw[rj ω];exact c1
 rw[rj ω];exact c2
theorem infoAx:(prog.info? 133).map (fun i=>(i.zero,i.size,i.bytes))=some (some (.agg #[.int .i64 0,.int .i64 0,.slice none 0 0]),3,40):=by kernel_rfl
theorem sw(n:Nat)(f:n<=3000)(w:World):(Instr.makeSlice 128 (.int .i64 (n:Int)) (.int .i64 (n:Int))).run prog w=.ok (.slice (some ⟨w.heap.size,0,none⟩) n n) (w.alloc (.cells (madeCells #[.int .i64 0,.int .i64 0,.slice none 0 0] (n*3)) 133)):=by
 obtain⟨i0,a,b,c,d⟩:=info_parts infoAx;have e:=run_make (P:=prog) w 128 133 i0 _ underlying128 a b .i64 .i64 n n ω (Int.le_refl _) (by rw[d];omega) ω
 simp only[Int.toNat_natCast,c]at e;exact e
theorem uz(A0:Option Addr)(cap n:Nat)(D:Nat->Dm)(A:Nat->Option Addr)(C:Nat->Nat)(w:World)(h:(au D n).2.2≠0)(f:aL w A0 cap n D A C):
  Rt 26 #[.agg #[.slice A0 n cap]] w (.tuple #[.pointer none,errV (au D n).2.2]):=by
 have b:=ay w A0 n cap 24;have i:=aU w A0 n cap 24;have a:=eF A0 cap n D A C (aE w A0 n cap 24) (f.later b);rw[ac h]at a|-;obtain⟨W,g⟩:=ar (aE w A0 n cap 24);rw[g]at b i a;unfold aE at g;have c:=aa b;generalize (au D n).1=x at a;generalize (au D n).2.1=y at a;generalize (au D n).2.2=z at a|-;clear f b h
 go_enter func26,ntmps26
 go_wp2_with fail;refine a.mono ?_;rintro e w1⟨rfl,d⟩;go_wp2_with fail;go_returns;exact⟨rfl,ad c.o d⟩
theorem pr(A0:Option Addr)(cap n:Nat)(D:Nat->Dm)(A:Nat->Option Addr)(C:Nat->Nat)(w:World)(U:(ag D n).2.2=0)(hR:eT D n)(hM:aL w A0 cap n D A C):
  Calls prog 26 #[.agg #[.slice A0 n cap]] w fun e w'=>(∃q g X,e=.returned (.tuple #[.pointer (some ⟨q,0,none⟩),.nilIface])/\w.heap.size<=q/\w.heap.size<=g/\cM w' q g n D X)/\Bl w w':=by
 obtain⟨aR,V,aH,hd⟩:=ao U;have s:=ay w A0 n cap 24;have hS:=aB w A0 n cap 24;have hA:=aU w A0 n cap 24;have z:=eF A0 cap n D A C (aE w A0 n cap 24) (hM.later s);rw[O6 U hR,errV_zero]at z;obtain⟨W,hW⟩:=ar (aE w A0 n cap 24);rw[hW]at s hS hA z;unfold aE at hW;have ah:=aa s;have HM:=aa hM;have HR:=aa hR;have HD:=aa hd;have HA:=aa hA;have R:Hid (∀w',Bl w w'->Rt 62 #[.agg #[.slice A0 n cap]] w' (.tuple #[.int .i64 (prodN D n:Nat),.nilIface])):=fun w' hB=>by
  have h:=q7 A0 cap n D A C w' (hM.later hB);rw[U,errV_zero,show ja D n=(prodN D n:Nat) by unfold ja;rw[if_pos U]]at h
  exact h
 have Y:w.heap.size<W.heap.size:=ω;have aS:(n:Int)<=4:=ω;have aG:1<=(n:Int):=ω;have aF:=sw n ω
 obtain⟨N,hN⟩:=ar (prodN D n);have HN:=aa hN;rw[hN]at R;clear hM s hR hd U hN aH
 go_enter func26,ntmps26
 go_wp2_with fail;refine z.mono ?_;rintro e w0⟨rfl,B⟩;have O:=aa (ad ah.o B);have c0:=aM B Y HA.o;have I:w.heap.size<w0.heap.size:=zW Y B.size;clear B z hA hW;go_wp2_with fail;refine(R.o w0 O.o).mono ?_;rintro e w1⟨rfl,E⟩;have M:=aa (ad O.o E);have c1:=aM E I c0;have c:w.heap.size<w1.heap.size:=zW I E.size;obtain⟨v,hv⟩:=ar (w1.alloc (.cells (madeCells #[.int .i64 0,.int .i64 0,.slice none 0 0] (n*3)) 133));have t:Bl w1 v:=by rw[←hv];go_grown
 have P:=aa t;have al:Hid (∀X,pH v w1.heap.size n 0 D X):=by
  intro X;refine⟨_,by rw[←hv];exact heap_alloc_new ..,by simp[madeCells],fun i a b=>ω⟩
 have cv:=aM t c c1;have ak:=aa cv;have aJ:w.heap.size<v.heap.size:=zW c t.size;clear E t c0;go_wp2_with fail;clear aF hv cv c1
 go_loopg [10,11] n (fun gg aK aN wr =>∃(k:Nat) (X:Nat->AL),k<=n/\gg=n-k/\aK=.int .i64 (vH D n k:Nat)/\aN=.int .i64 ((n:Int)-1-(k:Int))/\Hid (pH wr w1.heap.size n k D X)/\Hid (Bl w1 wr))
 case atStart=>exact⟨0,fun _=>⟨[],none,0⟩,zU,rfl,rfl,by go_num,al.o _,P⟩
 case round =>
  obtain⟨k,X,hk,rfl,rfl,rfl,HL,m⟩:=hrel;have cw:wr.cell? ⟨w.heap.size,0,none⟩=some (.slice A0 n cap):=aM m.o c (by have:=(P.o.cell (p:=⟨w.heap.size,0,none⟩) c);rw[←this];exact ak.o)
  have r:w.heap.size<wr.heap.size:=zW c m.o.size
  by_cases aD:k<n
  ·obtain⟨i,hi⟩:∃i,n=k+1+i:=⟨n-k-1,ω⟩
   have K:i<n:=ω;have e9:(n:Int)-1-(k:Int)=(i:Int):=ω;rw[e9];have HI:=aa hi;have aQ:(i:Int)<(n:Int):=ω;obtain⟨az,h0|⟨b,o,rfl,x⟩⟩:=HM.o.later (ad M.o m.o)
   ·omega
   have ab:(n:Int)<=(cap:Int):=ω;have aw:b<wr.heap.size:=x.1;obtain⟨d0,d1,d2,d3⟩:=x.2 i K;have L:=CN (D i) (A i) (C i) wr (HR.o i K) d3;unfold dw at L;have af:Hid (vH D n k=cE D n i):=by show _=_;rw[vI k aD,show n-1-k=i by omega]
   have ae:Hid (vH D n (k+1)=vH D n k*(D i).n):=by show _=_;rw[vH,show n-1-k=i by omega]
   have aq:(vH D n k:Int)<=20736:=by have:=sG (D:=D) V (fun j hj=>(HD.o j hj).2) (k:=k) ω;omega
   have H:(vH D n (k+1):Int)<=20736:=by have:=sG (D:=D) V (fun j hj=>(HD.o j hj).2) (k:=k+1) ω;omega
   have f:(vH D n (k+1):Int)=(vH D n k:Int)*((D i).n:Int):=by rw[ae.o];exact Int.natCast_mul _ _
   have au:0<=(vH D n k:Int)*((D i).n:Int):=by rw[←f];omega
   have av:(vH D n k:Int)*((D i).n:Int)<=20736:=by rw[←f];exact H
   have ac:=aa f;have am:=aa x;clear d3 x H f e9 hi;go_wp2_with fail;refine L.mono ?_;rintro e w2⟨⟨A2,c2,xs,rfl,Z,PU,PT⟩,d⟩;have ap:Hid (ir w2 (D i) ⟨xs,A2,c2⟩):=(⟨Z,PU,PT⟩:_/\_/\_);have ai:=aa (ad m.o d);have Q:=aa (HL.o.later d);have aO:=aM d r cw;have aI:w.heap.size<w2.heap.size:=zW r d.size;obtain⟨q0,q1,q2,-⟩:=(am.o.later d).2 i K;have ax:b<w2.heap.size:=zW aw d.size;obtain⟨T,l,aA,-⟩:=Q.o;have aP:w1.heap.size<w2.heap.size:=(zY l).1;have F:∀j,j<n*3->∃u,w2.cell? ⟨w1.heap.size,j,none⟩=some u:=fun j hj=>⟨T[j]' ω,by simp[World.cell?,l,show j<T.size by omega]⟩
   have G:∀j,w2.frozen? ⟨w1.heap.size,j,none⟩=false:=fun j=>by simp[World.frozen?,l]
   obtain⟨u0,k0⟩:=F (i*3) ω
   obtain⟨u1,k1⟩:=F (i*3+1) ω
   obtain⟨u2,k2⟩:=F (i*3+2) ω
   have z0:=G (i*3);have z1:=G (i*3+1);have z2:=G (i*3+2);have HP:=aa (Q.o.put (i:=i) HI.o ap.o);rw[←af.o]at HP;simp only at HP;clear d Z PU PT L cw l aA F G d0 d1 d2;go_wp2_with fail
   go_roundg (n-(k+1))
   case measure=>omega
   case rel=>exact⟨k+1,fun j=>if j=i then⟨xs,A2,c2⟩else X j,ω,rfl,by rw[ac.o],by congr 1;have:=HI.o;omega,HP,(((ai.o.setCell σ _).setCell σ _).setCell σ _:Below ..)⟩
  have aC:k=n:=ω;subst aC;have e9:(k:Int)-1-(k:Int) = -1:=ω;rw[e9];obtain⟨y,hy⟩:=ar (wr.alloc (.cells #[.slice (some ⟨w1.heap.size,0,none⟩) k k,.int .i64 N] 135));have J:Bl wr y:=by rw[←hy];go_grown
  have an:Hid (cM y wr.heap.size w1.heap.size k D X):=⟨by rw[HN.o,←hy];exact heap_alloc_new ..,HL.o.later J⟩
  have aj:=aa (ad m.o J);have S:Hid (w.heap.size<=wr.heap.size/\w.heap.size<=w1.heap.size):=⟨Nat.le_of_lt r,Nat.le_of_lt c⟩;clear J cw;go_wp2_with fail;go_returns;exact⟨⟨wr.heap.size,w1.heap.size,X,rfl,S.o.1,S.o.2,an.o⟩,ad M.o aj.o⟩
def Ol(d:Dm)(ap:Nat)(x:AL):Value:=.agg #[.int .i64 d.solve,.int .i64 ap,.slice x.A d.n x.c]
theorem ol(d:Dm)(S:Nat)(al:AL)(x m:Nat)(w:World)(u:1<=S)(v:1<=d.n)(l:d.n<=12)(z:x<=20736)(f:x / S % d.n=m):Rt 109 #[Ol d S al,.int .i64 x] w (.int .i64 m):=by
 unfold Ol;obtain⟨Q,e⟩:∃Q:Nat,x / S=Q:=⟨_,rfl⟩;rw[e]at f;have p:(x:Int) / (S:Int)=(Q:Int):=by rw[←e];exact(Int.natCast_ediv _ _).symm
 have q:(x:Int).tdiv (S:Int)=(Q:Int):=by rw[←e];rfl
 have r:(Q:Int).tmod (d.n:Int)=(m:Int):=by rw[←f];rfl
 have i:Q<=20736:=by rw[←e];exact zV (Nat.div_le_self _ _) ω
 have j:m<d.n:=by rw[←f];exact Nat.mod_lt _ ω
 have s:IntKind.i64.wrap (Q:Int)=(Q:Int):=IntWalk.i64_in _ ω
 have t:IntKind.i64.wrap (m:Int)=(m:Int):=IntWalk.i64_in _ ω
 have k:((S:Int) == 0)=false:=by simp;omega
 have hS0' :¬S=0:=ω;have g:((d.n:Int) == 0)=false:=by simp;omega
 have hdn0' :¬d.n=0:=ω;have o:(d.n:Int)<=12:=ω;obtain⟨y,h⟩:=ar (w.alloc (.cells #[.int .i64 d.solve,.int .i64 S,.slice al.A d.n al.c] 133));have a:y.heap[w.heap.size]?=some (.cells #[.int .i64 d.solve,.int .i64 S,.slice al.A d.n al.c] 133 (0,0)):=by rw[←h];exact heap_alloc_new ..
 have B:y.cell? ⟨w.heap.size,1,none⟩=some (.int .i64 S):=by simp[World.cell?,a]
 have C:y.cell? ⟨w.heap.size,2,none⟩=some (.slice al.A d.n al.c):=by simp[World.cell?,a]
 have b:Hid (Bl w y):=by show Below ..;rw[←h];go_grown
 clear a e f
 go_enter func109,ntmps109
 go_wp2_with fail
 first|(go_quiet (fail);go_wp2_with fail)|skip
 go_ret;exact⟨rfl,by first|exact b.o|exact aj b.o _⟩
theorem KB{d:Dm}{i:Nat}{x:WL}(h:fJ d i x):x.lf=leafB d.mem d.n i:=by
 by_cases a:(d.mem i).formula.size=0
 ·exact(h.1 a).1
 rw[(h.2 a).1];unfold leafB;rw[decide_eq_false a]
 rfl
theorem pH.one{w:World}{g n:Nat}{D:Nat->Dm}{X:Nat->AL}(h:pH w g n n D X){i:Nat}(f:i<n):g<w.heap.size/\(w.cell? ⟨g,i*3,none⟩=some (.int .i64 (D i).solve)/\w.cell? ⟨g,i*3+1,none⟩=some (.int .i64 (cE D n i))/\w.cell? ⟨g,i*3+2,none⟩=some (.slice (X i).A (D i).n (X i).c))/\ir w (D i) (X i):=by
 obtain⟨b,a,-,d⟩:=h;obtain⟨⟨c0,c1,c2⟩,e⟩:=d i ω f
 exact⟨(zY a).1,⟨by simp[World.cell?,a,c0],by simp[World.cell?,a,c1],by simp[World.cell?,a,c2]⟩,e⟩
theorem ir.way{w:World}{d:Dm}{x:AL}(h:ir w d x){m:Nat}(i:m<d.n):∃b,x.A=some ⟨b,0,none⟩/\d.n<=x.c/\b<w.heap.size/\(w.cell? ⟨b,m*5,none⟩=some (.bool (x.xs.getD m eS).lf)/\w.cell? ⟨b,m*5+1,none⟩=some (.slice (x.xs.getD m eS).An (x.xs.getD m eS).nd.length (x.xs.getD m eS).cn)/\w.cell? ⟨b,m*5+2,none⟩=some (.slice (x.xs.getD m eS).As (x.xs.getD m eS).nm.length (x.xs.getD m eS).cs)/\w.cell? ⟨b,m*5+3,none⟩=some (.slice (x.xs.getD m eS).Ai (x.xs.getD m eS).ne.length (x.xs.getD m eS).ci)/\w.cell? ⟨b,m*5+4,none⟩=some (.slice (x.xs.getD m eS).Ag (x.xs.getD m eS).sg.length (x.xs.getD m eS).cg))/\ey w (x.xs.getD m eS):=by
 obtain⟨e,⟨g,a,f⟩,-⟩:=h
 rcases a with a|⟨b,cs,fr,a,h4,h5⟩
 ·rw[a]at e;simp at e;omega
 obtain⟨a0,a1,a2,a3,a4⟩:=h5 m ω
 refine⟨b,a,ω,(zY h4).1,⟨by simp[World.cell?,h4,a0],by simp[World.cell?,h4,a1],by simp[World.cell?,h4,a2],by simp[World.cell?,h4,a3],by simp[World.cell?,h4,a4]⟩,f _ ?_⟩
 rw[zZ,zX ω]
 exact List.getElem_mem _
theorem p7{D:Nat->Dm}{n x k:Nat}(a:k<n):((ah D n x).getD k 0).toNat=x / cE D n k % (D k).n:=by
 rw[kp a,Int.toNat_natCast,jc a]
def sD(w:World)(d:Dm)(S:Nat)(al:AL):World:=(w.alloc (.cells #[.int .i64 d.solve,.int .i64 S,.slice al.A d.n al.c] 133)).alloc (.cells #[.bool false,.slice none 0 0,.slice none 0 0,.slice none 0 0,.slice none 0 0] 149)
theorem Gw(w:World)(d:Dm)(S:Nat)(al:AL):(sD w d S al).heap.size=w.heap.size+2:=by unfold sD;simp
theorem CJ(w:World)(d:Dm)(S:Nat)(al:AL):Bl w (sD w d S al):=by unfold sD;go_grown
theorem N6(w:World)(d:Dm)(S:Nat)(al:AL):(sD w d S al).heap[w.heap.size]?=some (.cells #[.int .i64 d.solve,.int .i64 S,.slice al.A d.n al.c] 133 (0,0)):=by
 unfold sD;rw[heap_alloc_old _ _ σ]
 exact heap_alloc_new ..
theorem N7(w:World)(d:Dm)(S:Nat)(al:AL):(sD w d S al).heap[w.heap.size+1]?=some (.cells #[.bool false,.slice none 0 0,.slice none 0 0,.slice none 0 0,.slice none 0 0] 149 (0,0)):=by
 unfold sD;exact tT ..
theorem vp(d:Dm)(S:Nat)(al:AL)(x m:Nat)(w:World)(O:1<=S)(Q:1<=d.n)(A:d.n<=12)(T:x<=20736)(D:x / S % d.n=m)(N:ir w d al):Rt 70 #[Ol d S al,.int .i64 x] w (wayV (al.xs.getD m eS)):=by
 have E:m<d.n:=by rw[←D];exact Nat.mod_lt _ Q
 obtain⟨b,j,V,a,⟨H,I,J,K,L⟩,-⟩:=N.way E;obtain⟨z,U⟩:=ar (al.xs.getD m eS);rw[U]at H I J K L|-;have u:Hid (∀w',Rt 109 #[.agg #[.int .i64 d.solve,.int .i64 S,.slice (some ⟨b,0,none⟩) d.n al.c],.int .i64 x] w' (.int .i64 m)):=fun w'=>by
  have h:=ol d S al x m w' O Q A T D;unfold Ol at h;rw[j]at h;exact h
 have g:=CJ w d S al;have q:=Gw w d S al;have i:=N6 w d S al;have l:=N7 w d S al;obtain⟨W,y⟩:=ar (sD w d S al);rw[y]at g q i l;unfold sD at y;unfold Ol;rw[j]at y i|-;have P:b<W.heap.size:=zW a g.size;have B:w.heap.size<W.heap.size:=ω;have C:w.heap.size+1<W.heap.size:=ω;have M:Hid (∀w',Bl W w'->(w'.cell? ⟨w.heap.size,0,none⟩=some (.int .i64 d.solve)/\w'.cell? ⟨w.heap.size,1,none⟩=some (.int .i64 S)/\w'.cell? ⟨w.heap.size,2,none⟩=some (.slice (some ⟨b,0,none⟩) d.n al.c))/\(w'.cell? ⟨b,m*5,none⟩=some (.bool z.lf)/\w'.cell? ⟨b,m*5+1,none⟩=some (.slice z.An z.nd.length z.cn)/\w'.cell? ⟨b,m*5+2,none⟩=some (.slice z.As z.nm.length z.cs)/\w'.cell? ⟨b,m*5+3,none⟩=some (.slice z.Ai z.ne.length z.ci)/\w'.cell? ⟨b,m*5+4,none⟩=some (.slice z.Ag z.sg.length z.cg))/\w'.heap[w.heap.size+1]?=some (.cells #[.bool false,.slice none 0 0,.slice none 0 0,.slice none 0 0,.slice none 0 0] 149 (0,0))/\W.heap.size<=w'.heap.size):=fun w' t=>by
  have G:=(t.block w.heap.size B).trans i;have s:=ad g t;exact⟨⟨by simp[World.cell?,G],by simp[World.cell?,G],by simp[World.cell?,G]⟩,⟨aM s a H,aM s a I,aM s a J,aM s a K,aM s a L⟩,(t.block _ C).trans l,t.size⟩
 obtain⟨⟨a0,a1,a2⟩,-,F,-⟩:=M.o W zS;have o:=aa g;have Y:(m:Int)<(d.n:Int):=ω;have X:(d.n:Int)<=12:=ω;clear g q i l N U j D T O H I J K L F
 go_enter func70,ntmps70
 go_wp2_with fail
 go_region_law ((go_simp;refine(u.o _).mono ?_;rintro e w3⟨rfl,r⟩;have k:=ad (W0:=W) γ r;obtain⟨⟨n0,n1,n2⟩,⟨u0,u1,u2,u3,u4⟩,R,Z⟩:=M.o _ k;obtain⟨hg,⟨r0,r1,r2,r3,r4⟩,f⟩:=iY R;have f0:=f 0;have f1:=f 1;have f2:=f 2;have f3:=f 3;have f4:=f 4;have p:=aa k;clear r f R))
 all_goals clear k
 all_goals go_wp2_with fail
 all_goals refine bodyPost_ret (v:=wayV z) (by simp[results,results70,go_sem,r0,r1,r2,r3,r4,wayV]) rfl ⟨rfl,?_⟩
 all_goals first
  |exact(((((ad o.o p.o).setCell σ _).setCell σ _).setCell σ _).setCell σ _).setCell σ _
  |exact aj ((((((ad o.o p.o).setCell σ _).setCell σ _).setCell σ _).setCell σ _).setCell σ _) 1
theorem zP(z:WL)(w:World):(Instr.field 149 (wayV z) 0).run prog w=.ok (.bool z.lf) w:=by kernel_rfl
theorem zQ(z:WL)(w:World):(Instr.field 149 (wayV z) 3).run prog w=.ok (.slice z.Ai z.ne.length z.ci) w:=by kernel_rfl
theorem ud(q g n:Nat)(D:Nat->Dm)(X:Nat->AL)(x:Nat)(w:World)(hE:(ag D n).2.2=0)(hx:x<prodN D n)(V:cM w q g n D X):Rt 68 #[.pointer (some ⟨q,0,none⟩),.int .i64 x] w (.int .i64 (byTo D (ah D n x) n)):=by
 obtain⟨aq,au,av,hd⟩:=ao hE;have ap:(n:Int)<=4:=ω;have S:=aa hd;have HA:=aa V;obtain⟨hq,q0,q1⟩:=V.cells;obtain⟨L,W⟩:=ar (ah D n x);have T:Hid (∀k,k<n->(L.getD k 0).toNat=x / cE D n k % (D k).n):=fun k hk=>by rw[←W];exact p7 hk
 rw[W];have ac:x<=20736:=ω;clear W V hd
 go_enter func68,ntmps68
 go_wp2_with fail;clear q0 q1
 go_loopg [5,13] n (fun gg s5 ae wr =>∃(k:Nat),k<=n/\gg=n-k/\s5=.int .i64 (byTo D L k)/\ae=.int .i64 k/\Bl w wr)
 case atStart=>exact⟨0,zU,rfl,rfl,rfl,zS⟩
 case round =>
  obtain⟨k,hk,rfl,rfl,rfl,t⟩:=hrel;have I:=aa t
  by_cases p:k<n
  ·have an:(k:Int)<(n:Int):=ω;have f:=HA.o.later t;obtain⟨hg,⟨c0,c1,c2⟩,l⟩:=f.2.one p;obtain⟨m,Q⟩:=ar (x / cE D n k % (D k).n);have K:=(S.o k p).1;have N:m<(D k).n:=by rw[←Q];exact Nat.mod_lt _ K
   have M:=KB (l.2.2 m N);have y:(L.getD k 0).toNat=m:=by rw[T.o k p,Q]
   have J:Hid (∀w',Bl wr w'->Rt 70 #[.agg #[.int .i64 (D k).solve,.int .i64 (cE D n k:Nat),.slice (X k).A (D k).n (X k).c],.int .i64 x] w' (wayV ((X k).xs.getD m eS))):=fun w' G=>vp (D k) (cE D n k) (X k) x m w' (iW (fun i hi=>(S.o i hi).1) p) K (S.o k p).2 ac Q (l.later G)
   have HB:Hid (∀h,leafB (D k).mem (D k).n m=h->(h=true->byTo D L (k+1)=byTo D L k)/\(h=false->(byTo D L k<0->byTo D L (k+1)=(k:Int))/\∀j:Nat,byTo D L k=(j:Int)->byTo D L (k+1)=if(D j).solve<(D k).solve then(k:Int)else(j:Int))):=fun h e=>by
    refine⟨fun P=>?_,fun P=>⟨fun e3=>?_,fun j z=>?_⟩⟩
    ·refine CW fun⟨h1,_⟩=>?_
     rw[y,e,P]at h1;cases h1
    ·exact G4 (by rw[y,e,P]) (Or.inl e3)
    by_cases B:(D j).solve<(D k).solve
    ·rw[if_pos B]
     exact G4 (by rw[y,e,P]) (Or.inr (by rw[z,Int.toNat_natCast];exact B))
    rw[if_neg B,←z];refine CW fun⟨_,h2⟩=>?_
    rw[z,Int.toNat_natCast]at h2
    omega
   obtain⟨lf,o⟩:=ar (leafB (D k).mem (D k).n m);have C:=aa (HB.o lf o);have Y:∀w',(Instr.field 149 (wayV ((X k).xs.getD m eS)) 0).run prog w'=.ok (.bool lf) w':=fun w'=>by rw[zP,M,o]
   have U:Hid (∀w',Bl wr w'->w'.cell? ⟨q,0,none⟩=some (.slice (some ⟨g,0,none⟩) n n)/\q<w'.heap.size/\g<w'.heap.size/\∀j,j<n->w'.cell? ⟨g,j*3,none⟩=some (.int .i64 (D j).solve)):=fun w' G=>⟨(f.later G).cells.2.1,(f.later G).cells.1,zW hg G.size,fun j z=>((f.later G).2.one z).2.1.1⟩
   have R:=aa (by_in D L k);obtain⟨v,hv⟩:=ar (wr.alloc (.cells #[.int .i64 (D k).solve,.int .i64 (cE D n k:Nat),.slice (X k).A (D k).n (X k).c] 133));have r:v.heap[wr.heap.size]?=some (.cells #[.int .i64 (D k).solve,.int .i64 (cE D n k:Nat),.slice (X k).A (D k).n (X k).c] 133 (0,0)):=by rw[←hv];exact heap_alloc_new ..
   have E:Bl wr v:=by rw[←hv];go_grown
   have H:=aa E;have v0:v.cell? ⟨wr.heap.size,0,none⟩=some (.int .i64 (D k).solve):=by simp[World.cell?,r]
   have v1:v.cell? ⟨wr.heap.size,1,none⟩=some (.int .i64 (cE D n k:Nat)):=by simp[World.cell?,r]
   have v2:v.cell? ⟨wr.heap.size,2,none⟩=some (.slice (X k).A (D k).n (X k).c):=by simp[World.cell?,r]
   have O:wr.heap.size<v.heap.size:=(zY r).1;have F:=J.o v E;generalize wayV ((X k).xs.getD m eS)=wv at F Y;clear f l Q N M y o r E t J HB;go_wp2_with fail;refine F.mono ?_;rintro e w3⟨rfl,b⟩;have s:=aa (ad I.o (ad H.o b));have d:=ad H.o b;obtain⟨p0,aw,ai,u⟩:=U.o w3 d;have t1:w3.cell? ⟨wr.heap.size,0,none⟩=some (.int .i64 (D k).solve):=aM b O v0;have ax:wr.heap.size<w3.heap.size:=zW O b.size;clear F v0 v1 v2 hv c0 c1 c2;cases lf
   ·rcases R.o with ab|⟨j,z,al⟩
    ·have a:Hid (byTo D L (k+1)=(k:Int)):=(C.o.2 rfl).1 ω
     rw[ab];clear ab b d u;go_wp2_with fail
     go_quiet (fail)
     go_wp2_with fail
     go_roundg (n-(k+1))
     case measure=>omega
     case rel=>exact⟨k+1,ω,rfl,by rw[a.o],by go_num,aj s.o _⟩
    have a:Hid (byTo D L (k+1)=if(D j).solve<(D k).solve then(k:Int)else(j:Int)):=(C.o.2 rfl).2 j z
    have af:=u j ω
    have am:(j:Int)<(n:Int):=ω;have ak:((j:Int) == -1)=false:=by simp
    rw[z];clear z b d u
    by_cases B:(D j).solve<(D k).solve
    ·rw[if_pos B]at a
     have PT:decide ((D j).solve<(D k).solve)=true:=decide_eq_true B;go_wp2_with fail
     go_quiet (fail)
     go_wp2_with fail
     go_roundg (n-(k+1))
     case measure=>omega
     case rel=>exact⟨k+1,ω,rfl,by rw[a.o],by go_num,aj s.o _⟩
    rw[if_neg B]at a;have PT:decide ((D j).solve<(D k).solve)=false:=decide_eq_false B;go_wp2_with fail
    go_quiet (fail)
    go_wp2_with fail
    go_roundg (n-(k+1))
    case measure=>omega
    case rel=>exact⟨k+1,ω,rfl,by rw[a.o],by go_num,aj s.o _⟩
   have a:Hid (byTo D L (k+1)=byTo D L k):=C.o.1 rfl;generalize byTo D L k=bk at a;clear b d u;go_wp2_with fail
   go_roundg (n-(k+1))
   case measure=>omega
   case rel=>exact⟨k+1,ω,rfl,by rw[a.o],by go_num,s.o⟩
  have Z:k=n:=ω;subst Z;clear t;go_wp2_with fail;go_ret;exact⟨rfl,I.o⟩
def ep(B b:Nat)(l:List UInt8)(w:World):Prop:=Lib.IsBuilderF 97 5 B b (Lib.byteCells l) w
theorem Bw{w w':World}{base e aa:Nat}{v:Value}{n:Nat}{xs:List Value}(h:w.ownsRowF base e aa v n xs)(a:Bl w w'):w'.ownsRowF base e aa v n xs:=by
 refine⟨h.1,?_⟩
 rcases h.2 with h0|⟨g,cap,ab,fz,rfl,hb,hg,h1⟩
 ·exact Or.inl h0
 exact Or.inr ⟨g,cap,ab,fz,rfl,hb,(a.block g (zY hg).1).trans hg,h1⟩
theorem nV{T e B b:Nat}{p:Value}{bs:List Value}{w w':World}(h:Lib.BuilderAtF T e B b p bs w)(c:Bl w w'):Lib.BuilderAtF T e B b p bs w':=by
 obtain⟨d,v,a,f,g⟩:=h;exact⟨d,v,(c.block b (zY a).1).trans a,Bw f c,g⟩
theorem ep.later{B b:Nat}{l:List UInt8}{w w':World}(h:ep B b l w)(a:Bl w w'):ep B b l w':=by
 rcases h with h|h
 ·exact Or.inl (nV h a)
 exact Or.inr (nV h a)
theorem ep.fresh(w:World):ep w.heap.size w.heap.size [] (w.alloc (.cells #[.pointer none,.slice none 0 0] 97)):=Lib.IsBuilderF.of (Lib.fresh_isBuilder 97 5 w)
theorem ep.lt{B b:Nat}{l:List UInt8}{w:World}(h:ep B b l w):b<w.heap.size:=by
 rcases h with⟨_,v,a,_⟩|⟨_,v,a,_⟩ <;>exact(zY a).1
theorem j8(B b:Nat)(l:List UInt8)(s:ByteArray)(w:World)(h:ep B b l w)(c:l.length+s.size<=1000)(a:B<=w.heap.size):
  Calls prog 34 #[.pointer (some ⟨b,0,none⟩),.string s] w fun e w'=>e=.returned (.tuple #[.int .i64 s.size,.nilIface])/\ep B b (l++s.data.toList) w'/\Below B w w'/\Lib.OthersKept 5 (some b) w w':=by
 refine(Any.Builder_WriteString_k lays166 extra166 B b (Lib.byteCells l) s w h (by rw[Lib.byteCells_length];omega) a).mono fun e w' ⟨d,f,g,i⟩=>⟨d,?_,g,i⟩
 unfold ep;rw[Lib.byteCells_append];exact Or.inr f
theorem nU(B b:Nat)(l:List UInt8)(w:World)(h:ep B b l w)(a:B<=w.heap.size):
  Calls prog 41 #[.pointer (some ⟨b,0,none⟩)] w fun e w'=>e=.returned (.string ⟨l.toArray⟩)/\Below B w w' :=
 (Any.Builder_String_any_k lays169 extra169 B b l w h a).mono fun _ _ ⟨c,_,d,_⟩=>⟨c,d⟩
theorem xc{b c:Nat}{w w':World}{cs:Array Value}{T:Nat}(h:Lib.OthersKept 5 (some b) w w')(f:w.heap[c]?=some (.cells cs T (0,0)))(a:c≠b)(d:T≠5):w'.heap[c]?=some (.cells cs T (0,0)):=
 h c _ f (fun e=>a (Option.some.inj e)) (fun _ _ e=>by simp only[Obj.cells.injEq]at e;exact d e.2.1)
theorem BK(A0:Option Addr)(cap n:Nat)(D:Nat->Dm)(A:Nat->Option Addr)(C:Nat->Nat)(Ap:Option Addr)(cp:Nat)(L:List Int)(w:World)(hM:aL w A0 cap n D A C)(hP:de w Ap cp L):Rt 40 #[.agg #[.slice A0 n cap],.slice Ap L.length cp] w (.tuple #[.string (rO D n L),errV (placeErr D n L)]):=by
 have v:=ay w A0 n cap 24;have h:=jo A0 cap n D A C Ap cp L (aE w A0 n cap 24) (hM.later v) (hP.later v);have R:=aa v;have HM:=aa hM;have HP:=aa hP;clear hM v hP
 by_cases y:placeErr D n L=0
 ·have Q:Hid (InO D n L):=jR y
  have HV:Hid (rO D n L=⟨(aY D L n).toArray⟩):=by show _=_;unfold rO;rw[if_pos y]
  have HE:Hid (errV (placeErr D n L)=.nilIface):=by show _=_;rw[y];rfl
  rw[y,errV_zero]at h;obtain⟨aH,aI,-,hd⟩:=ao Q.o.right;have HD:=aa hd;have aG:(n:Int)<=4:=ω;have hl:=Q.o.len;obtain⟨am,U|⟨bp,op,rfl,PT,s⟩⟩:=HP.o
  ·rw[U]at hl;simp at hl;omega
  rw[hl]at h am;rw[hl];have HC:Hid (∀j,j<n->w.cell? ⟨bp,op+j,none⟩=some (.int .i64 (L.getD j 0))):=fun j hj=>s j ω
  clear y hd hl s
  go_enter func40,ntmps40
  go_wp2_with fail;refine h.mono ?_;rintro e w1⟨rfl,l⟩;have hB:Bl w w1:=ad R.o l;have h2:w1.cell? ⟨w.heap.size,0,none⟩=some (.slice A0 n cap):=aM l (by show w.heap.size<_;rw[aB];omega) (aU ..)
  obtain⟨ak,U|⟨b,o,rfl,W⟩⟩:=HM.o.later hB
  ·omega
  have S:=aa W;have HB:=aa hB;have hz:w.heap.size<w1.heap.size:=by have:=l.size;rw[aB]at this;omega
  have ah:Hid (ep w1.heap.size w1.heap.size [] (w1.alloc (.cells #[.pointer none,.slice none 0 0] 97))):=ep.fresh w1;clear l h W hB;go_wp2_with fail
  go_loopg [19] n (fun g az wr =>∃(k:Nat),k<=n/\g=n-k/\az=.int .i64 k/\ep w1.heap.size w1.heap.size (aY D L k) wr/\Bl w1 wr)
  case atStart=>exact⟨0,zU,rfl,rfl,ah.o,by go_grown⟩
  case round =>
   obtain⟨k,hk,rfl,rfl,q,a⟩:=hrel;have HW:=aa a;have HU:=aa q
   by_cases i:k<n
   ·obtain⟨U,h1,h3,-⟩:=(S.o.later a).2 k i
    obtain⟨-,-,-,h4⟩:=S.o.2 k i;have aF:(k:Int)<(n:Int):=ω;obtain⟨an,ap⟩:=HD.o k i;have ax:=Q.o.lo k i;have af:=Q.o.hi k i;have ae:=(Q.o.name i).2;have aJ:=Q.o.short (k:=k) ω
    have x:wr.cell? ⟨bp,op+k,none⟩=some (.int .i64 (L.getD k 0)):=((ad HB.o a).cell (p:=⟨bp,op+k,none⟩) PT).trans (HC.o k i);have PV:bp<wr.heap.size:=World.block_lt_of_cell? _ _ x;obtain⟨X,hX⟩:∃X:Nat,L.getD k 0=X:=⟨(L.getD k 0).toNat,ω⟩
    have T:Hid (fW D L k=((D k).mem X).name):=by show _=_;unfold fW;rw[hX];rfl
    rw[hX]at ax af x;rw[T.o]at ae;have Y:X<(D k).n:=ω;obtain⟨al,h5|⟨b',o',hA,J⟩⟩:=h4
    ·omega
    have r:b'<w1.heap.size:=J.1;have Z:b'<wr.heap.size:=zW r a.size;have N:=(a.cell (p:=⟨b',o'+X*4,none⟩) r).trans (J.2 X Y).1;have PU:bp<w1.heap.size:=zW PT HB.o.size;rw[hA]at h3;have HT:Hid (aY D L (k+1)=aY D L k++((if k=0 then[]else[46])++((D k).mem X).name.data.toList)):=by show _=_;rw[aY,T.o]
    generalize ((D k).mem X).name=nm at N ae HT;generalize (D k).name=dn at U;generalize (D k).solve=ds at h1;generalize (D k).n=m at h3 af Y an ap al;have aC:(X:Int)<(m:Int):=ω;have av:(m:Int)<=12:=ω;have aA:=a.size;have aD:=q.lt;clear a q hX J hA
    by_cases z:k=0
    ·have aq:decide ((0:Int)<(k:Int))=false:=decide_eq_false ω
     have ar:decide (0<k)=false:=decide_eq_false ω
     obtain⟨w2,O⟩:∃w2,w2=wr.alloc (.cells #[.string dn,.int .i64 ds,.slice (some ⟨b',o',none⟩) m (C k)] 67):=⟨_,rfl⟩;have d:Bl wr w2:=by rw[O];go_grown
     have F:Hid (∀w',Bl w2 w'->Calls prog 34 #[.pointer (some ⟨w1.heap.size,0,none⟩),.string nm] w' fun e ab=>e=.returned (.tuple #[.int .i64 nm.size,.nilIface])/\ep w1.heap.size w1.heap.size (aY D L (k+1)) ab/\Bl w1 ab):=fun w' t=>by
      have G:=ad d t;refine(j8 _ _ _ nm w' (HU.o.later G) ω (by have:=G.size;omega)).mono fun e ab ⟨a1,a2,a3,_⟩=>⟨a1,?_,(ad HW.o G).trans a3⟩
      rw[HT.o,if_pos z,List.nil_append];exact a2
     have aj:=aa O;clear d O z;go_wp2_with fail
     go_region_law ((go_simp;refine(F.o _ (by rw[aj.o];go_grown)).mono ?_;rintro e w3⟨rfl,H,K⟩))
     all_goals go_wp2_with fail
     all_goals go_roundg (n-(k+1))
     all_goals first|omega|exact⟨k+1,ω,rfl,by go_num,H,K⟩
    have aq:(0:Int)<(k:Int):=ω;obtain⟨wc,u⟩:∃wc,wc=wr.alloc (.cells #[.string dn,.int .i64 ds,.slice (some ⟨b',o',none⟩) m (C k)] 67):=⟨_,rfl⟩;have d:Bl wr wc:=by rw[u];go_grown
    have PW:wc.heap[wr.heap.size]?=some (.cells #[.string dn,.int .i64 ds,.slice (some ⟨b',o',none⟩) m (C k)] 67 (0,0)):=by rw[u];exact heap_alloc_new wr _
    have P:=j8 w1.heap.size w1.heap.size (aY D L k) ⟨#[46]⟩ wc (HU.o.later d) (by show _+1<=1000;omega) (by have:=d.size;omega)
    have ag:=aa (ad HW.o d);have ai:=aa z;rw[u]at P;have E:=aa u;clear d z u;go_wp2_with fail;refine P.mono ?_;rintro e w2⟨rfl,V,f,I⟩;rw[←E.o]at f I;have B:Bl w1 w2:=ag.o.trans f;have M:=xc I PW ω (by decide)
    have e2:w2.cell? ⟨wr.heap.size,2,none⟩=some (.slice (some ⟨b',o',none⟩) m (C k)):=by rw[Lib.cell_of_heap M];rfl
    have aK:wr.heap.size<w2.heap.size:=(zY M).1;have ex:w2.cell? ⟨bp,op+k,none⟩=some (.int .i64 X):=by
     rw[f.cell (p:=⟨bp,op+k,none⟩) PU,E.o,World.cell?_alloc_lt _ _ ⟨bp,op+k,none⟩ PV];exact x
    have en:w2.cell? ⟨b',o'+X*4,none⟩=some (.string nm):=by
     rw[f.cell (p:=⟨b',o'+X*4,none⟩) r,E.o,World.cell?_alloc_lt _ _ ⟨b',o'+X*4,none⟩ Z];exact N
    have F:Hid (∀w',Bl w2 w'->Calls prog 34 #[.pointer (some ⟨w1.heap.size,0,none⟩),.string nm] w' fun e ab=>e=.returned (.tuple #[.int .i64 nm.size,.nilIface])/\ep w1.heap.size w1.heap.size (aY D L (k+1)) ab/\Bl w1 ab):=fun w' t=>by
     refine(j8 _ _ _ nm w' (V.later t) (by rw[List.length_append];show _+1+_<=1000;omega) (by have:=t.size;omega)).mono fun e ab ⟨a1,a2,a3,_⟩=>⟨a1,?_,(ad B t).trans a3⟩
     rw[HT.o,if_neg ai.o,←List.append_assoc];exact a2
    clear P V f I M PW x N U h1 h3 B;go_wp2_with fail
    go_region_law ((go_simp;refine(F.o _ γ).mono ?_;rintro e w3⟨rfl,H,K⟩))
    all_goals go_wp2_with fail
    all_goals go_roundg (n-(k+1))
    all_goals first|omega|exact⟨k+1,ω,rfl,by go_num,H,K⟩
   have au:k=n:=ω;subst au;have aw:=nU w1.heap.size w1.heap.size (aY D L k) wr q (by have:=a.size;omega)
   clear q a;go_wp2_with fail;refine aw.mono ?_;rintro e w2⟨rfl,f⟩;go_wp2_with fail
   go_ret2
   rw[HV.o,HE.o];exact⟨rfl,ad HB.o (HW.o.trans f)⟩
 have HV:Hid (rO D n L=⟨#[]⟩):=by show _=_;unfold rO;rw[if_neg y]
 have HE:Hid (errV (placeErr D n L)=.iface 71 (.int .i64 (placeErr D n L))):=ac y;rw[ac y]at h;clear y;generalize placeErr D n L=c at h HE;generalize L.length=m at h
 go_enter func40,ntmps40
 go_wp2_with fail;refine h.mono ?_;rintro e w1⟨rfl,l⟩;go_wp2_with fail
 go_ret2
 rw[HV.o,HE.o];exact⟨rfl,ad R.o l⟩
end Go.Proofs.YtjfampgnhccodaaGreatDoor
