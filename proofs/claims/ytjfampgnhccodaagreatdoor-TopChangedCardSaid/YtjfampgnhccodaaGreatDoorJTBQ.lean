/- What Print of package -/
import Derived.Test.YtjfampgnhccodaaGreatDoorJTBO
import Derived.Test.YtjfampgnhccodaaGreatDoorJTBP
namespace Go.Proofs.YtjfampgnhccodaaGreatDoor
open Tryz Go ChangeShapes WideShapes ChangeAt RowKit
set_option maxRecDepth 99999
set_option maxHeartbeats 0
set_option maxHeartbeats 4000000
theorem Cv(A0:Option Addr)(cap n:Nat)(D:Nat->Dm)(A:Nat->Option Addr)(C:Nat->Nat)(AE:Option Addr)(ce:Nat)(xs:List EnL)(w:World)(r:kz w)(m:aL w A0 cap n D A C)(f:bU w AE ce xs):
  Rt 12 #[.agg #[.slice A0 n cap],.slice AE xs.length ce] w (.tuple #[.string (DO D n (lE xs)),errV (shE D n (lE xs))]):=by
 by_cases a:shE D n (lE xs)=0
 ·have h:=vk A0 cap n D A C AE ce xs w a r m f
  unfold DO;rw[if_pos a,a,errV_zero];exact h
 have HV:Hid (DO D n (lE xs)=⟨#[]⟩):=by show _=_;unfold DO;rw[if_neg a]
 have o:Hid (errV (shE D n (lE xs))=.iface 71 (.int .i64 (shE D n (lE xs)))):=ac a;have b:=ay w A0 n cap 24;have i:=eF A0 cap n D A C (aE w A0 n cap 24) (m.later b);have l:=aa b;obtain⟨u,v,p⟩:∃u v,(au D n).1=u/\(au D n).2.1=v:=⟨_,_,rfl,rfl⟩;rw[p.1,p.2]at i
 by_cases j:(au D n).2.2=0
 ·have k:shE D n (lE xs)=entsErr D n (lE xs):=by unfold shE;rw[if_neg (by simpa using j)]
  rw[k]at a;rw[j,errV_zero]at i;have g:Hid (∀w',Below (aE w A0 n cap 24).heap.size (aE w A0 n cap 24) w'->Rt 6 #[.agg #[.slice A0 n cap],.slice AE xs.length ce] w' (.iface 71 (.int .i64 (shE D n (lE xs))))):=fun w' x=>by
   have h:=dW A0 cap n D A C AE ce xs w' (m.later (ad b x)) (f.later (ad b x));rw[ac a,←k]at h;exact h
  have s:=aU w A0 n cap 24;have B:=aB w A0 n cap 24;generalize shE D n (lE xs)=c at g o;generalize xs.length=xl at g;clear a j m f r b p k
  go_enter func12,ntmps12
  go_wp2_with fail;refine i.mono ?_;rintro e w1⟨rfl,d⟩;have z:w1.cell? ⟨w.heap.size,0,none⟩=some (.slice A0 n cap):=aM d (by show w.heap.size<_;omega) s
  have y:=g.o w1 d;have q:=aa (ad l.o d);clear i d;go_wp2_with fail;refine y.mono ?_;rintro e w2⟨rfl,t⟩;go_wp2_with fail
  go_ret2
  rw[HV.o,o.o];exact⟨rfl,ad q.o t⟩
 have k:shE D n (lE xs)=(au D n).2.2:=by unfold shE;rw[if_pos j]
 rw[ac j,←k]at i;generalize shE D n (lE xs)=c at i o;generalize xs.length=xl;clear a j m f r b p k
 go_enter func12,ntmps12
 go_wp2_with fail;refine i.mono ?_;rintro e w1⟨rfl,d⟩;go_wp2_with fail
 go_ret2
 rw[HV.o,o.o];exact⟨rfl,ad l.o d⟩
def g8(t:ByteArray):RdQ:=cH (piecesC 10 t) ((piecesC 10 t).length-1)
def iq(t:ByteArray):Nat->Dm:=b7 (g8 t).dims
def tF(t:ByteArray):Nat:=(g8 t).dims.length
def MZ(t:ByteArray):List En:=GC (iq t) (tF t) (g8 t)
noncomputable def BN(t:ByteArray):Int:=if(au (iq t) (tF t)).2.2≠0 then(au (iq t) (tF t)).2.2 else if 0<=jB (iq t) (tF t) (g8 t)then parseErr (iq t) (tF t) ((g8 t).pl.getD (jB (iq t) (tF t) (g8 t)).toNat noWd)else entsErr (iq t) (tF t) (MZ t)
noncomputable def JB(t:ByteArray):Nat:=if(au (iq t) (tF t)).2.2≠0 then 0 else if 0<=jB (iq t) (tF t) (g8 t)then(g8 t).first+(jB (iq t) (tF t) (g8 t)).toNat else 0
noncomputable def GE(t:ByteArray):Int:=match gJ (piecesC 10 t)with
 |some _=>2
 |none=>BN t
noncomputable def MY(t:ByteArray):Nat:=match gJ (piecesC 10 t)with
 |some k=>k
 |none=>JB t
def O9(t:ByteArray)(w:World)(e:Ending)(w':World):Prop :=
 (GE t≠0->e=.returned (.tuple #[.agg #[.slice none 0 0],.slice none 0 0,.int .i64 (MY t),.iface 71 (.int .i64 (GE t))])) /\
 (GE t=0->∃A0 cap A C xs AE ce,e=.returned (.tuple #[.agg #[.slice A0 (tF t) cap],.slice AE xs.length ce,.int .i64 0,.nilIface])/\aL w' A0 cap (tF t) (iq t) A C/\bU w' AE ce xs/\lE xs=MZ t)/\Bl w w'
theorem rv(L:List ByteArray)(N:Nat)(b:∀s∈L,s.size<=N):∀k,∀p∈(cH L k).pl,p.size<=N
 | 0,p,hp=>by simp[cH,yk]at hp
 |k+1,p,hp=>by
  have a:=rv L N b k;have d:(L.getD k noWd).size<=N:=by
   by_cases c:k<L.length
   ·rw[zZ,zX c];exact b _ (List.getElem_mem c)
   rw[zZ,List.getElem?_eq_none ω];exact zU
  rw[iQ]at hp;unfold rdLine at hp
  split at hp
  ·exact a p hp
  split at hp
  ·exact a p hp
  split at hp
  ·rcases List.mem_append.1 hp with hp|hp
   ·exact a p hp
   rw[List.mem_singleton]at hp;subst hp;exact zV (mE 32 _ 1) d
  exact a p hp
theorem FD(c:UInt8)(t:ByteArray):∀s∈piecesC c t,s.size<=t.size:=fun s a=>by
 unfold piecesC at a;obtain⟨l,b,rfl⟩:=List.mem_map.1 a;have:=iE c _ l b;rw[Lib.size_eq t];exact this
theorem BO(t:ByteArray):(g8 t).pl.length<=t.size/\(g8 t).dims.length<=t.size/\∀p∈(g8 t).pl,p.size<=t.size:=by
 have a:=nC (piecesC 10 t) ((piecesC 10 t).length-1);have b:=lh 10 t;refine⟨?_,?_,rv _ _ (FD 10 t) _⟩
 ·show(cH _ _).pl.length<=_;omega
 show(cH _ _).dims.length<=_;omega
theorem findFrom_two(p:Nat->Bool):∀n k,findFrom p n k = -1\/(0<=findFrom p n k/\p (findFrom p n k).toNat=true)
 | 0,_=>Or.inl rfl
 |n+1,k=>by
  cases h:p k with
  |true=>rw[bI _ h];exact Or.inr ⟨ω,by simpa using h⟩
  |false=>rw[bj _ h];exact findFrom_two p n (k+1)
theorem jG{w:World}{q T:Nat}{a v:Value}(h:w.heap[q]?=some (.cells #[a] T (0,0))):(w.setCell ⟨q,0,none⟩ v).heap[q]?=some (.cells #[v] T (0,0)):=by simp[World.setCell,Array.getElem?_modify,h]
theorem Ct(t:ByteArray)(k:Nat)(w:World)(j:iv w)(p:t.size<=1048576)(m:gJ (piecesC 10 t)=some k):Rt 14 #[.string t] w (.tuple #[.agg #[.slice none 0 0],.slice none 0 0,.int .i64 k,.iface 71 (.int .i64 2)]):=by
 obtain⟨W,l⟩:=ar (w.alloc (.cells #[.slice none 0 0] 24));have c:Bl w W:=by rw[←l];exact(zS).alloc zT _
 have i:W.heap[w.heap.size]?=some (.cells #[.slice none 0 0] 24 (0,0)):=by rw[←l];exact heap_alloc_new ..
 have n:w.heap.size<W.heap.size:=(zY i).1;have f:Rt 42 #[.string t] W (.tuple #[.agg #[.slice none 0 0,.slice none 0 0],.int .i64 k,.iface 71 (.int .i64 2)]):=(tN t W (j.later c) p).mono fun e w' ⟨f,_,r⟩=>⟨f k m,r⟩
 have q:=aa i;have h:=aa c;clear j p m i c
 go_enter func14,ntmps14
 go_wp2_with fail;refine f.mono ?_;rintro e w1⟨rfl,a⟩;have d:=(a.block w.heap.size n).trans q.o;have c0:w1.cell? ⟨w.heap.size,0,none⟩=some (.slice none 0 0):=(Lib.cell_of_heap d 0).trans rfl;have x:w1.frozen? ⟨w.heap.size,0,none⟩=false:=Lib.frozen_of_heap d 0;have s:w.heap.size<w1.heap.size:=zW n a.size;have g:=aa (h.o.trans (a.mono ω))
 clear a f;go_wp2_with fail;have u:=(Lib.cell_of_heap (jN (o:=Obj.cells #[.slice none 0 0,.slice none 0 0] 106) (jG (v:=Value.slice none 0 0) d)) 0).trans (b:=some (Value.slice none 0 0)) rfl;refine bodyPost_ret (v:=.tuple #[.agg #[.slice none 0 0],.slice none 0 0,.int .i64 k,.iface 71 (.int .i64 2)]) (by simp[results,results14,go_sem,u]) rfl ⟨rfl,?_⟩
 exact(g.o.setCell zT _).alloc (by simp[World.setCell];omega) _
theorem yP(t:ByteArray)(w:World)(hE:iv w)(ht:t.size<=1048576)(D:gJ (piecesC 10 t)=none):Calls prog 14 #[.string t] w fun e w'=>O9 t w e w':=by
 have T:Hid (GE t=BN t):=by show _=_;unfold GE;rw[D]
 have U:Hid (MY t=JB t):=by show _=_;unfold MY;rw[D]
 have ai:=aa (BO t);obtain⟨W,hW⟩:=ar (w.alloc (.cells #[.slice none 0 0] 24));have K:Bl w W:=by rw[←hW];exact(zS).alloc zT _
 have hc:W.heap[w.heap.size]?=some (.cells #[.slice none 0 0] 24 (0,0)):=by rw[←hW];exact heap_alloc_new ..
 have hs:w.heap.size<W.heap.size:=(zY hc).1;have h1:Calls prog 42 #[.string t] W fun e w'=>(∃q A C vd vc,e=.returned (.tuple #[.agg #[vd,vc],.int .i64 0,.nilIface])/\W.heap.size<=q/\DrV q (g8 t) A C vd vc w')/\Bl W w':=(tN t W (hE.later K) ht).mono fun e w' ⟨_,I,J⟩=>⟨I D,J⟩
 have HC:=aa hc;have aw:=aa K;have aQ:=aa (hE.later K);clear hE D hc K
 go_enter func14,ntmps14
 go_wp2_with fail;refine h1.mono ?_;rintro e w1⟨⟨q,A,C,vd,vc,rfl,hq,hV⟩,M⟩;have ap:=(M.block w.heap.size hs).trans HC.o;have aH:w.heap.size<w1.heap.size:=zW hs M.size;obtain⟨A0,cap,aL,F⟩:=hV.dm.toV;obtain⟨Ac,cc,aK⟩:=cV hV.cells;subst aL aK;have e1:b7 (g8 t).dims=iq t:=rfl;have e2:(g8 t).dims.length=tF t:=rfl;have ax:=aa hV.cells;rw[e1,e2]at F;rw[e2];obtain⟨n,hn⟩:=ar (tF t);obtain⟨pl,PT⟩:=ar ((g8 t).pl.length);have G:=aa hn;have ay:=aa PT;rw[hn]at F|-;rw[PT];obtain⟨Y1,an⟩:=ar (w1.alloc (.cells #[.slice A0 n cap,.slice Ac pl cc] 106));have X:Bl w1 Y1:=by rw[←an];exact(zS).alloc zT _
 have N:Y1.heap[w1.heap.size]?=some (.cells #[.slice A0 n cap,.slice Ac pl cc] 106 (0,0)):=by rw[←an];exact heap_alloc_new ..
 have aT:w1.heap.size<Y1.heap.size:=(zY N).1;obtain⟨Y2,ao⟩:=ar (Y1.alloc (.cells #[.slice A0 n cap] 24));have f:Bl Y1 Y2:=by rw[←ao];exact(zS).alloc zT _
 have Y:Y2.heap[Y1.heap.size]?=some (.cells #[.slice A0 n cap] 24 (0,0)):=by rw[←ao];exact heap_alloc_new ..
 have aI:Y1.heap.size<Y2.heap.size:=(zY Y).1;have r:=aa (ad X f);have k1:w1.cell? ⟨w1.heap.size,0,none⟩=none:=by simp[World.cell?]
 have d0:Y1.cell? ⟨w1.heap.size,0,none⟩=some (.slice A0 n cap):=(Lib.cell_of_heap N 0).trans rfl;have o0:Y2.cell? ⟨Y1.heap.size,0,none⟩=some (.slice A0 n cap):=(Lib.cell_of_heap Y 0).trans rfl;have aj:=aa F;have HF:Hid (∀w',Bl Y2 w'->w'.heap[w.heap.size]?=some (.cells #[.slice none 0 0] 24 (0,0))/\w'.cell? ⟨w1.heap.size,1,none⟩=some (.slice Ac pl cc)/\w'.cell? ⟨Y1.heap.size,0,none⟩=some (.slice A0 n cap)/\w.heap.size<w'.heap.size):=fun w' D=>⟨(D.block _ ω).trans ((f.block _ ω).trans ((X.block _ aH).trans ap)),aM D (by show w1.heap.size<_;omega) ((f.cell (p:=⟨w1.heap.size,1,none⟩) (by show w1.heap.size<_;omega)).trans ((Lib.cell_of_heap N 1).trans rfl)),aM D aI o0,zW ω D.size⟩
 have H:Hid (Bl w Y2):=aw.o.trans ((M.mono ω).trans (r.o.mono ω))
 have al:=aa hV.dm;have aS:w.heap.size<q:=ω;rw[e2,G.o]at al;have l:=eF A0 cap n (iq t) A C Y2 (F.later r.o);obtain⟨f1,f2,hf⟩:∃f1 f2,(au (iq t) n).1=f1/\(au (iq t) n).2.1=f2:=⟨_,_,rfl,rfl⟩;rw[hf.1,hf.2]at l;clear M h1 hV F hn PT e1 e2 hq k1 hf X f ap N Y
 by_cases Q:(au (iq t) n).2.2=0
 ·have HR:Hid ((au (iq t) (tF t)).2.2=0):=by show _=_;rw[G.o];exact Q
  rw[Q,errV_zero]at l;have S:Hid (∀w',Bl Y2 w'->Calls prog 43 #[.agg #[.slice A0 n cap],.slice Ac pl cc] w' fun e ab=>O8 (iq t) n (g8 t) w' e ab):=fun w' D=>by
   have h1:=ak ax.o (ad r.o D);have I:=vf A0 cap n (iq t) A C (g8 t) (q+1) _ w' (aj.o.later (ad r.o D)) h1 (fun s hs=>zV (ai.o.2.2 s hs) ht) (zV ai.o.1 ht)
   rw[ay.o]at I;exact I
  clear Q;go_wp2_with fail;refine l.mono ?_;rintro e w3⟨rfl,f⟩;obtain⟨x0,x1,x2,x3⟩:=HF.o w3 f;have ag:=aa f;have I:=S.o w3 f;clear l f
  by_cases z:jB (iq t) n (g8 t) = -1
  ·have ah:Hid (jB (iq t) (tF t) (g8 t) = -1):=by show _=_;rw[G.o];exact z
   have J:Calls prog 43 #[.agg #[.slice A0 n cap],.slice Ac pl cc] w3 fun e ab=>(∃xs A c,e=.returned (.tuple #[.slice A xs.length c,.int .i64 0,.nilIface])/\lE xs=GC (iq t) n (g8 t)/\ab.ownsRow w3.heap.size 45 2 (.slice A xs.length c) xs.length (cellsE xs)/\∀x∈xs,bX ab x.A x.c x.e.pl)/\Bl w3 ab:=I.mono fun e ab ⟨_,h4,h5⟩=>⟨h4 z,h5⟩
   clear I z S;go_wp2_with fail;refine J.mono ?_;rintro e w4⟨⟨xs,AE,ce,rfl,PU,PV,PW⟩,i⟩;have d:=aa (ad ag.o i);obtain⟨y0,y1,y2,y3⟩:=HF.o w4 d.o;obtain⟨A9,c9,av,am⟩:=Dc PV PW;have P:bU w4 AE ce xs:=by cases av;exact am
   have g:=dW A0 cap n (iq t) A C AE ce xs w4 (aj.o.later (ad r.o d.o)) P;rw[PU]at g;have az:Hid (lE xs=MZ t):=by show _=_;unfold MZ;rw[G.o];exact PU
   have aA:=aa PV;have aB:=aa PW;obtain⟨L,hL⟩:=ar xs.length;have HL:=aa hL;rw[hL]at g|-;obtain⟨V,Z⟩:=ar (entsErr (iq t) n (GC (iq t) n (g8 t)));rw[Z]at g;have a:Hid (GE t=V):=by
    show _=_
    rw[T.o];unfold BN MZ;rw[if_neg (by simpa using HR.o),ah.o,if_neg (by decide),G.o]
    exact Z
   have y:Hid (MY t=0):=by
    show _=_
    rw[U.o];unfold JB;rw[if_neg (by simpa using HR.o),ah.o,if_neg (by decide)]
   clear PU PV PW av am P hL Z i J x0 x1 x2 x3
   by_cases B:V=0
   ·have R:=aa B
    rw[B,errV_zero]at g;clear B;go_wp2_with fail;refine g.mono ?_;rintro e w5⟨rfl,o⟩;have u:=aa (ad d.o o);obtain⟨m,z1,z2,z3⟩:=HF.o w5 u.o;have O:=aa (ak aA.o o);have af:Hid (∀x∈xs,bX w5 x.A x.c x.e.pl):=fun x hx=>(aB.o x hx).later o
    have c0:w5.cell? ⟨w.heap.size,0,none⟩=some (.slice none 0 0):=(Lib.cell_of_heap m 0).trans rfl;have g0:w5.frozen? ⟨w.heap.size,0,none⟩=false:=Lib.frozen_of_heap m 0;clear o g y0 y1 y2 y3;go_wp2_with fail;have p0:=(Lib.cell_of_heap (jG (v:=Value.slice A0 n cap) m) 0).trans (b:=some (Value.slice A0 n cap)) rfl;refine bodyPost_ret (v:=.tuple #[.agg #[.slice A0 n cap],.slice AE L ce,.int .i64 0,.nilIface]) (by simp[results,results14,go_sem,p0]) rfl ?_
    have aD:DmV (w5.setCell ⟨w.heap.size,0,none⟩ (.slice A0 n cap)) (q+1) (.slice A0 n cap) A C (g8 t).dims:=(al.o.later (ad r.o u.o)).keep fun b _ _ _ hB _ _=>ae _ _ _ _ _ ω
    obtain⟨aO,aC,aJ,aE⟩:=aD.toV;obtain⟨aP,aR,aN,aF⟩:=Dc (dx O.o (eC O.o m (by decide))) fun x hx=>Jy (j:=0) (v:=.slice A0 n cap) (af.o x hx) m (by decide)
    injection aJ with q1 q2 q3
    injection aN with q4 q5 q6
    subst q1 q3 q4 q6;refine⟨fun h=>absurd (a.o.trans R.o) h,fun _=>⟨A0,cap,A,C,xs,AE,ce,by rw[G.o,HL.o],aE,aF,az.o⟩,(H.o.trans (u.o.mono ω)).setCell zT _⟩
   rw[ac B]at g;have R:=aa B;clear B;go_wp2_with fail;refine g.mono ?_;rintro e w5⟨rfl,o⟩;have u:=aa (ad d.o o);obtain⟨m,z1,z2,z3⟩:=HF.o w5 u.o;have c0:w5.cell? ⟨w.heap.size,0,none⟩=some (.slice none 0 0):=(Lib.cell_of_heap m 0).trans rfl;have g0:w5.frozen? ⟨w.heap.size,0,none⟩=false:=Lib.frozen_of_heap m 0;clear o g y0 y1 y2 y3;go_wp2_with fail;have p0:=(Lib.cell_of_heap (jG (v:=Value.slice none 0 0) m) 0).trans (b:=some (Value.slice none 0 0)) rfl;refine bodyPost_ret (v:=.tuple #[.agg #[.slice none 0 0],.slice none 0 0,.int .i64 0,.iface 71 (.int .i64 V)]) (by simp[results,results14,go_sem,p0]) rfl ?_
   exact⟨fun _=>by rw[a.o,y.o];rfl,fun h=>absurd (a.o.symm.trans h) R.o,(H.o.trans (u.o.mono ω)).setCell zT _⟩
  have aG:0<=jB (iq t) n (g8 t):=by
   rcases findFrom_two (mK (iq t) n (g8 t)) (g8 t).pl.length 0 with h|⟨h,-⟩
   ·exact absurd h z
   exact h
  obtain⟨k,hk⟩:∃k:Nat,jB (iq t) n (g8 t)=k:=⟨(jB (iq t) n (g8 t)).toNat,ω⟩
  have aq:parseErr (iq t) n ((g8 t).pl.getD k noWd)≠0:=by
   rcases findFrom_two (mK (iq t) n (g8 t)) (g8 t).pl.length 0 with h|⟨-,h⟩
   ·exact absurd h z
   have h9:(findFrom (mK (iq t) n (g8 t)) (g8 t).pl.length 0).toNat=k:=by
    have:findFrom (mK (iq t) n (g8 t)) (g8 t).pl.length 0=k:=hk
    omega
   rw[h9]at h;unfold mK at h;exact of_decide_eq_true h
  have J:Rt 43 #[.agg #[.slice A0 n cap],.slice Ac pl cc] w3 (.tuple #[.slice none 0 0,.int .i64 (((g8 t).first+k:Nat):Int),.iface 71 (.int .i64 (parseErr (iq t) n ((g8 t).pl.getD k noWd)))]):=I.mono fun e ab ⟨h4,_,h5⟩=>⟨h4 k hk,h5⟩
  have a:Hid (GE t=parseErr (iq t) n ((g8 t).pl.getD k noWd)):=by
   show _=_
   rw[T.o];unfold BN;rw[if_neg (by simpa using HR.o),G.o,hk,if_pos ω]
   rfl
  have y:Hid (MY t=(g8 t).first+k):=by
   show _=_
   rw[U.o];unfold JB;rw[if_neg (by simpa using HR.o),G.o,hk,if_pos ω]
   rfl
  have E:=aa aq;generalize parseErr (iq t) n ((g8 t).pl.getD k noWd)=V at J a E;generalize (g8 t).first+k=kk at J y;clear I z S aG hk aq;go_wp2_with fail;refine J.mono ?_;rintro e w4⟨rfl,i⟩;have d:=aa (ad ag.o i);obtain⟨m,z1,z2,z3⟩:=HF.o w4 d.o;have c0:w4.cell? ⟨w.heap.size,0,none⟩=some (.slice none 0 0):=(Lib.cell_of_heap m 0).trans rfl;have g0:w4.frozen? ⟨w.heap.size,0,none⟩=false:=Lib.frozen_of_heap m 0;clear i J x0 x1 x2 x3;go_wp2_with fail;have p0:=(Lib.cell_of_heap (jG (v:=Value.slice none 0 0) m) 0).trans (b:=some (Value.slice none 0 0)) rfl;refine bodyPost_ret (v:=.tuple #[.agg #[.slice none 0 0],.slice none 0 0,.int .i64 kk,.iface 71 (.int .i64 V)]) (by simp[results,results14,go_sem,p0]) rfl ?_
  exact⟨fun _=>by rw[a.o,y.o],fun h=>absurd (a.o.symm.trans h) E.o,(H.o.trans (d.o.mono ω)).setCell zT _⟩
 rw[ac Q]at l;have E:=aa Q;have a:Hid (GE t=(au (iq t) n).2.2):=by
  show _=_
  rw[T.o];unfold BN;rw[G.o,if_pos Q]
 have y:Hid (MY t=0):=by
  show _=_
  rw[U.o];unfold JB;rw[G.o,if_pos Q]
 generalize (au (iq t) n).2.2=V at l a E;clear Q;go_wp2_with fail;refine l.mono ?_;rintro e w4⟨rfl,i⟩;have d:=aa i;obtain⟨m,z1,z2,z3⟩:=HF.o w4 d.o;have c0:w4.cell? ⟨w.heap.size,0,none⟩=some (.slice none 0 0):=(Lib.cell_of_heap m 0).trans rfl;have g0:w4.frozen? ⟨w.heap.size,0,none⟩=false:=Lib.frozen_of_heap m 0;clear i l;go_wp2_with fail;have p0:=(Lib.cell_of_heap (jG (v:=Value.slice none 0 0) m) 0).trans (b:=some (Value.slice none 0 0)) rfl;refine bodyPost_ret (v:=.tuple #[.agg #[.slice none 0 0],.slice none 0 0,.int .i64 0,.iface 71 (.int .i64 V)]) (by simp[results,results14,go_sem,p0]) rfl ?_
 exact⟨fun _=>by rw[a.o,y.o];rfl,fun h=>absurd (a.o.symm.trans h) E.o,(H.o.trans (d.o.mono ω)).setCell zT _⟩
theorem Cs(t:ByteArray)(w:World)(b:iv w)(c:t.size<=1048576):Calls prog 14 #[.string t] w fun e w'=>O9 t w e w':=by
 cases hb:gJ (piecesC 10 t)with
 |none=>exact yP t w b c hb
 |some k =>
  have a:GE t=2:=by unfold GE;rw[hb]
  have d:MY t=k:=by unfold MY;rw[hb]
  refine(Ct t k w b c hb).mono fun e w' ⟨g,f⟩=>⟨fun _=>by rw[a,d];exact g,fun h=>?_,f⟩
  rw[a]at h;cases h
def O1(c:Int):Prop:=c=40\/c=41\/dV c=true\/cZ c=true\/0<=signI c
theorem tz{s:ByteArray}{a:Nat}(h:a<s.size):nextB s a=byteN s a:=by unfold nextB;rw[if_neg ω]
theorem nW{s:ByteArray}{a n i:Nat}(b:i<n):byteN (s.extract a (a+n)) i=byteN s (a+i):=by
 unfold byteN;rw[ByteArray.data_extract,Array.toList_extract,List.extract_eq_take_drop,zZ,zZ,List.getElem?_take_of_lt ω,List.getElem?_drop]
theorem iU{S:Type}(s:ByteArray)(tk:S->ByteArray->S):∀(f:Nat) (ph:Bool) (r:Rd S),r.at'<=s.size->(fS s tk f ph r).2=true->∀i,r.at'<=i->i<s.size->O1 (byteN s i)
 | 0,_,_,_,h,_,_,_=>by simp[fS]at h
 |f+1,false,r,hr,h,i,h1,h2=>by
  rw[fS]at h;have b:=tz (s:=s) (a:=r.at') ω
  by_cases c1:nextB s r.at'=40
  ·rw[if_pos c1]at h
   by_cases e:i=r.at'
   ·subst e;rw[←b];exact Or.inl c1
   exact iU s tk f false _ (show r.at'+1<=s.size by omega) h i (show r.at'+1<=i by omega) h2
  rw[if_neg c1]at h
  by_cases c2:dV (nextB s r.at')=true
  ·rw[if_pos c2]at h
   have d:=o7 hr c2
   by_cases e:i<r.at'+digitsN s r.at'
   ·by_cases c0:nextB s r.at'=48
    ·have g:i=r.at':=by unfold digitsN at e;rw[if_pos c0]at e;omega
     subst g;rw[←b];exact Or.inr (Or.inr (Or.inl c2))
    have j:digitsN s r.at'<=leadN dV (s.extract r.at' s.size):=by unfold digitsN;rw[if_neg c0];exact Nat.min_le_left _ _
    have c:=(fy ω c2 j).2.2 (i-r.at') ω
    rw[nW ω,show r.at'+(i-r.at')=i by omega]at c
    exact Or.inr (Or.inr (Or.inl c))
   exact iU s tk f true _ d.2 h i (show r.at'+digitsN s r.at'<=i by omega) h2
  rw[if_neg c2]at h
  by_cases c3:cZ (nextB s r.at')=true
  ·rw[if_pos c3]at h
   have d:=pb hr c3
   by_cases e:i<r.at'+leadN cZ (s.extract r.at' s.size)
   ·have c:=(fy ω c3 zT).2.2 (i-r.at') ω
    rw[nW ω,show r.at'+(i-r.at')=i by omega]at c
    exact Or.inr (Or.inr (Or.inr (Or.inl c)))
   exact iU s tk f true _ d.2 h i (show r.at'+leadN cZ (s.extract r.at' s.size)<=i by omega) h2
  rw[if_neg c3]at h;cases h
 |f+1,true,r,hr,h,i,h1,h2=>by
  rw[fS]at h;have b:=tz (s:=s) (a:=r.at') ω
  by_cases c1:0<r.opn/\nextB s r.at'=41
  ·rw[if_pos c1]at h
   by_cases e:i=r.at'
   ·subst e;rw[←b];exact Or.inr (Or.inl c1.2)
   exact iU s tk f true _ (show r.at'+1<=s.size by omega) h i (show r.at'+1<=i by omega) h2
  rw[if_neg c1,if_pos ω]at h
  by_cases c3:signI (nextB s r.at')<0
  ·rw[if_pos c3]at h;cases h
  rw[if_neg c3]at h
  by_cases e:i=r.at'
  ·subst e;rw[←b];exact Or.inr (Or.inr (Or.inr (Or.inr ω)))
  exact iU s tk f false _ (show r.at'+1<=s.size by omega) h i (show r.at'+1<=i by omega) h2
theorem JA{s:ByteArray}(h:prsE s=0):∀i,i<s.size->O1 (byteN s i):=by
 unfold prsE at h
 split at h
 ·split at h<;>cases h
 split at h
 ·rename_i h1
  unfold eZ at h1;rw[y8 zU]at h1;exact fun i a=>iU s takeB _ false ⟨0,0,noB⟩ zU h1 i zU a
 cases h
theorem L5{c:Int}(h:O1 c):c≠10/\c≠32:=by
 refine⟨fun e=>?_,fun e=>?_⟩ <;>subst e<;>rcases h with h|h|h|h|h<;>revert h<;>decide
theorem Lr{D:Nat->Dm}{n i k:Nat}(h:(au D n).2.2=0)(l:i<n)(m:k<(D i).n):∀c∈((D i).mem k).formula.data.toList,c≠10/\c≠32:=by
 have b:mErr (D i) k=0:=(bw ((dZ h).2 i l)).2.1 k m;intro c f;obtain⟨j,d,g⟩:=List.getElem_of_mem f;unfold mErr at b
 split at b
 ·rename_i h0
  simp at d
  omega
 split at b
 ·rename_i h1;exact absurd b h1
 rename_i h1
 have a:=L5 (JA (by simpa using h1) j (by simpa using d))
 unfold byteN at a;rw[zZ,zX d,g]at a;exact⟨fun e=>a.1 (by rw[e];rfl),fun e=>a.2 (by rw[e];rfl)⟩
theorem lZ(x:Int):∀c∈Lib.itoa x,c≠10/\c≠32:=by
 intro c b;have a:∀u,c∈Lib.decDigits u->c≠10/\c≠32:=by
  intro u h;obtain⟨d,-⟩:=LZ u c h;refine⟨fun e=>?_,fun e=>?_⟩ <;>subst e<;>revert d<;>decide
 unfold Lib.itoa at b
 split at b
 ·rcases List.mem_cons.1 b with rfl|h
  ·decide
  exact a _ h
 exact a _ b
theorem Dr{s:ByteArray}(h:nameErr s=0):∀c∈s.data.toList,c≠10/\c≠32:=by
 intro c d;obtain⟨j,b,f⟩:=List.getElem_of_mem d;have a:=(qF h).2.2 j (by simpa using b)
 unfold byteN at a;rw[zZ,zX b,f]at a;refine⟨fun e=>?_,fun e=>?_⟩ <;>subst e<;>revert a<;>decide
theorem Ju(x:Int):∀c∈rU x,c≠10/\c≠32:=by
 intro c a;unfold rU at a
 split at a
 ·exact lZ _ _ a
 rw[List.mem_singleton]at a;subst a;decide
theorem J1(x:Int):∀c∈rV x,c≠10/\c≠32:=by
 intro c a;unfold rV at a
 split at a
 ·rw[List.mem_singleton]at a;subst a;decide
 split at a<;>(rw[List.mem_singleton]at a;subst a;decide)
theorem Ik{s:ByteArray}(h:∀c∈s.data.toList,c≠10/\c≠32):∀c∈lu s,c≠10/\c≠32:=by
 intro c a;unfold lu at a
 split at a
 ·cases a
 rcases List.mem_cons.1 a with rfl|a
 ·decide
 exact h c a
theorem tu{M:Nat->Mem}{k:Nat}(a:aQ M k=0):nameErr (M k).name=0:=by
 unfold aQ at a
 split at a
 ·cases a
 rename_i h3;simpa using h3
theorem Ew{d:Dm}(h:(am d).2=0):nameErr d.name=0:=by
 unfold am at h
 split at h
 ·simp at h
 rename_i h1;simpa using h1
theorem tR{D:Nat->Dm}{n:Nat}{L:List Int}(h:∀k,k<n->∀c∈(fW D L k).data.toList,c≠10/\c≠32):∀k,k<=n->∀c∈aY D L k,c≠10/\c≠32
 | 0,_,c,hc=>by simp[aY]at hc
 |k+1,hk,c,hc=>by
  rw[aY,List.mem_append,List.mem_append]at hc
  rcases hc with hc|hc|hc
  ·exact tR h k ω c hc
  ·split at hc
   ·cases hc
   rw[List.mem_singleton]at hc;subst hc;decide
  exact h k ω c hc
def dL(l:List UInt8):ByteArray:=⟨l.toArray⟩
theorem mkB_data(l:List UInt8):(dL l).data.toList=l:=rfl
theorem gI(s:ByteArray):dL s.data.toList=s:=jH rfl
theorem pB(c:UInt8)(s:ByteArray):piecesC c s=(cutB c s.data.toList).map dL:=rfl
def Ev(d:RDm):List UInt8:=[100,105,109,32]++d.name.data.toList++[32]++Lib.itoa d.solve
def xx(m:Mem):List UInt8:=[109,101,109,32]++m.name.data.toList++[32]++rU m.parent++[32]++rV m.sign++lu m.formula
def Ee(p:ByteArray)(x:Int):List UInt8:=[99,101,108,108,32]++p.data.toList++[32]++Lib.itoa x
def n8(d:RDm):List (List UInt8):=Ev d :: d.mem.map xx
def celLs:List ByteArray->List Int->List (List UInt8)
 |p :: ps,x :: xs=>Ee p x :: celLs ps xs
 |_,_=>[]
def kE(X:List (List UInt8)):List UInt8:=X.flatMap fun l=>l++[10]
def NA(ds:List RDm)(pl:List ByteArray)(num:List Int):List (List UInt8):=ds.flatMap n8++celLs pl num
theorem J4(A B:List (List UInt8)):kE (A++B)=kE A++kE B:=by simp[kE]
theorem nX:∀(pl:List ByteArray) (aa:List Int),aa.length=pl.length->celLs pl aa=(List.range pl.length).map fun k=>Ee (pl.getD k noWd) (aa.getD k 0)
 | [],[],_=>rfl
 |_ :: ps,[],h=>by cases h
 | [],_ :: _,h=>by cases h
 |p :: ps,x :: xs,h=>by
  have:=nX ps xs (by simpa using h)
  rw[List.length_cons,List.range_succ_eq_map,List.map_cons,List.map_map,celLs,this]
  rfl
theorem BP{α:Type}(l:List α)(z:α):(List.range l.length).map (fun i=>l.getD i z)=l:=by
 apply List.ext_getElem
 ·simp
 intro i b a
 simp[List.getD,a]
theorem rp{α:Type}(l:List α)(z:α)(f:α->List UInt8):(List.range l.length).flatMap (fun i=>f (l.getD i z))=l.flatMap f:=by
 conv=>rhs;rw[←BP l z]
 rw[List.flatMap_map]
theorem dimsT_list(ds:List RDm):fq (b7 ds) ds.length=kE (ds.flatMap n8):=by
 have a:∀d:RDm,AB (kG d)++fO (kG d).mem (kG d).n=kE (n8 d):=fun d=>by
  have b:fO (kG d).mem (kG d).n=d.mem.flatMap uw:=rp d.mem I4 uw;rw[b]
  show _=(Ev d++[10])++(d.mem.map xx).flatMap fun l=>l++[10]
  rw[List.flatMap_map]
  rfl
 have c:fq (b7 ds) ds.length=ds.flatMap fun d=>AB (kG d)++fO (kG d).mem (kG d).n:=rp ds fD fun d=>AB (kG d)++fO (kG d).mem (kG d).n
 rw[c];unfold kE;rw[List.flatMap_assoc]
 congr 1
 funext d
 exact a d
theorem IA{x:ByteArray}{l:List UInt8}(h:gG x l=true):x.data.toList=l:=by rw[Di]at h;exact of_decide_eq_true h
theorem D2(a:List RDm)(b:RDm)(m:Mem):jF (a++[b]) m=a++[⟨b.name,b.solve,b.mem++[m]⟩]:=by
 unfold jF;have e:(a++[b]).length-1=a.length:=by simp
 rw[e,List.set_append_right _ _ zT,Nat.sub_self]
 simp[List.getD]
end Go.Proofs.YtjfampgnhccodaaGreatDoor
