/- All lines taken (packa -/
import Derived.Test.YtjfampgnhccodaaGreatDoorJTBK
namespace Go.Proofs.YtjfampgnhccodaaGreatDoor
open Tryz Go ChangeShapes WideShapes ChangeAt RowKit
set_option maxRecDepth 99999
set_option maxHeartbeats 0
def rdEnd(L:List ByteArray):Nat->Nat->Option Nat
 | 0,k=>if(wdB L k).size=0 then none else some k
 |f+1,k=>if oW L k=true then rdEnd L f (k+1)else some k
def gJ(L:List ByteArray):Option Nat:=rdEnd L (L.length-1) 0
theorem ym(L:List ByteArray):∀k,∀d∈(cH L k).dims,d.mem.length<=k
 | 0,d,hd=>by simp[cH,yk]at hd
 |k+1,d,hd=>by
  have a:=ym L k;rw[iQ]at hd;unfold rdLine at hd
  split at hd
  ·simp only[List.mem_append,List.mem_singleton]at hd
   rcases hd with hd|rfl
   ·exact Nat.le_succ_of_le (a d hd)
   exact zU
  split at hd
  ·rename_i hm
   have c:0<(cH L k).dims.length:=by
    unfold Bd at hm;simp only[Bool.and_eq_true,decide_eq_true_eq]at hm;exact hm.2
   simp only[jF]at hd;obtain⟨j,f,b⟩:=List.getElem_of_mem hd;rw[List.getElem_set]at b
   split at b
   ·subst b
    have e:(cH L k).dims.getD ((cH L k).dims.length-1) fD∈(cH L k).dims:=by
     rw[zZ,zX ω,Option.getD_some]
     exact List.getElem_mem _
    have:=a _ e;simp only[List.length_append,List.length_singleton]
    omega
   subst b;exact Nat.le_succ_of_le (a _ (List.getElem_mem _))
  split at hd
  ·exact Nat.le_succ_of_le (a d hd)
  exact Nat.le_succ_of_le (a d hd)
theorem FL(L:List ByteArray)(k:Nat):(b7 (cH L k).dims ((cH L k).dims.length-1)).n<=k:=by
 unfold b7 kG
 show((cH L k).dims.getD _ fD).mem.length<=k
 by_cases h:0<(cH L k).dims.length
 ·refine ym L k _ ?_
  rw[zZ,zX ω,Option.getD_some]
  exact List.getElem_mem _
 have a:(cH L k).dims=[]:=List.length_eq_zero_iff.1 ω
 rw[a];exact zU
theorem LC(P:List ByteArray):bR P<=3:=by
 unfold bR
 split
 ·omega
 split
 ·omega
 split<;>omega
theorem ru{L:List ByteArray}:∀k,(∀j,j<k->oW L j=true)->(cH L k).pl.length=0\/(cH L k).first+(cH L k).pl.length=k
 | 0,_=>Or.inl rfl
 |k+1,h=>by
  have n:=ru k fun j m=>h j ω
  have a:=h k ω
  unfold oW at a;rw[iQ]
  by_cases l:bR (wdsB (L.getD k noWd))=0
  ·rw[DF l]at a;cases a
  by_cases e:bR (wdsB (L.getD k noWd))=1
  ·obtain⟨c,d⟩:=BS (S:=cH L k) (i:=k) e
   rw[c]at a;simp only[Bool.and_eq_true,decide_eq_true_eq]at a;rw[d a.2];exact Or.inl a.2
  by_cases f:bR (wdsB (L.getD k noWd))=2
  ·obtain⟨c,d⟩:=BT (S:=cH L k) (i:=k) f
   rw[c]at a;rw[d a];have b:=a;unfold gW at b;simp only[Bool.and_eq_true,decide_eq_true_eq]at b;exact Or.inl b.2
  have g:bR (wdsB (L.getD k noWd))=3:=by
   have:bR (wdsB (L.getD k noWd))<=3:=LC _
   omega
  rw[BR g];refine Or.inr ?_
  show(if(cH L k).pl.length=0 then k else(cH L k).first)+((cH L k).pl++[_]).length=k+1
  rw[List.length_append,List.length_singleton]
  split
  ·omega
  omega
theorem Jv{c:UInt8}{t a:ByteArray}{k i:Nat}(h:piecesC c a=(piecesC c t).drop k)(g:Lib.indexByte a.data.toList c=i):wdB (piecesC c t) k=a.extract 0 i/\piecesC c (a.extract (i+1) a.size)=(piecesC c t).drop (k+1)/\k+1<(piecesC c t).length:=by
 have b:=(q8 g).2;rw[h]at b;have l:=g7 c (a.extract (i+1) a.size);have j:((piecesC c t).drop k).length=1+(piecesC c (a.extract (i+1) a.size)).length:=by rw[b,List.length_cons];omega
 rw[List.length_drop]at j;have d:k<(piecesC c t).length:=ω;rw[List.drop_eq_getElem_cons d]at b;obtain⟨e,f⟩:=List.cons.inj b;refine⟨?_,f.symm,ω⟩
 unfold wdB;rw[zZ,zX d];exact e
theorem DC{c:UInt8}{t a:ByteArray}{k:Nat}(h:piecesC c a=(piecesC c t).drop k)(d:Lib.indexByte a.data.toList c = -1):wdB (piecesC c t) k=a/\k+1=(piecesC c t).length:=by
 rw[uX d]at h;have e:=congrArg List.length h;rw[List.length_drop,List.length_singleton]at e;have b:k<(piecesC c t).length:=ω;rw[List.drop_eq_getElem_cons b]at h;refine⟨?_,ω⟩
 unfold wdB;rw[zZ,zX b];exact(List.cons.inj h).1.symm
theorem DrV.up{q:Nat}{S:RdQ}{A:Nat->Option Addr}{C:Nat->Nat}{vd vc:Value}{w w':World}(h:DrV q S A C vd vc w)(a:∀b,q<=b->w'.heap[b]?=w.heap[b]?):DrV q S A C vd vc w' :=
 ⟨(a q zT).trans h.box,h.dm.keep fun b _ _ _ e _ _=>a b ω,fQ h.cells fun b c=>by obtain⟨d,-⟩:=aO h.cells c;exact a b ω,h.num⟩
theorem vn{w:World}{H T:Nat}{a b v0 v1:Value}(h:w.heap[H]?=some (.cells #[a,b] T (0,0))):((w.setCell ⟨H,0,none⟩ v0).setCell ⟨H,1,none⟩ v1).cell? ⟨H,0,none⟩=some v0/\((w.setCell ⟨H,0,none⟩ v0).setCell ⟨H,1,none⟩ v1).cell? ⟨H,1,none⟩=some v1:=by
 have c:=G1 (v:=v1) (G0 (v:=v0) h);exact⟨(Lib.cell_of_heap c 0).trans rfl,(Lib.cell_of_heap c 1).trans rfl⟩
def Pr(t:ByteArray)(w:World)(e:Ending)(w':World):Prop :=
 (∀k,gJ (piecesC 10 t)=some k->e=.returned (.tuple #[.agg #[.slice none 0 0,.slice none 0 0],.int .i64 k,.iface 71 (.int .i64 2)]))/\(gJ (piecesC 10 t)=none->∃q A C vd vc,e=.returned (.tuple #[.agg #[vd,vc],.int .i64 0,.nilIface])/\w.heap.size<=q/\DrV q (cH (piecesC 10 t) ((piecesC 10 t).length-1)) A C vd vc w')/\Bl w w'
def KN(w:World):World:=(w.alloc (.cells #[.slice none 0 0,.slice none 0 0] 106)).alloc (.cells #[.slice none 0 0,.slice none 0 0] 106)
theorem JH(w:World):(KN w).heap.size=w.heap.size+2:=by unfold KN;simp
theorem FM(w:World):Bl w (KN w):=by unfold KN;go_grown
theorem Mh(w:World):(KN w).heap[w.heap.size]?=some (.cells #[.slice none 0 0,.slice none 0 0] 106 (0,0)):=by unfold KN;rw[heap_alloc_old _ _ σ];exact heap_alloc_new ..
theorem NK(w:World):DrV (w.heap.size+1) yk (fun _=>none) (fun _=>0) (.slice none 0 0) (.slice none 0 0) (KN w):=by
 refine⟨?_,DmV.nil _ _ _ _,World.ownsRow_nil _ _ _ 3,rfl⟩;unfold KN;have:=heap_alloc_new (w.alloc (.cells #[.slice none 0 0,.slice none 0 0] 106)) (.cells #[.slice none 0 0,.slice none 0 0] 106)
 simpa using this
theorem tN(t:ByteArray)(w:World)(hE:iv w)(ht:t.size<=1048576):Calls prog 42 #[.string t] w fun e w'=>Pr t w e w':=by
 have HE:=aa hE;have ai:=lh 10 t;obtain⟨L,hL⟩:=ar (piecesC 10 t);have y:=aa hL;obtain⟨n,hn⟩:=ar (L.length-1);have PT:L.length=n+1:=by have:=g7 10 t;rw[hL]at this;omega
 have aA:n<=1048576:=by rw[hL]at ai;omega
 have F:=aa PT;have V:=aa (NK w);have B:=aa (FM w);have Z:=aa (Mh w);have ao:=JH w;obtain⟨W,hW⟩:=ar (KN w);rw[hW]at V B Z ao;unfold KN at hW;clear hE ai hL PT hn
 go_enter func42,ntmps42
 go_wp2_with fail
 go_loopg [0,6] n (fun g s0 s6 wr =>∃(k:Nat) (a:ByteArray),k<=n/\g=n-k/\s0=.string a/\s6=.int .i64 k/\a.size<=t.size/\Hid (piecesC 10 a=L.drop k)/\Hid (∀j,j<k->oW L j=true)/\Hid (rdEnd L (n-k) k=gJ L)/\Hid (Oh (w.heap.size+1) (cH L k) wr)/\Hid (Below (w.heap.size+1) W wr))
 case atStart=>exact⟨0,t,zU,rfl,rfl,rfl,zT,aa (by rw[y.o];rfl),aa fun j o=>absurd o (Nat.not_lt_zero _),aa (by unfold gJ;rw[F.o];rfl),aa ⟨_,_,_,_,V.o⟩,aa zS⟩
 case round =>
  obtain⟨k,a,hk,rfl,rfl,rfl,aB,HP,HA,x,X,q⟩:=hrel;have ay:w.heap.size<W.heap.size:=ω;have l:=(q.o.block w.heap.size ω).trans Z.o
  have y0:wr.cell? ⟨w.heap.size,0,none⟩=some (.slice none 0 0):=(Lib.cell_of_heap l 0).trans rfl;have y1:wr.cell? ⟨w.heap.size,1,none⟩=some (.slice none 0 0):=(Lib.cell_of_heap l 1).trans rfl;have z0:wr.frozen? ⟨w.heap.size,0,none⟩=false:=Lib.frozen_of_heap l 0;have z1:wr.frozen? ⟨w.heap.size,1,none⟩=false:=Lib.frozen_of_heap l 1;have S:=aa l;have aC:w.heap.size+1<wr.heap.size:=zW ω q.o.size
  clear l
  by_cases he:a.size=0
  ·have hg:a.toList=[]:=by rw[ByteArray.toList_eq];exact List.length_eq_zero_iff.1 (by rw[←Lib.size_eq];exact he)
   have ah:Lib.indexByte a.data.toList 10 = -1:=by rw[←ByteArray.toList_eq,hg];rfl
   obtain⟨z,K⟩:=DC (t:=t) (k:=k) (by rw[y.o];exact HP.o) ah
   rw[y.o]at z K;have u:k=n:=by have:=F.o;omega
   have I:gJ L=none:=by
    rw[←x.o,u,Nat.sub_self,rdEnd,if_pos];rw[←u,z];exact he
   have an:=aa I;subst u;obtain⟨A,C,vd,vc,M⟩:=X.o;obtain⟨Ad,cd,aw⟩:=cV M.dm.dims;obtain⟨Ac,cc,av⟩:=cV M.cells;subst aw av;have HV:=aa M;have x0:wr.cell? ⟨w.heap.size+1,0,none⟩=some (.slice Ad (cH L k).dims.length cd):=(Lib.cell_of_heap M.box 0).trans rfl;have x1:wr.cell? ⟨w.heap.size+1,1,none⟩=some (.slice Ac (cH L k).pl.length cc):=(Lib.cell_of_heap M.box 1).trans rfl;have E:Hid (∀v0 v1:Value,DrV (w.heap.size+1) (cH L k) A C (.slice Ad (cH L k).dims.length cd) (.slice Ac (cH L k).pl.length cc) ((wr.setCell ⟨w.heap.size,0,none⟩ v0).setCell ⟨w.heap.size,1,none⟩ v1)):=fun v0 v1=>HV.o.up fun b hb=>by rw[ae _ _ _ _ _ ω,ae _ _ _ _ _ ω]
   generalize (cH L k).dims.length=dn at x0 E;generalize (cH L k).pl.length=pn at x1 E;have D:Hid (∀v0 v1:Value,Bl w ((wr.setCell ⟨w.heap.size,0,none⟩ v0).setCell ⟨w.heap.size,1,none⟩ v1)):=fun v0 v1=>((B.o.trans (q.o.mono ω)).setCell zT _).setCell zT _
   clear M ah z K I HV hW;go_wp2_with fail;obtain⟨p0,p1⟩:=vn (v0:=.slice Ad dn cd) (v1:=.slice Ac pn cc) S.o;refine bodyPost_ret (v:=.tuple #[.agg #[.slice Ad dn cd,.slice Ac pn cc],.int .i64 0,.nilIface]) (by simp[results,results42,go_sem,p0,p1]) rfl ?_
   refine⟨fun j o=>?_,fun _=>⟨w.heap.size+1,A,C,_,_,rfl,Nat.le_succ _,?_⟩,D.o _ _⟩
   ·rw[y.o,an.o]at o;cases o
   rw[y.o,F.o];exact E.o _ _
  have hg:a.toList.isEmpty=false:=tw ω
  have s:=fun w=>yE a 10 w ω
  have ag:=Lib.indexByte_ge a.data.toList 10
  by_cases hi:Lib.indexByte a.data.toList 10 = -1
  ·obtain⟨z,K⟩:=DC (t:=t) (k:=k) (by rw[y.o];exact HP.o) hi
   rw[y.o]at z K;have u:k=n:=by have:=F.o;omega
   have h:gJ L=some k:=by
    rw[←x.o,u,Nat.sub_self,rdEnd,if_neg];rw[←u,z];exact he
   have G:=aa h;simp only[mS hi]at s;clear hi ag z K h u;go_wp2_with fail;refine(s _).mono ?_;rintro e w1⟨rfl,c⟩;have t0:=aM c (by show w.heap.size<_;omega) y0
   have t1:=aM c (by show w.heap.size<_;omega) y1
   have t2:=(c.frozen (p:=⟨w.heap.size,0,none⟩) (by show w.heap.size<_;omega)).trans z0
   have t3:=(c.frozen (p:=⟨w.heap.size,1,none⟩) (by show w.heap.size<_;omega)).trans z1
   have P:=aa ((B.o.trans (q.o.mono ω)).trans (c.mono ω))
   have R:=aa ((c.block w.heap.size ω).trans S.o)
   have D:Hid (∀v0 v1:Value,Bl w ((w1.setCell ⟨w.heap.size,0,none⟩ v0).setCell ⟨w.heap.size,1,none⟩ v1)):=fun v0 v1=>(P.o.setCell zT _).setCell zT _
   clear c y0 y1 z0 z1 hW;go_wp2_with fail;obtain⟨p0,p1⟩:=vn (v0:=.slice none 0 0) (v1:=.slice none 0 0) R.o;refine bodyPost_ret (v:=.tuple #[.agg #[.slice none 0 0,.slice none 0 0],.int .i64 k,.iface 71 (.int .i64 2)]) (by simp[results,results42,go_sem,p0,p1]) rfl ?_
   refine⟨fun j o=>?_,fun o=>?_,D.o _ _⟩
   ·rw[y.o,G.o]at o;cases o;rfl
   rw[y.o,G.o]at o;cases o
  obtain⟨i,hI⟩:∃i:Nat,Lib.indexByte a.data.toList 10=i:=⟨(Lib.indexByte a.data.toList 10).toNat,ω⟩
  obtain⟨z,K,e3⟩:=Jv (t:=t) (k:=k) (by rw[y.o];exact HP.o) hI
  simp only[mT hI]at s;rw[y.o]at z K e3;have az:k<n:=by have:=F.o;omega
  have au:=qt hI;obtain⟨ab,m⟩:=ar (a.extract 0 i);obtain⟨J,d⟩:=ar (a.extract (i+1) a.size);have aD:ab.size<=t.size:=by rw[←m,ByteArray.size_extract];omega
  have ax:J.size<=t.size:=by rw[←d,ByteArray.size_extract];omega
  rw[m]at z;simp only[m]at s;simp only[d]at s;rw[d]at K;have am:=aa K;have aj:rdLine (cH L k) k (wdsB ab)=rdLine (cH L k) k (wdsB (L.getD k noWd)):=by rw[←z];rfl
  have T:=nC L k;have af:=ru k HA.o;have aq:=FL L k;obtain⟨A,C,vd,vc,M⟩:=X.o;have HT:Hid (∀w',Bl wr w'->Calls prog 82 #[.pointer (some ⟨w.heap.size+1,0,none⟩),.string ab,.int .i64 k] w' fun e ak=>e=.returned (.bool (oW L k))/\Below (w.heap.size+1) w' ak/\(oW L k=true->Oh (w.heap.size+1) (cH L (k+1)) ak)):=fun w' hb=>by
   have N:=Gg (w.heap.size+1) (cH L k) A C vd vc ab k w' (M.later hb) (HE.o.later (ad ((B.o.trans (q.o.mono ω))) hb)) af ω ω ω ω
   rw[aj]at N;exact N
  clear M aj T af aq hI hi ag m d z K e3 au hW;cases hok:oW L k with
  |false =>
   have h:gJ L=some k:=by
    rw[←x.o];obtain⟨f,hf⟩:∃f,n-k=f+1:=⟨n-k-1,ω⟩
    rw[hf,rdEnd,if_neg (by rw[hok];decide)]
   have G:=aa h;rw[hok]at HT;clear h hok;go_wp2_with fail;refine(s _).mono ?_;rintro e w1⟨rfl,c⟩;have N:=HT.o _ c;have O:=aa c;clear c;go_wp2_with fail;refine N.mono ?_;rintro e w2⟨rfl,H,-⟩;have r:Below (w.heap.size+1) wr w2:=(O.o.mono ω).trans H
   have t0:=aM r (by show w.heap.size<_;omega) y0
   have t1:=aM r (by show w.heap.size<_;omega) y1
   have t2:=(r.frozen (p:=⟨w.heap.size,0,none⟩) (by show w.heap.size<_;omega)).trans z0
   have t3:=(r.frozen (p:=⟨w.heap.size,1,none⟩) (by show w.heap.size<_;omega)).trans z1
   have P:=aa ((B.o.trans (q.o.mono ω)).trans (r.mono ω))
   have R:=aa ((r.block w.heap.size ω).trans S.o)
   have D:Hid (∀v0 v1:Value,Bl w ((w2.setCell ⟨w.heap.size,0,none⟩ v0).setCell ⟨w.heap.size,1,none⟩ v1)):=fun v0 v1=>(P.o.setCell zT _).setCell zT _
   clear H r y0 y1 z0 z1 N;go_wp2_with fail;obtain⟨p0,p1⟩:=vn (v0:=.slice none 0 0) (v1:=.slice none 0 0) R.o;refine bodyPost_ret (v:=.tuple #[.agg #[.slice none 0 0,.slice none 0 0],.int .i64 k,.iface 71 (.int .i64 2)]) (by simp[results,results42,go_sem,p0,p1]) rfl ?_
   refine⟨fun j o=>?_,fun o=>?_,D.o _ _⟩
   ·rw[y.o,G.o]at o;cases o;rfl
   rw[y.o,G.o]at o;cases o
  |true =>
   have al:Hid (∀j,j<k+1->oW L j=true):=fun j o=>by
    by_cases ap:j<k
    ·exact HA.o j ap
    obtain rfl:j=k:=ω;exact hok
   have Q:Hid (rdEnd L (n-(k+1)) (k+1)=gJ L):=by
    show _=_
    rw[←x.o];obtain⟨f,hf⟩:∃f,n-k=f+1:=⟨n-k-1,ω⟩
    rw[hf,rdEnd,if_pos hok,show n-(k+1)=f by omega]
   rw[hok]at HT;clear hok;go_wp2_with fail;refine(s _).mono ?_;rintro e w1⟨rfl,c⟩;have N:=HT.o _ c;have O:=aa c;clear c;go_wp2_with fail;refine N.mono ?_;rintro e w2⟨rfl,H,ac⟩;have U:=aa (q.o.trans ((O.o.mono ω).trans H))
   have Y:=aa (ac trivial);clear H ac N;go_wp2_with fail
   go_roundg (n-(k+1))
   case measure=>omega
   case rel=>exact⟨k+1,J,ω,rfl,rfl,by go_num,ax,am,al,Q,Y,U⟩
def mK(D:Nat->Dm)(n:Nat)(S:RdQ)(k:Nat):Bool:=decide (parseErr D n (S.pl.getD k noWd)≠0)
def jB(D:Nat->Dm)(n:Nat)(S:RdQ):Int:=findFrom (mK D n S) S.pl.length 0
def Hy(D:Nat->Dm)(n:Nat)(S:RdQ)(k:Nat):En:=⟨parseL D n (S.pl.getD k noWd),S.num.getD k 0⟩
def GC(D:Nat->Dm)(n:Nat)(S:RdQ):List En:=(List.range S.pl.length).map (Hy D n S)
theorem Ie{D:Nat->Dm}{n:Nat}{S:RdQ}{k:Nat}(a:k<S.pl.length):(GC D n S).take (k+1)=(GC D n S).take k++[Hy D n S k]:=by
 unfold GC;rw[List.take_add_one]
 congr 1
 simp[a]
theorem yc{w w':World}{A:Option Addr}{c B n:Nat}{L:List Int}{v:Value}{xs:List Value}(h:bX w A c L)(d:w.ownsRow B 45 2 v n xs)(p:w.grownBy w' v.ownBlock):bX w' A c L:=by
 obtain⟨k,g|⟨b,o,cs,f,g,i,m⟩⟩:=h
 ·exact⟨k,Or.inl g⟩
 have l:w'.heap[b]?=w.heap[b]?:=p.block b (zY i).1 fun e=>eC d i qg e.symm
 exact⟨k,Or.inr ⟨b,o,cs,f,g,l.trans i,fun j q=>(World.cell?_of_block (a:=⟨b,o+j,none⟩) l).trans (m j q)⟩⟩
theorem Dc{w:World}{B:Nat}{v:Value}{xs:List EnL}(h:w.ownsRow B 45 2 v xs.length (cellsE xs))(n:∀x∈xs,bX w x.A x.c x.e.pl):∃A c,v=.slice A xs.length c/\bU w A c xs:=by
 rcases h.2 with⟨rfl,i⟩|⟨g,cap,f,rfl,q,d,k,l,p,m⟩
 ·have:xs=[]:=List.eq_nil_of_length_eq_zero i
  subst this;exact⟨none,0,rfl,zT,ω,Or.inl rfl⟩
 refine⟨_,cap,rfl,k,by unfold maxLen at l;omega,Or.inr ⟨g,0,rfl,(zY d).1,fun j u a=>?_,fun x o=>(n x o).pl⟩⟩
 have b:j<xs.length*2:=by rw[←cellsE_len];exact(List.getElem?_eq_some_iff.1 a).1
 rw[←m,List.getElem?_take,if_pos b,Array.getElem?_toList]at a;rw[Nat.zero_add]
 simp[World.cell?,d,a]
theorem Jy{w:World}{A:Option Addr}{c H j T:Nat}{L:List Int}{cs:Array Value}{fr:Nat×Nat}{v:Value}(h:bX w A c L)(p:w.heap[H]?=some (.cells cs T fr))(q:T≠3):bX (w.setCell ⟨H,j,none⟩ v) A c L:=by
 obtain⟨l,g|⟨b,o,d,f,g,i,n⟩⟩:=h
 ·exact⟨l,Or.inl g⟩
 have k:b≠H:=fun e=>by
  rw[e,p]at i;exact q (Obj.cells.inj (Option.some.inj i)).2.1
 have m:=ae w H j b v k;exact⟨l,Or.inr ⟨b,o,d,f,g,m.trans i,fun j' r=>(World.cell?_of_block (a:=⟨b,o+j',none⟩) m).trans (n j' r)⟩⟩
def O8(D:Nat->Dm)(n:Nat)(S:RdQ)(w:World)(e:Ending)(w':World):Prop :=
 (∀k:Nat,jB D n S=k->e=.returned (.tuple #[.slice none 0 0,.int .i64 ((S.first+k:Nat):Int),.iface 71 (.int .i64 (parseErr D n (S.pl.getD k noWd)))])) /\
 (jB D n S = -1->∃xs A c,e=.returned (.tuple #[.slice A xs.length c,.int .i64 0,.nilIface])/\lE xs=GC D n S/\w'.ownsRow w.heap.size 45 2 (.slice A xs.length c) xs.length (cellsE xs)/\∀x∈xs,bX w' x.A x.c x.e.pl)/\Bl w w'
theorem vf(A0:Option Addr)(cap n:Nat)(D:Nat->Dm)(A:Nat->Option Addr)(C:Nat->Nat)(S:RdQ)(B:Nat)(vc:Value)(w:World)(hM:aL w A0 cap n D A C)(hW:w.ownsRow B 167 3 vc S.pl.length (cellsDW S S.pl.length))(hS:∀s∈S.pl,s.size<=1048576)(hN:S.pl.length<=1048576):
  Calls prog 43 #[.agg #[.slice A0 n cap],vc] w fun e w'=>O8 D n S w e w':=by
 obtain⟨Ac,cc,aA⟩:=cV hW;subst aA;have L:=ay w A0 n cap 24;have P:=aU w A0 n cap 24;have P5:=aB w A0 n cap 24;obtain⟨W,PW⟩:=ar (aE w A0 n cap 24);rw[PW]at L P P5;unfold aE at PW;have p:=aa L;have HM:=aa hM;have HW:=aa hW;have HS:Hid (∀k,(S.pl.getD k noWd).size<=1048576):=fun k=>by
  by_cases hk:k<S.pl.length
  ·exact hS _ (by rw[zZ,zX hk];exact List.getElem_mem hk)
  rw[zZ,List.getElem?_eq_none ω];exact zU
 obtain⟨i0,ax,aC,aD,aF⟩:=info_parts infoEntK;obtain⟨N,M⟩:=ar S.pl.length;have i:=aa M;rw[M]at hN|-;have HA:Hid (∀w',Bl W w'->w'.cell? ⟨w.heap.size,0,none⟩=some (.slice A0 n cap)):=fun w' h=>aM h (by show w.heap.size<_;omega) P
 clear hM hW hS L P M
 go_enter func43,ntmps43
 go_wp2_with fail
 go_loopg [7,14] N (fun g s7 aG wr =>∃(k:Nat) (v:Value) (xs:List EnL),k<=N/\g=N-k/\aG=.int .i64 k/\s7=v/\Hid (xs.length=k)/\Hid (lE xs=(GC D n S).take k)/\Hid (wr.ownsRow W.heap.size 45 2 v k (cellsE xs))/\Hid (∀x∈xs,bX wr x.A x.c x.e.pl)/\Hid (findFrom (mK D n S) (N-k) k=jB D n S)/\Hid (Bl W wr))
 case atStart=>exact⟨0,_,[],zU,rfl,rfl,rfl,aa rfl,aa rfl,aa (World.ownsRow_nil _ _ _ 2),aa (fun x t=>by cases t),aa (by unfold jB;rw[i.o];rfl),aa zS⟩
 case round =>
  obtain⟨k,v,xs,hk,rfl,rfl,rfl,K,Z,HO,X,HF,b⟩:=hrel
  by_cases PZ:k<N
  ·have aI:(k:Int)<(N:Int):=ω;have q:=ak HW.o (p.o.trans (b.o.mono ω))
   obtain⟨gc,ca,P6,-,aw⟩:=q.form (by rw[i.o];omega)
   have av:Ac=some ⟨gc,0,none⟩:=by injection P6
   subst av;have a:=zd S S.pl.length k (by rw[i.o];exact PZ)
   have c0:=(q.cellAt (k*3) (by rw[i.o];omega)).trans a.1
   have c1:=(q.cellAt (k*3+1) (by rw[i.o];omega)).trans a.2.1
   have c2:=(q.cellAt (k*3+2) (by rw[i.o];omega)).trans a.2.2
   have ha:=HA.o wr b.o;obtain⟨li,Q⟩:∃li:Int,((S.first+k:Nat):Int)=li:=⟨_,rfl⟩;obtain⟨nu,R⟩:=ar (S.num.getD k 0);obtain⟨tx,H⟩:=ar (S.pl.getD k noWd);rw[Q]at c0;rw[H]at c1;rw[R]at c2;have af:=aa Q;have ai:=aa R;have y:=aa H;obtain⟨Y,hY⟩:=ar (wr.alloc (.cells #[.int .i64 li,.string tx,.int .i64 nu] 167));have E:Bl wr Y:=by rw[←hY];exact(zS).alloc zT _
   have o:Y.heap[wr.heap.size]?=some (.cells #[.int .i64 li,.string tx,.int .i64 nu] 167 (0,0)):=by rw[←hY];exact heap_alloc_new ..
   have PX:wr.heap.size<Y.heap.size:=(zY o).1;have y0:Y.cell? ⟨wr.heap.size,0,none⟩=some (.int .i64 li):=(Lib.cell_of_heap o 0).trans rfl;have y1:Y.cell? ⟨wr.heap.size,1,none⟩=some (.string tx):=(Lib.cell_of_heap o 1).trans rfl;have y2:Y.cell? ⟨wr.heap.size,2,none⟩=some (.int .i64 nu):=(Lib.cell_of_heap o 2).trans rfl;have yA:=HA.o Y (b.o.trans (E.mono b.o.size));have G:=FG A0 cap n D A C tx Y (by have:=HS.o k;rw[H]at this;omega) (HM.o.later (p.o.trans ((b.o.trans (E.mono b.o.size)).mono ω)))
   have PV:=aa E;have aH:=aa o;have P3:W.heap.size<=wr.heap.size:=b.o.size;clear q a P6 E o Q R H aw
   by_cases U:parseErr D n tx=0
   ·have ag:Hid (findFrom (mK D n S) (N-(k+1)) (k+1)=jB D n S):=by
     show _=_
     rw[←HF.o];obtain⟨f,hf⟩:∃f,N-k=f+1:=⟨N-k-1,ω⟩
     rw[hf,bj _ (show mK D n S k=false by unfold mK;rw[y.o,U];rfl),show N-(k+1)=f by omega]
    have V:Hid (Hy D n S k=⟨parseL D n tx,nu⟩):=by show _=_;unfold Hy;rw[y.o,ai.o]
    rw[U,errV_zero]at G;generalize parseL D n tx=PL at G V;clear U;go_wp2_with fail;refine G.mono ?_;rintro e w2⟨⟨A',z,rfl,P2⟩,l⟩;have z2:=aM l PX y2;have m:=aa (ad PV.o l);have J:=aa (ak HO.o m.o);have am:Hid (∀x∈xs,bX w2 x.A x.c x.e.pl):=fun x t=>(X.o x t).later m.o
    have ap:=aa P2;have P4:W.heap.size<=w2.heap.size:=zV P3 m.o.size;obtain⟨A1,c1,rfl⟩:=cV HO.o;clear l G P2
    go_wp2_with (at_builtin;refine wpList_append_own _ rfl _ _ 25 rfl W.heap.size 45 i0 (.agg #[.slice none 0 0,.int .i64 0]) 2 32 underlying25 ax aC aD aF rfl (by decide) _ _ _ rfl (J.o.alloc _) ⟨w2.heap.size,0,none⟩ 1 1 [.slice A' PL.length z,.int .i64 nu] rfl rfl ?qe2 ?qe3 ?qe4 ?qe5 ?qe6 ?_)
    case qe2 =>
     intro j u F;rw[rc,Lib.cell_of_heap (heap_alloc_new w2 (.cells #[.slice A' PL.length z,.int .i64 nu] 45))]
     simpa using F
    case qe3=>intro u hu;simp at hu;rcases hu with rfl|rfl<;>rfl
    case qe4=>simp only[maxLen];omega
    case qe5=>omega
    case qe6=>simp;omega
    intro v' w8 r d P0;have O:=J.o.alloc (.cells #[.slice A' PL.length z,.int .i64 nu] 45);have an:Hid (∀x∈xs++[⟨⟨PL,nu⟩,A',z⟩],bX w8 x.A x.c x.e.pl):=fun x t=>by
     rcases List.mem_append.1 t with t|t
     ·exact yc ((am.o x t).later ((zS).alloc zT _)) O d
     rw[List.mem_singleton]at t;subst t;exact yc (ap.o.later ((zS).alloc zT _)) O d
    have al:Hid (w8.ownsRow W.heap.size 45 2 v' (k+1) (cellsE (xs++[⟨⟨PL,nu⟩,A',z⟩]))):=by
     show World.ownsRow _ _ _ _ _ _ _
     rw[cellsE_append,P5];exact r
    have ab:Hid (Bl W w8):=by
     have h1:Bl W (w2.alloc (.cells #[.slice A' PL.length z,.int .i64 nu] 45)):=(b.o.trans (m.o.mono P3)).alloc P4 _;exact h1.grown d (by simp;omega) fun j F=>(J.o.lt j F).1
    have aq:Hid (lE (xs++[⟨⟨PL,nu⟩,A',z⟩])=(GC D n S).take (k+1)):=by
     show _=_
     rw[Ie (by rw[i.o];exact PZ),V.o,←Z.o]
     simp[lE]
    have PT:Hid ((xs++[(⟨⟨PL,nu⟩,A',z⟩:EnL)]).length=k+1):=by show _=_;simp[K.o]
    clear r d P0 O;go_wp2_with fail
    go_roundg (N-(k+1))
    case measure=>omega
    case rel=>exact⟨k+1,v',_,ω,rfl,by go_num,rfl,PT,aq,al,an,ag,ab⟩
   have PY:mK D n S k=true:=by unfold mK;rw[y.o,decide_eq_true U]
   have I:jB D n S=k:=by
    rw[←HF.o];obtain⟨f,hf⟩:∃f,N-k=f+1:=⟨N-k-1,ω⟩
    rw[hf,bI _ PY]
   have PU:=aa I;rw[ac U]at G;obtain⟨pe,T⟩:=ar (parseErr D n tx);rw[T]at G;have ao:=aa T;generalize parseL D n tx=PL at G;clear U PY I T;go_wp2_with fail;refine G.mono ?_;rintro e w2⟨⟨A',z,rfl,-⟩,l⟩;have z0:=aM l PX y0;have m:=aa ((p.o.trans (b.o.mono ω)).trans (ad PV.o l |>.mono (by have:=p.o.size;omega)))
   clear l G;go_wp2_with fail
   go_quiet (fail)
   go_wp2_with fail
   go_ret3
   refine⟨fun j F=>?_,fun F=>?_,aj m.o _⟩
   ·have:j=k:=by have h:=PU.o;rw[F]at h;omega
    subst this;rw[af.o,y.o,ao.o]
    rfl
   have h:=PU.o;rw[F]at h
   omega
  have az:k=N:=ω;subst az;have P1:jB D n S = -1:=by rw[←HF.o,Nat.sub_self];rfl
  have ah:=aa P1;obtain⟨A7,c7,rfl⟩:=cV HO.o;have ae:Hid (wr.ownsRow w.heap.size 45 2 (.slice A7 k c7) k (cellsE xs)):=mi HO.o ω
  have au:Hid (lE xs=GC D n S):=by
   show _=_
   rw[Z.o,List.take_of_length_le];unfold GC;rw[List.length_map,List.length_range,i.o];exact zT
  clear P1;go_wp2_with fail
  go_ret3
  refine⟨fun j F=>?_,fun _=>⟨xs,A7,c7,by rw[K.o];rfl,au.o,by rw[K.o];exact ae.o,X.o⟩,p.o.trans (b.o.mono ω)⟩
  rw[ah.o]at F
  omega
end Go.Proofs.YtjfampgnhccodaaGreatDoor
