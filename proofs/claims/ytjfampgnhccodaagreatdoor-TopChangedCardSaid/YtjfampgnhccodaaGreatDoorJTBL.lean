/- What next of a queue o -/
import Derived.Test.YtjfampgnhccodaaGreatDoorJTBF
import Derived.Test.YtjfampgnhccodaaGreatDoorJTBJ
namespace Go.Proofs.YtjfampgnhccodaaGreatDoor
open Tryz ChangeShapes WideShapes ChangeAt RowKit
set_option maxRecDepth 99999
set_option maxHeartbeats 0
def vA(q gM gR:Nat)(w w':World):Prop:=Kept w.heap.size (fun k=>k=q\/k=gM\/k=gR) w w'
theorem vA.refl(q gM gR:Nat)(w:World):vA q gM gR w w:=Kept.refl _ _ _
theorem EO{q gM gR:Nat}{w w1 w2:World}(h:vA q gM gR w w1)(k:Bl w1 w2):vA q gM gR w w2:=⟨k.os.trans h.os,k.tape.trans h.tape,k.output.trans h.output,zV h.size k.size,fun i a b=>(k.block i (zW a h.size)).trans (h.block i a b)⟩
theorem un{q gM gR b j:Nat}{w w1:World}{v:Value}(h:vA q gM gR w w1)(c:b=q\/b=gM\/b=gR\/w.heap.size<=b):vA q gM gR w (w1.setCell ⟨b,j,none⟩ v):=⟨h.os,h.tape,h.output,by simp only[World.size_setCell];exact h.size,fun i d a=>by
 rw[ae _ _ _ _ _ (fun e=>by
  rcases c with h1|h1|h1|h1
  ·exact a (Or.inl (e.trans h1))
  ·exact a (Or.inr (Or.inl (e.trans h1)))
  ·exact a (Or.inr (Or.inr (e.trans h1)))
  omega)]
 exact h.block i d a⟩
theorem EP{q gM gR b:Nat}{w w1 w2:World}(h:vA q gM gR w w1)(a:w1.grownBy w2 (some b))(g:b=gR\/w.heap.size<=b):vA q gM gR w w2:=⟨a.os.trans h.os,a.tape.trans h.tape,a.output.trans h.output,zV h.size a.size,fun i c d=>by
 rw[a.block i (zW c h.size) (fun e=>by
  have f:i=b:=by simpa using e
  rcases g with h1|h1
  ·exact d (Or.inr (Or.inr (f.trans h1)))
  omega)]
 exact h.block i c d⟩
theorem FJ(B q gM gU N k:Nat)(Nn:List (List Int))(M:Nat->Int)(UV:Nat->Value)(gR:Nat)(AR:Option Addr)(H:Nat)(RL:List Int)(w:World)(bn:N<=3000)(z:Nn.length=N)(hN:rZ Nn)(hc:∀i:Nat,i<Nn.length->cycB Nn i=false)(hr:∀j,j<Nn.length->(Nn.getD j []).Pairwise (· < ·))(hl:∀j,j<Nn.length->(Nn.getD j []).length<=12)(hk:k<N)(hB:B<=w.heap.size)
  (S:QS w B q gM gU N M UV (fun j=>bv Nn j N) gR AR H RL) (hM:∀j,j<N->M j=(fi Nn (av Nn k) j:Int)) (T:t8 Nn (av Nn k) RL):
  Calls prog 67 #[.pointer (some ⟨q,0,none⟩)] w fun e w' =>∃m:Nat,e=.returned (.int .i64 m)/\m<N/\av Nn (k+1)=av Nn k++[(m:Int)]/\∃M' ac ae a ab,QS w' B q gM gU N M' UV (fun j=>bv Nn j N) ac ae a ab/\(∀j,j<N->M' j=(fi Nn (av Nn (k+1)) j:Int))/\t8 Nn (av Nn (k+1)) ab/\(ac=gR\/w.heap.size<=ac)/\vA q gM gR w w':=by
 obtain⟨m,R0,rfl,ap,aq,au,aK⟩:=rx hN hc (k:=k) ω T
 have E:=u5 (Nn:=Nn) T.1 fun x hx=>by obtain⟨j,h1,I,-⟩:=(T.2 x).1 hx;exact⟨j,h1,I⟩
 rw[z]at E ap;simp only[List.length_cons]at E;obtain⟨p0,p1,p2,pf⟩:=S.cells;obtain⟨-,-,o,rfl,⟨bm,an,ba⟩,C⟩:=id S.ready;have c0:=C 0 σ
 simp only[List.getD_cons_zero,Nat.add_zero]at c0;have aO:=S.ready.1;have a6:=S.ready.2.1;simp only[List.length_cons]at aO p2;have bF:=S.ql;have bu:=S.ready.lt;have hV:=S.ready.tail;have v:Hid (QS (w.setCell ⟨q,2,none⟩ (.slice (if H=1 then some ⟨gR,o,none⟩else some ⟨gR,o+1,none⟩) R0.length (H-1))) B q gM gU N M UV (fun j=>bv Nn j N) gR (if H=1 then some ⟨gR,o,none⟩else some ⟨gR,o+1,none⟩) (H-1) R0):=S.setR zS (bP _ _) hV (Or.inl rfl) hB
 have HM:Hid (∀j,j<N->M j=(ik Nn (av Nn k) m 0 j:Int)):=fun j hj=>by
  rw[hM j hj];unfold ik
  simp
 have aY:=aa aK;have HW:=aa hB;have s:Hid (vA q gM gR w (w.setCell ⟨q,2,none⟩ (.slice (if H=1 then some ⟨gR,o,none⟩else some ⟨gR,o+1,none⟩) R0.length (H-1)))):=un (vA.refl _ _ _ _) (Or.inl rfl)
 obtain⟨rl,az⟩:=ar R0.length;have bl:=aa az;rw[az]at E p2 aO v s;have bH:(rl:Int)+1<=3000:=ω;have a7:(rl:Int)+1<=(H:Int):=ω;have a5:1<=H:=ω;clear hV C an ba S hM T aK az
 go_enter func67,ntmps67
 go_upto_region 2 with fail
 go_cut [3]from 8 (fun s3 wx=>s3=.int .i64 m/\∃A1 c1,QS wx B q gM gU N M UV (fun j=>bv Nn j N) gR A1 c1 R0/\vA q gM gR w wx)
 case first =>
  by_cases ak:H=1
  ·rw[if_pos ak]at v s
   subst ak;have bh:rl=0:=ω;subst bh;go_wp2_with fail;go_meet;exact⟨rfl,_,_,v.o,s.o⟩
  rw[if_neg ak]at v s;go_wp2_with fail;go_meet;exact⟨rfl,_,_,v.o,s.o⟩
 case rest =>
 obtain⟨rfl,A1,c1,f,aH⟩:=hcut;obtain⟨w1,rfl⟩:∃w1:World,w1=wc:=⟨_,rfl⟩;obtain⟨t,ht⟩:=ar ((bv Nn m N).length);have HT:=aa ht;have bK:t<=N:=by rw[←ht];exact vo _ _ _
 obtain⟨Au,cu,aL⟩:∃A c,UV m=.slice A (bv Nn m N).length c:=by
  obtain⟨A',c',e,-⟩:=cY (f.own m ap);exact⟨A',c',e⟩
 have aE:Hid (∀w' M' ac ae a ab,QS w' B q gM gU N M' UV (fun j=>bv Nn j N) ac ae a ab->w'.cell? ⟨gU,m,none⟩=some (.slice Au t cu)/\aJ w' Au cu (bv Nn m N)):=fun w' M' ac ae a ab h=>by
  have I:=h.users ap aL;rw[ht]at I;exact I
 have ai:Hid (∀i,i<t->∃u:Nat,(bv Nn m N).getD i 0=(u:Int)/\u<N/\ik Nn (av Nn k) m i u=fi Nn (av Nn k) u/\1<=fi Nn (av Nn k) u/\fi Nn (av Nn k) u<=12/\ik Nn (av Nn k) m (i+1) u+1=fi Nn (av Nn k) u/\(∀j,j≠u->ik Nn (av Nn k) m (i+1) j=ik Nn (av Nn k) m i j)/\∀R,lx Nn (av Nn k) m i R->(u:Int)∉R/\(fi Nn (av Nn k) u=1->lx Nn (av Nn k) m (i+1) (ur R u))/\(fi Nn (av Nn k) u≠1->lx Nn (av Nn k) m (i+1) R)):=fun i hi=>by
  obtain⟨u,e1,e2,e3,e4,e5,e6,e7⟩:=Kx hr aq (i:=i) (by rw[z,ht];exact hi)
  rw[z]at e1 e2;exact⟨u,e1,e2,e3,e4,zV (NB _ _ _) (hl u (by rw[z];exact e2)),e5,e6,e7⟩
 have aZ:Hid (∀i R,lx Nn (av Nn k) m i R->R.length<=3000/\R.Pairwise (· < ·)):=fun i R h=>by
  have I:=u5 (Nn:=Nn) h.1 fun x hx=>by obtain⟨j,h1,I,-⟩:=(h.2 x).1 hx;exact⟨j,h1,I⟩
  exact⟨ω,h.1⟩
 have W:Hid ((∀j,j<N->ik Nn (av Nn k) m t j=fi Nn (av Nn (k+1)) j)/\∀R,lx Nn (av Nn k) m t R->t8 Nn (av Nn (k+1)) R):=by
  obtain⟨h1,I⟩:=MN hr (k:=k) aq;rw[z,ht]at h1 I;rw[au];exact⟨h1,I⟩
 have aX:=aa au;obtain⟨-,k1,-,-⟩:=f.cells;have bB:=f.ql;have br:=f.hU.lt;obtain⟨kU,-⟩:=aE.o w1 _ _ _ _ _ f;have a1:Hid (∃M' ac ae a ab,QS w1 B q gM gU N M' UV (fun j=>bv Nn j N) ac ae a ab/\(∀j,j<N->M' j=(ik Nn (av Nn k) m 0 j:Int))/\lx Nn (av Nn k) m 0 ab/\(ac=gR\/w.heap.size<=ac)/\vA q gM gR w w1):=⟨M,gR,A1,c1,R0,f,HM.o,aY.o,Or.inl rfl,aH⟩
 have bA:(m:Int)<(N:Int):=ω;have bo:(N:Int)<=3000:=ω;have bJ:(t:Int)<=3000:=ω;clear f aH ht aL hr hl hN hc aq au p0 p1 p2 pf c0;go_wp2_with fail;clear kU k1
 go_loopg [30] t (fun gg bj wr =>∃(i:Nat),i<=t/\gg=t-i/\bj=.int .i64 i/\Hid (∃M' ac ae a ab,QS wr B q gM gU N M' UV (fun j=>bv Nn j N) ac ae a ab/\(∀j,j<N->M' j=(ik Nn (av Nn k) m i j:Int))/\lx Nn (av Nn k) m i ab/\(ac=gR\/w.heap.size<=ac)/\vA q gM gR w wr))
 case atStart=>exact⟨0,zU,rfl,rfl,a1⟩
 case round =>
  obtain⟨i,hi,rfl,rfl,aD⟩:=hrel
  by_cases aQ:i<t
  ·have bx:(i:Int)<(t:Int):=ω;obtain⟨M',ac,ae,a,ab,d,p,r,D,n⟩:=aD.o;obtain⟨u,e1,e2,e3,e4,aG,e5,e6,e7⟩:=ai.o i aQ;obtain⟨aR,aw,ax⟩:=e7 ab r;obtain⟨V,ay⟩:=aZ.o i ab r;obtain⟨-,a3⟩:=aE.o wr _ _ _ _ _ d;obtain⟨a8,-,a4|⟨bs,cs,fr,rfl,aj,al⟩⟩:=a3
   ·have:=HT.o;rw[a4]at this;simp at this;omega
   have cx:=al i (by rw[HT.o];exact aQ)
   have bq:bs<wr.heap.size:=(zY aj).1;rw[HT.o]at a8;rw[e1]at cx;have a9:(t:Int)<=(cu:Int):=ω;have bL:(u:Int)<(N:Int):=ω;obtain⟨q0,-,q2,qf⟩:=d.cells;have bG:=d.ql;have cm:wr.cell? ⟨gM,u,none⟩=some (.int .i64 (M' u)):=d.hM.cell e2;have fm:=d.hM.frozen u;have bw:=d.hM.lt;rw[p u e2,e3]at cm;have aP:w.heap.size<=wr.heap.size:=n.size;obtain⟨mI,F⟩:∃mI:Int,((fi Nn (av Nn k) u:Nat):Int)=mI:=⟨_,rfl⟩;rw[F]at cm;have bz:1<=mI:=ω;have be:mI<=12:=ω;obtain⟨wA,G⟩:=ar (wr.setCell ⟨gM,u,none⟩ (.int .i64 (mI-1)));have b:QS wA B q gM gU N (fun j=>if j=u then mI-1 else M' j) UV (fun j=>bv Nn j N) ac ae a ab:=by rw[←G];exact d.setM u (mI-1)
   have Q:∀j,j<N->(fun j=>if j=u then mI-1 else M' j) j=(ik Nn (av Nn k) m (i+1) j:Int):=fun j hj=>by
    by_cases e:j=u
    ·show(if j=u then mI-1 else M' j)=_
     rw[if_pos e,e]
     omega
    show(if j=u then mI-1 else M' j)=_
    rw[if_neg e,p j hj,e6 j e]
   have O:vA q gM gR w wA:=by rw[←G];exact un n (Or.inr (Or.inl rfl))
   obtain⟨a0,-,a2,af⟩:=b.cells;have bD:=b.ql;have aF:wA.cell? ⟨gM,u,none⟩=some (.int .i64 (mI-1)):=by
    have h:=b.hM.cell e2
    simpa using h
   have bt:=b.hM.lt;have bc:=b.ready.lt;have K:=aa b;have aW:=aa Q;have aV:=aa O;have bi:wA.heap.size=wr.heap.size:=by rw[←G];simp
   obtain⟨aB,l⟩:=ar ab.length;have L:=aa l
   by_cases Y:mI=1
   ·have ah:=aa (aw ω)
    have U:=EM ae a ac ab (u:Int) wA V b.ready ay;have Z:Hid (∀w5 vb,Bl wA w5->w5.heap[vb]?=some (.cells #[.int .i64 (u:Int)] 3 (0,0))->vb≠ac->Calls prog 108 #[.slice ae ab.length a,.int .i64 (ab.countP (· < (u:Int)):Nat),.slice (some ⟨vb,0,none⟩) 1 1] w5 fun e w'=>DY w5 ac (ab.countP (· < (u:Int))) ab u e w'):=fun w5 vb h5 hv bg=>Ix ae a ac (ab.countP (· < (u:Int))) vb ab u w5 V List.countP_le_length (b.ready.later h5) hv bg
    rw[l]at U Z a2 q2;obtain⟨cp,am⟩:=ar (ab.countP (· < (u:Int)));have aC:Hid (ab.take cp++(u:Int):: ab.drop cp=ur ab u):=by show _=_;unfold ur;rw[am]
    rw[am]at U Z;subst Y;have aU:(1:Int)-1=0:=rfl;rw[aU]at G aF;clear d p r n e1 e3 e4 aG e5 e6 e7 aR aw ax al aj b Q O ay V F l am aU;go_wp2_with fail;refine U.mono ?_;rintro e wB⟨⟨bb,rfl⟩,g⟩;have bk:=aa g;obtain⟨b0,-,b2,bf⟩:=(K.o.later g).cells;rw[L.o]at b2;have aS:=(K.o.later g).ql;obtain⟨wC,aA⟩:=ar (wB.alloc (.cells #[.int .i64 (u:Int)] 3));have y:Bl wB wC:=by rw[←aA];go_grown
    have aT:wC.heap[wB.heap.size]?=some (.cells #[.int .i64 (u:Int)] 3 (0,0)):=by rw[←aA];exact heap_alloc_new ..
    have X:=Z.o wC wB.heap.size (ad g y) aT (by have:=g.size;omega)
    have J:=aa (ad g y);have d2:=aM y aS b2;have bE:q<wC.heap.size:=zW aS y.size;clear g U G cm aF a0 a2 q0 q2 aT y;go_wp2_with fail;refine X.mono ?_;rintro e w6⟨g6,A6,c6,rfl,aN,ao,P⟩;obtain⟨z2,zf,bC⟩:=K.o.qin J.o P;rw[L.o]at z2;have bI:=J.o.size;have ag:(ab.take cp++(u:Int):: ab.drop cp).length=aB+1:=by
     rw[aC.o];unfold ur;rw[lY List.countP_le_length,L.o]
    have PT:Hid (∃M' gR'' ae a ab,QS (w6.setCell ⟨q,2,none⟩ (.slice A6 (aB+1) c6)) B q gM gU N M' UV (fun j=>bv Nn j N) gR'' ae a ab/\(∀j,j<N->M' j=(ik Nn (av Nn k) m (i+1) j:Int))/\lx Nn (av Nn k) m (i+1) ab/\(gR''=gR\/w.heap.size<=gR'')/\vA q gM gR w (w6.setCell ⟨q,2,none⟩ (.slice A6 (aB+1) c6))):=by
     have aI:=K.o.setR J.o P aN (ao.imp id fun h=>ω) (by have:=HW.o;omega)
     rw[ag,aC.o]at aI;refine⟨_,g6,A6,c6,_,aI,aW.o,ah.o,?_,un (EP (EO aV.o J.o) P (D.imp id fun h=>h)) (Or.inl rfl)⟩
     rcases ao with h|h
     ·rw[h];exact D
     exact Or.inr ω
    rw[L.o];clear X aA d2 aN ao P b0 b2 bf;go_wp2_with fail
    go_roundg (t-(i+1))
    case measure=>omega
    case rel=>exact⟨i+1,ω,rfl,by go_num,PT⟩
   have bp:((mI-1) == 0)=false:=by
    rw[beq_eq_false_iff_ne]
    omega
   have PT:Hid (∃M' gR'' ae a ab,QS wA B q gM gU N M' UV (fun j=>bv Nn j N) gR'' ae a ab/\(∀j,j<N->M' j=(ik Nn (av Nn k) m (i+1) j:Int))/\lx Nn (av Nn k) m (i+1) ab/\(gR''=gR\/w.heap.size<=gR'')/\vA q gM gR w wA):=⟨_,ac,ae,a,ab,b,Q,ax ω,D,O⟩
   clear d p r n e1 e3 e4 aG e5 e6 e7 aR aw ax al aj b Q O ay V F l Y;go_wp2_with fail
   go_roundg (t-(i+1))
   case measure=>omega
   case rel=>exact⟨i+1,ω,rfl,by go_num,PT⟩
  have bd:i=t:=ω;subst bd;go_wp2_with fail;go_ret;obtain⟨M',ac,ae,a,ab,d,p,r,D,n⟩:=aD.o;exact⟨m,rfl,ω,aX.o,M',ac,ae,a,ab,d,fun j hj=>by rw[p j hj,W.o.1 j hj],W.o.2 _ r,D,n⟩
def t6(w w0:World)(q gM gU N k:Nat)(Nn:List (List Int))(v:Value):Prop := ∃M UV gR AR cR RL,QS w w0.heap.size q gM gU N M UV (fun j=>bv Nn j N) gR AR cR RL/\(∀j,j<N->M j=(fi Nn (av Nn k) j:Int))/\t8 Nn (av Nn k) RL/\w.ownsRow w0.heap.size 3 1 v k (aA (av Nn k))/\(∀b,v.ownBlock=some b->b≠gM/\b≠gR/\∀j,j<N->(UV j).ownBlock≠some b)/\Bl w0 w
section
variable {w w0 w1:World} {q gM gU N k:Nat} {Nn:List (List Int)} {v:Value}
theorem t6.first(h:KS w q gM gU N N Nn w0)(f:Nn.length=N)(o:rZ Nn)(v:∀i:Nat,i<Nn.length->cycB Nn i=false)(p:0<N)(r:N<=3000):t6 (w.alloc (.cells (madeCells #[.int .i64 0] N) 3)) w0 q gM gU N 0 Nn (.slice (some ⟨w.heap.size,0,none⟩) 0 N):=by
 obtain⟨M,UV,R,s,hM,l⟩:=h;have c:t8 Nn [] (selTo (fun j=>(Nn.getD j []).isEmpty) N):=FO (by rw[f])
 obtain⟨m,R',e,-⟩:=rx o v (k:=0) ω c
 obtain⟨gR,n,d⟩:=QS.of s (by rw[e];simp)
 have a:Bl w (w.alloc (.cells (madeCells #[.int .i64 0] N) 3)):=by go_grown
 refine⟨M,UV,gR,_,n,_,d.later a,fun j g=>by rw[hM j g];show _=((fi Nn [] j:Nat):Int);rw[Fg],c,?_,fun b t=>?_,ad l a⟩
 ·exact World.ownsRow_made w _ N l.size (by unfold maxLen;omega) (by simp[madeCells])
 have u:w.heap.size=b:=by simpa [Value.ownBlock]using t
 have x:=d.hM.lt;have y:=d.ready.lt;refine⟨ω,ω,fun j g e=>?_⟩
 have:=(aO (d.own j g) e).2.1
 omega
theorem t6.ready(h:t6 w w0 q gM gU N k Nn v)(f:Nn.length=N)(o:rZ Nn)(p:∀i:Nat,i<Nn.length->cycB Nn i=false):q<w.heap.size/\(k<N->∃A l c,w.cell? ⟨q,2,none⟩=some (.slice A (l+1) c)/\l<=N)/\(k=N->∃A c,w.cell? ⟨q,2,none⟩=some (.slice A 0 c)):=by
 obtain⟨M,UV,gR,AR,n,RL,g,B,a,-⟩:=h;refine⟨g.ql,fun y=>?_,fun u=>?_⟩
 ·obtain⟨m,R',e,-⟩:=rx o p (k:=k) ω a
  have b:=u5 (Nn:=Nn) a.1 fun x z=>by obtain⟨j,r,s,-⟩:=(a.2 x).1 z;exact⟨j,r,s⟩
  have d:=g.cells.2.2.1;rw[e,List.length_cons]at d;rw[e,List.length_cons]at b;exact⟨AR,R'.length,n,d,ω⟩
 have t:RL=[]:=Mi o p (by rw[f,←u];exact a)
 have d:=g.cells.2.2.1;rw[t]at d;exact⟨AR,n,d⟩
theorem t6.step(h:t6 w w0 q gM gU N k Nn v)(H:Nn.length=N)(U:rZ Nn)(B:∀i:Nat,i<Nn.length->cycB Nn i=false)(Z:∀j,j<Nn.length->(Nn.getD j []).Pairwise (· < ·))(X:∀j,j<Nn.length->(Nn.getD j []).length<=12)(G:N<=3000)(W:k<N):
  Calls prog 67 #[.pointer (some ⟨q,0,none⟩)] w fun e w4 =>∃m:Nat,e=.returned (.int .i64 m)/\m<N/\w4.ownsRow w0.heap.size 3 1 v k (aA (av Nn k))/\w0.heap.size<=w4.heap.size/\∀(w5 w6:World) (v':Value),Bl w4 w5->w6.ownsRow w0.heap.size 3 1 v' (k+1) (aA (av Nn k)++[.int .i64 (m:Int)])->w5.grownBy w6 v.ownBlock->(v'.ownBlock=v.ownBlock\/v'.ownBlock=some w5.heap.size)->t6 w6 w0 q gM gU N (k+1) Nn v':=by
 obtain⟨M,UV,gR,AR,S,RL,s,hM,J,A,R,o⟩:=h;refine(FJ w0.heap.size q gM gU N k Nn M UV gR AR S RL w G H U B Z X W o.size s hM J).mono ?_;rintro e w4⟨m,rfl,Y,Q,M',aa,ab,C,ac,f,F,z,O,p⟩;have l:∀b,v.ownBlock=some b->b≠q/\b≠gU/\b<w.heap.size:=fun b a=>by
  obtain⟨-,x,t,B⟩:=aO A a;exact⟨(s.off B).1,(s.off B).2,x⟩
 have I:w4.ownsRow w0.heap.size 3 1 v k (aA (av Nn k)):=by
  refine⟨A.1,?_⟩
  rcases A.2 with h0|⟨g,cap,t,rfl,x,D,h4⟩
  ·exact Or.inl h0
  refine Or.inr ⟨g,cap,t,rfl,x,(p.block g (zY D).1 ?_).trans D,h4⟩;have n:=R g rfl;have E:=l g rfl;rintro(e|e|e)
  ·exact E.1 e
  ·exact n.1 e
  exact n.2.1 e
 have y:Bl w0 w4:=⟨p.os.trans o.os,p.tape.trans o.tape,p.output.trans o.output,zV o.size p.size,fun b a=>(p.block b (zW a o.size) (by
  have u:=s.lq;have x:=s.lM;have D:=s.lR;rintro(e|e|e) <;>omega)).trans (o.block b a)⟩
 refine⟨m,rfl,Y,I,y.size,fun w5 w6 v' n E r L=>?_⟩
 have d:∀b,v.ownBlock=some b->b≠gM/\b≠aa/\∀j,j<N->(UV j).ownBlock≠some b:=fun b a=>by
  have u:=R b a;refine⟨u.1,?_,u.2.2⟩
  rcases O with e|e
  ·rw[e];exact u.2.1
  have:=(l b a).2.2;omega
 have K:=(f.later n).keep r (fun e=>(l q e).1 rfl) (fun e=>(d gM e).1 rfl) (fun e=>(l gU e).2.1 rfl) (fun e=>(d aa e).2.1 rfl) (fun j P b a e=>(d b e).2.2 j P a)
 refine⟨M',UV,aa,ab,C,ac,K,F,z,?_,fun b a=>?_,?_⟩
 ·rw[Q,mapI_snoc];exact E
 ·rcases L with e|e
  ·exact d b (e.symm.trans a)
  have V:w5.heap.size=b:=by rw[e]at a;simpa using a
  have u:=(f.later n).hM.lt;have x:=(f.later n).ready.lt;refine⟨ω,ω,fun j P T=>?_⟩
  have:=(aO ((f.later n).own j P) T).2.1
  omega
 have c:=ad y n;refine⟨r.os.trans c.os,r.tape.trans c.tape,r.output.trans c.output,zV c.size r.size,fun b a=>(r.block b (zW a c.size) (fun e=>by have:=(aO A e.symm).1;omega)).trans (c.block b a)⟩
end
theorem oB(W g n:Nat)(D:Nat->Dm)(X:Nat->AL)(w:World)(r:eT D n)(o:(ag D n).2.2=0)(hA:cM w W g n D X):
  Calls prog 28 #[.pointer (some ⟨W,0,none⟩)] w fun e w'=>(∃A' u,e=.returned (.tuple #[.slice A' (prodN D n) u,.nilIface])/\aJ w' A' u (av (rowsL D n) (prodN D n)))/\Bl w w':=by
 obtain⟨i0,L,T,U,V⟩:=info_parts infoInt;obtain⟨al,am,Q,hd⟩:=ao o;have p:=I0 W g n D X w r o hA;have E:Hid (∀w',Bl w w'->Calls prog 66 #[.pointer (some ⟨W,0,none⟩)] w' fun e ae=>e=.returned (.int .i64 (prodN D n:Nat))/\ae=w'):=fun w' hB=>oJ W g n D X w' (hA.later hB)
 have H:0<prodN D n:=kq fun i hi=>(hd i hi).1
 have f:=aa (fg r o);have d:=aa (fG r o);have F:=aa (F1 r o);have B:Hid (∀j,j<(rowsL D n).length->((rowsL D n).getD j []).length<=12):=fun j hj=>(fH r o (by rw[bG]at hj;exact hj)).2.1
 have b:Hid ((rowsL D n).length=prodN D n):=bG;have t:Hid ((av (rowsL D n) (prodN D n)).length=prodN D n):=by
  show _=_
  have h:=d8 (fg r o) (fG r o) (prodN D n) (by rw[bG];exact zT)
  exact h
 obtain⟨Nn,I⟩:=ar (rowsL D n);rw[I]at p f d F B b t|-;obtain⟨N,hN⟩:=ar (prodN D n);rw[hN]at p E b t Q H|-;have ah:(N:Int)<=3000:=ω;have ad:∀w:World,(Instr.makeSlice 42 (.int .i64 0) (.int .i64 (N:Int))).run prog w=.ok (.slice (some ⟨w.heap.size,0,none⟩) 0 N) (w.alloc (.cells (madeCells #[.int .i64 0] N) 3)):=fun w=>by
  have hr:=run_make (P:=prog) w 42 3 i0 _ underlying42 L T .i64 .i64 0 N ω ω (by rw[V];omega) ω
  simp only[Int.toNat_natCast,U,Nat.mul_one]at hr;exact hr
 have C:=aa Q;clear hA o r hd I hN
 go_enter func28,ntmps28
 go_wp2_with fail;refine p.mono ?_;rintro e w1⟨q,gM,gU,rfl,v⟩;have PT:=aa v;have G:Bl w w1:=by obtain⟨-,-,-,-,-,h⟩:=v;exact h
 have R:=E.o w1 G;clear p v;go_wp2_with fail;refine R.mono ?_;rintro e w2⟨rfl,rfl⟩;have ab:=aa (t6.first PT.o b.o f.o d.o H C.o);clear R G;go_wp2_with fail;clear ad
 go_loopg [6] N (fun gg s6 wr =>∃(k:Nat) (AO:Option Addr) (z:Nat),k<=N/\gg=N-k/\s6=.slice AO k z/\Hid (t6 wr w q gM gU N k Nn (.slice AO k z)))
 case atStart=>exact⟨0,_,_,zU,rfl,rfl,ab⟩
 case round =>
  obtain⟨k,AO,z,hk,rfl,rfl,HS⟩:=hrel;obtain⟨an,x,y⟩:=HS.o.ready b.o f.o d.o
  by_cases O:k<N
  ·obtain⟨Aq,l,cq,k2,aj⟩:=x O
   have ai:(l:Int)<=3000:=ω;have S:=HS.o.step b.o f.o d.o F.o B.o C.o O;clear x y;go_wp2_with fail;refine S.mono ?_;rintro e w4⟨m,rfl,ak,J,ap,s⟩;have Z:=aa J;have A:=aa s;clear S J s k2
   go_wp2_with (at_builtin;refine wpList_append_own_at _ rfl _ _ 42 rfl w.heap.size 3 i0 (.int .i64 0) 1 8 underlying42 L T U V rfl (by decide) _ _ _ rfl (Z.o.alloc _) ⟨w4.heap.size,0,none⟩ 1 1 [.int .i64 m] rfl rfl da ew (by unfold maxLen;omega) ω (by simp;omega) ?_)
   intro v' w6 a c _ K;obtain⟨A',u,rfl⟩:∃A' u,v'=.slice A' (k+1) u:=by
    rcases a.2 with⟨-,h⟩|⟨g',u,af,h,-⟩
    ·omega
    exact⟨_,_,h⟩
   have Y:=aa (A.o _ _ _ γ a c (K.imp id fun h=>by rw[h];simp))
   clear a c K;go_wp2_with fail
   go_roundg (N-(k+1))
   case measure=>omega
   case rel=>exact⟨k+1,_,_,ω,rfl,rfl,Y⟩
  have M:k=N:=ω;obtain⟨Aq,cq,k2⟩:=y M;subst M;have HF:Hid (aJ wr AO z (av Nn k)/\Bl w wr):=by
   obtain⟨-,-,-,-,-,-,-,-,-,hO,-,hB⟩:=HS.o;refine⟨?_,hB⟩;have ac:wr.ownsRow w.heap.size 3 1 (.slice AO k z) (av Nn k).length (aA (av Nn k)):=by rw[t.o];exact hO
   obtain⟨A',u,e,hI⟩:=cY ac;simp only[Value.slice.injEq]at e;obtain⟨rfl,-,rfl⟩:=e;exact hI
  clear x y;go_wp2_with fail;go_returns;exact⟨⟨AO,z,rfl,HF.o.1⟩,HF.o.2⟩
theorem Hl(A0:Option Addr)(cap n:Nat)(D:Nat->Dm)(A:Nat->Option Addr)(C:Nat->Nat)(w:World)(s:aL w A0 cap n D A C):
  Calls prog 75 #[.agg #[.slice A0 n cap]] w fun e w'=>(∃A' f,e=.returned (.tuple #[.slice A' (coL D n).length f,errV (au D n).2.2])/\aJ w' A' f (coL D n))/\Bl w w':=by
 have a:=ay w A0 n cap 24;have F:=aU w A0 n cap 24;obtain⟨W,B⟩:=ar (aE w A0 n cap 24);rw[B]at a F;unfold aE at B;have k:=aa a
 by_cases c:(au D n).2.2=0
 case neg =>
  have i:=uz A0 cap n D A C W c (s.later a);have l:Hid (coL D n=[]):=by show _=_;unfold coL;rw[if_neg c]
  have m:Hid (errV (au D n).2.2=.iface 71 (.int .i64 (au D n).2.2)):=ac c;rw[ac c]at i;generalize (au D n).2.2=z at i m;clear s a c
  go_enter func75,ntmps75
  go_wp2_with fail;refine i.mono ?_;rintro e w1⟨rfl,b⟩;go_wp2_with fail;go_returns;rw[l.o,m.o];exact⟨⟨none,0,rfl,aJ.nil _ _ _ ω⟩,ad k.o b⟩
 obtain⟨o,p⟩:=dZ c;have i:=pr A0 cap n D A C W o p (s.later a);have l:Hid (coL D n=av (rowsL D n) (prodN D n)/\(coL D n).length=prodN D n):=by
  have e:coL D n=av (rowsL D n) (prodN D n):=by unfold coL;rw[if_pos c]
  exact⟨e,by rw[e];exact d8 (fg p o) (fG p o) (prodN D n) (by rw[bG];exact zT)⟩
 have d:Hid (∀j g X w',cM w' j g n D X->Calls prog 28 #[.pointer (some ⟨j,0,none⟩)] w' fun e ab=>(∃A' f,e=.returned (.tuple #[.slice A' (coL D n).length f,.nilIface])/\aJ ab A' f (coL D n))/\Bl w' ab):=fun j g X w' h=>by
  have v:=oB j g n D X w' p o h;rw[←l.o.1,←l.o.2]at v;exact v
 rw[c,errV_zero];generalize coL D n=L at d|-;generalize L.length=ll at d|-;clear s a c o p l
 go_enter func75,ntmps75
 go_wp2_with fail;refine i.mono ?_;rintro e w1⟨⟨j,g,X,rfl,-,-,y⟩,b⟩;have t:=aa (ad k.o b);have r:=d.o j g X w1 y;clear b i y;go_wp2_with fail;refine r.mono ?_;rintro e w2⟨⟨A',f,rfl,x⟩,q⟩;have E:=aa x;have u:=aa (ad t.o q);clear x q r;go_wp2_with fail;go_returns;exact⟨⟨A',f,rfl,E.o⟩,u.o⟩
def GF(D:Nat->Dm)(n:Nat)(inp:List Int->Int×Int)(O:List Int)(k:Nat)(L:List (Int×Int)):Prop:=L.length=prodN D n/\∀j:Nat,j<prodN D n->((j:Int)∈O.take k->L.getD j noC=gN D n inp (ah D n j))/\((j:Int)∉O.take k->L.getD j noC=inp (ah D n j))
theorem m5{w:World}{A:Option Addr}{c g x:Nat}{L:List Int}{f:Array Value}{fr:Nat×Nat}{a b:Value}(h:aJ w A c L)(k:w.heap[g]?=some (.cells f 61 fr)):aJ ((w.setCell ⟨g,x,none⟩ a).setCell ⟨g,x+1,none⟩ b) A c L:=h.keep fun b' cs j i=>by
 have d:b'≠g:=fun e=>by
  rw[e,k]at i
  simp at i
 rw[ae _ _ _ _ _ d,ae _ _ _ _ _ d]
theorem vP(A0:Option Addr)(cap n:Nat)(D:Nat->Dm)(A:Nat->Option Addr)(C:Nat->Nat)(AE:Option Addr)(ce:Nat)(xs:List EnL)(w:World)(hM:aL w A0 cap n D A C)(I:bU w AE ce xs):
  Calls prog 7 #[.agg #[.slice A0 n cap],.slice AE xs.length ce] w fun e w'=>(∃A' c',e=.returned (.tuple #[.slice A' (caL D n (lE xs)).length c',errV (cuErr D n (lE xs))])/\eP w' A' c' (caL D n (lE xs))/\eU w.heap.size A')/\Bl w w':=by
 have f:=ay w A0 n cap 24;have hS:=aB w A0 n cap 24;have hA:=aU w A0 n cap 24;obtain⟨W,hW⟩:=ar (aE w A0 n cap 24);rw[hW]at f hS hA;unfold aE at hW;have v:=aa f;have Y:w.heap.size<W.heap.size:=ω;have HA:=aa hA
 by_cases P:(au D n).2.2=0
 case neg =>
  have hl:=uz A0 cap n D A C W P (hM.later f);have HE:Hid (cuErr D n (lE xs)=(au D n).2.2/\caL D n (lE xs)=[]):=by
   have e1:cuErr D n (lE xs)=(au D n).2.2:=by unfold cuErr;rw[if_pos P]
   exact⟨e1,ue (by rw[e1];exact P)⟩
  have E:Hid (errV (au D n).2.2=.iface 71 (.int .i64 (au D n).2.2)):=ac P;rw[ac P]at hl;generalize xs.length=xl;generalize (au D n).2.2=z at hl HE E;clear hM f P hS I
  go_enter func7,ntmps7
  go_wp2_with fail;refine hl.mono ?_;rintro e w1⟨rfl,c⟩;go_wp2_with fail;go_returns;rw[HE.o.1,HE.o.2,E.o];exact⟨⟨none,0,rfl,eP.nil _ _ _ ω,eU.none _⟩,ad v.o c⟩
 obtain⟨i,p⟩:=dZ P;have hl:=pr A0 cap n D A C W i p (hM.later f);have J:cuErr D n (lE xs)=entsErr D n (lE xs):=by unfold cuErr;rw[if_neg (by simpa using P)]
 by_cases he:entsErr D n (lE xs)=0
 case neg =>
  have HE:Hid (cuErr D n (lE xs)=entsErr D n (lE xs)/\caL D n (lE xs)=[]):=⟨J,ue (by rw[J];exact he)⟩
  have E:Hid (errV (entsErr D n (lE xs))=.iface 71 (.int .i64 (entsErr D n (lE xs)))):=ac he;have d:Hid (∀w',Bl w w'->Calls prog 27 #[.agg #[.slice A0 n cap],.slice AE xs.length ce] w' fun e ab=>(∃A' c',e=.returned (.tuple #[.slice A' 0 c',.iface 71 (.int .i64 (entsErr D n (lE xs)))]))/\Bl w' ab):=fun w' hB=>zN A0 cap n D A C AE ce xs w' (hM.later hB) (I.later hB) he
  generalize xs.length=xl at d|-;generalize entsErr D n (lE xs)=z at HE E d;clear hM f P hS I i p he J
  go_enter func7,ntmps7
  go_wp2_with fail;refine hl.mono ?_;rintro e w1⟨⟨u,g,X,rfl,-,-,-⟩,c⟩;have B:=aa c;have c1:=aM c Y HA.o;have aN:w.heap.size<w1.heap.size:=zW Y c.size;clear c hl hA hW;go_wp2_with fail;refine(d.o w1 (ad v.o B.o)).mono ?_;rintro e w2⟨⟨A2,c2,rfl⟩,t⟩;have af:=aa (ad (ad v.o B.o) t);clear t c1;go_wp2_with fail;go_returns;rw[HE.o.1,HE.o.2,E.o];exact⟨⟨none,0,rfl,eP.nil _ _ _ ω,eU.none _⟩,af.o⟩
 have ai:=qd he;have U:cuErr D n (lE xs)=0:=J.trans he;have d:Hid (∀w',Bl w w'->Calls prog 27 #[.agg #[.slice A0 n cap],.slice AE xs.length ce] w' fun e ab=>(∃g,e=.returned (.tuple #[.slice (some ⟨g,0,none⟩) (prodN D n) (prodN D n),.nilIface])/\w'.heap.size<=g/\cB ab g (wrV D n (lE xs)))/\Bl w' ab):=fun w' hB=>zO A0 cap n D A C AE ce xs w' (hM.later hB) (I.later hB) he
 obtain⟨-,-,a3,-⟩:=ao i;obtain⟨O,hO⟩:=ar (av (rowsL D n) (prodN D n));have q:Hid (O.length=prodN D n):=by show _=_;rw[←hO];exact d8 (fg p i) (fG p i) (prodN D n) (by rw[bG];exact zT)
 have ap:Hid (∀u g X w',cM w' u g n D X->Calls prog 28 #[.pointer (some ⟨u,0,none⟩)] w' fun e ab=>(∃A' c',e=.returned (.tuple #[.slice A' (prodN D n) c',.nilIface])/\aJ ab A' c' O)/\Bl w' ab):=fun u g X w' h=>by
  have M:=oB u g n D X w' p i h;rw[hO]at M;exact M
 have G:Hid (∀k L,k<prodN D n->GF D n (getE (lE xs)) O k L->∃m:Nat,O.getD k 0=(m:Int)/\m<prodN D n/\(∀z∈ndsX D n m,dq (L.getD z.toNat noC))/\rW D n L m=gN D n (getE (lE xs)) (ah D n m)/\GF D n (getE (lE xs)) O (k+1) (L.set m (gN D n (getE (lE xs)) (ah D n m)))):=fun k L hk a=>by
  obtain⟨m,h1,M,h3,h4,h5⟩:=Bt (fg p i) (fG p i) (k:=k) (by rw[bG];exact hk)
  rw[bG,hO]at h1 h3 h4 h5;rw[bG]at M;have am:∀z∈ndsX D n m,∃y:Nat,z=(y:Int)/\y<prodN D n/\(y:Int)∈O.take k:=fun z hz=>by
   obtain⟨y,rfl,hy⟩:=Bk p i M z hz;refine⟨y,rfl,hy,h4 _ ?_⟩;have ht:=iG p i M;rw[my M,←mC p i ht,(List.mergeSort_perm _ _).mem_iff];exact hz
  have aA:∀z∈ndsX D n m,L.getD z.toNat noC=gN D n (getE (lE xs)) (ah D n z.toNat):=fun z hz=>by
   obtain⟨y,rfl,hy,a4⟩:=am z hz;rw[Int.toNat_natCast];exact(a.2 y hy).1 a4
  refine⟨m,h1,M,fun z hz=>?_,Kp p i M (fun _=>(a.2 m M).2 h3) aA,by rw[List.length_set];exact a.1,fun j hj=>?_⟩
  ·rw[aA z hz]
   exact qn p (mZ ai) _ _ (dp i) (Nat.lt_succ_self _)
  by_cases e:j=m
  ·subst e
   refine⟨fun _=>?_,fun h=>absurd ?_ h⟩
   ·rw[zZ,List.getElem?_set_self (by rw[a.1];exact hj)]
    rfl
   rw[h5];simp
  have ht:(j:Int)∈O.take (k+1)↔(j:Int)∈O.take k:=by
   rw[h5,List.mem_append,List.mem_singleton];exact⟨fun h=>h.resolve_right ω,Or.inl⟩
  rw[ht,zZ,List.getElem?_set_ne (fun h=>e h.symm),←zZ]
  exact a.2 j hj
 have aw:Hid (∀u g X gC L m w',cM w' u g n D X->cB w' gC L->L.length=prodN D n->m<prodN D n->(∀z∈ndsX D n m,dq (L.getD z.toNat noC))->Rt 29 #[.pointer (some ⟨u,0,none⟩),.slice (some ⟨gC,0,none⟩) (prodN D n) (prodN D n),.int .i64 m] w' (.tuple #[.agg #[.int .i64 (rW D n L m).1,.int .i64 (rW D n L m).2],.nilIface])):=fun u g X gC L m w' hP hC l hm V=>tG u g n D X m (some ⟨gC,0,none⟩) (prodN D n) L w' p i hm hP l ⟨by rw[l];exact zT,ω,Or.inr ⟨gC,0,rfl,hC.celAt⟩⟩ V
 have S:Hid (∀L,GF D n (getE (lE xs)) O (prodN D n) L->L=caL D n (lE xs)):=fun L h=>MV U h.1 fun j hj=>(h.2 j hj).1 (by
  rw[List.take_of_length_le (by rw[q.o];exact zT),←hO]
  have aI:=qV (rowsL D n) (prodN D n);refine Classical.byContradiction fun hn=>?_
  have:=few (prodN D n) ((j:Int):: av (rowsL D n) (prodN D n)) (List.nodup_cons.2 ⟨hn,aI.1⟩) fun x hx=>by
   rcases List.mem_cons.1 hx with rfl|hx
   ·omega
   have:=aI.2 x hx;rw[bG]at this;exact this
  rw[List.length_cons,hO,q.o]at this
  omega)
 have F:Hid (GF D n (getE (lE xs)) O 0 (wrV D n (lE xs))):=⟨pD ..,fun j hj=>⟨fun h=>by simp at h,fun _=>OO ai hj⟩⟩
 have Q:Hid ((caL D n (lE xs)).length=prodN D n):=fZ U;rw[U,errV_zero,Q.o];generalize caL D n (lE xs)=CA at S Q|-;generalize getE (lE xs)=inp at G S F;generalize wrV D n (lE xs)=W0 at d F;generalize xs.length=xl at d|-;obtain⟨N,hN⟩:=ar (prodN D n);have HN:=aa hN;rw[hN]at d q ap G aw S a3 Q|-;have a7:(N:Int)<=3000:=ω;clear hM f P hS I i p he J ai U hO hN
 go_enter func7,ntmps7
 go_wp2_with fail;refine hl.mono ?_;rintro e w1⟨⟨u,g,X,rfl,-,-,aC⟩,c⟩;have aq:=aa aC;have B:=aa c;have c1:=aM c Y HA.o;have aN:w.heap.size<w1.heap.size:=zW Y c.size;clear c hl hA hW aC;go_wp2_with fail;refine(d.o w1 (ad v.o B.o)).mono ?_;rintro e w2⟨⟨gC,rfl,ak,ax⟩,t⟩;have af:=aa t;have aR:=aa ax;have aK:=ap.o u g X w2 (aq.o.later t);clear t c1 ax;go_wp2_with fail;refine aK.mono ?_;rintro e w3⟨⟨A3,c3,rfl,az⟩,aj⟩;have aP:=aa (ad af.o aj);have aS:=aa (aR.o.later aj);have aW:=aa az;clear aj aK az;go_wp2_with fail
 go_loopg [7,39] N (fun gg s7 a5 wr =>∃(k:Nat),k<=N/\gg=N-k/\a5=.int .i64 k/\s7=.nilIface/\Hid (∃L,cB wr gC L/\GF D n inp O k L)/\Hid (aJ wr A3 c3 O)/\Hid (Bl w1 wr))
 case atStart=>exact⟨0,zU,rfl,rfl,rfl,aa ⟨W0,aS.o,F.o⟩,aW,aP⟩
 case round =>
  obtain⟨k,hk,rfl,rfl,rfl,HL,HI,ag⟩:=hrel
  by_cases aH:k<N
  ·have ba:(k:Int)<(N:Int):=ω;obtain⟨L,s,a⟩:=HL.o;obtain⟨m,hm,al,V,aO,H⟩:=G.o k L aH a;have l:L.length=N:=by rw[←HN.o];exact a.1
   have K:=aw.o u g X gC L m wr (aq.o.later ag.o) s l al V;rw[aO]at K;obtain⟨⟨ra,rb⟩,aD⟩:∃R,gN D n inp (ah D n m)=R:=⟨_,rfl⟩;rw[aD]at K H;simp only at K;obtain⟨a0,-,aZ|⟨bs,cs,fr,rfl,aF,aG⟩⟩:=HI.o
   ·have:=q.o;rw[aZ]at this;simp at this;omega
   have cx:=aG k (by rw[q.o];exact aH)
   have a8:bs<wr.heap.size:=(zY aF).1;rw[q.o]at a0;rw[hm]at cx;have a1:(N:Int)<=(c3:Int):=ω;have bb:(m:Int)<(N:Int):=ω;have aV:=aa s;have ae:=aa H;have an:=aa l;clear aG aF hm V aO aD a H s;go_wp2_with fail;refine K.mono ?_;rintro e w5⟨rfl,T⟩;have r:=aV.o.later T;obtain⟨r0,r1⟩:=r.at (k:=m) (by rw[an.o];exact al)
   have f0:=r.frozen (m*2);have f1:=r.frozen (m*2+1);have a9:=r.lt;have aT:Hid (cB ((w5.setCell ⟨gC,m*2,none⟩ (.int .i64 ra)).setCell ⟨gC,m*2+1,none⟩ (.int .i64 rb)) gC (L.set m (ra,rb))):=r.set (by rw[an.o];exact al) ra rb
   obtain⟨a6,Z,-⟩:=r;have aX:Hid (aJ ((w5.setCell ⟨gC,m*2,none⟩ (.int .i64 ra)).setCell ⟨gC,m*2+1,none⟩ (.int .i64 rb)) (some ⟨bs,0,none⟩) c3 O):=m5 (HI.o.later T) Z;have aQ:Hid (Bl w1 ((w5.setCell ⟨gC,m*2,none⟩ (.int .i64 ra)).setCell ⟨gC,m*2+1,none⟩ (.int .i64 rb))):=((ad ag.o T).setCell ak _).setCell ak _;clear T K Z;go_wp2_with fail
   go_roundg (N-(k+1))
   case measure=>omega
   case rel=>exact⟨k+1,ω,rfl,by go_num,rfl,aa ⟨_,aT.o,ae.o⟩,aX,aQ⟩
  have a2:k=N:=ω;subst a2;have HgC:Hid (eU w.heap.size (some ⟨gC,0,none⟩)):=fun b o e=>by cases e;exact zV (Nat.le_of_lt aN) ak
  have HF:Hid (eP wr (some ⟨gC,0,none⟩) k CA):=by
   obtain⟨L,s,a⟩:=HL.o;have aY:=S.o L a;have l:=Q.o;rw[aY]at s;exact⟨by rw[l];exact zT,ω,Or.inr ⟨gC,0,rfl,s.celAt⟩⟩
  go_wp2_with fail;go_returns;exact⟨⟨_,_,rfl,HF.o,HgC.o⟩,ad v.o (ad B.o ag.o)⟩
theorem pN(A0:Option Addr)(cap n:Nat)(D:Nat->Dm)(A:Nat->Option Addr)(C:Nat->Nat)(AE:Option Addr)(ce:Nat)(xs:List EnL)(w:World)(g:aL w A0 cap n D A C)(b:bU w AE ce xs):
  Calls prog 7 #[.agg #[.slice A0 n cap],.slice AE xs.length ce] w fun e w'=>(∃A' a,e=.returned (.tuple #[.slice A' (caL D n (lE xs)).length a,errV (cuErr D n (lE xs))])/\eP w' A' a (caL D n (lE xs)))/\Bl w w' :=
 (vP A0 cap n D A C AE ce xs w g b).mono fun _ _ ⟨⟨A',a,c,d,_⟩,f⟩=>⟨⟨A',a,c,d⟩,f⟩
end Go.Proofs.YtjfampgnhccodaaGreatDoor
