/- What is told at a plac -/
import Derived.Test.YtjfampgnhccodaaGreatDoorJTBD
namespace Go.Proofs.YtjfampgnhccodaaGreatDoor
open Tryz ChangeShapes WideShapes ChangeAt RowKit Go
set_option maxRecDepth 99999
set_option maxHeartbeats 0
theorem tG(q g n:Nat)(D:Nat->Dm)(X:Nat->AL)(x:Nat)(AC:Option Addr)(cC:Nat)(L:List (Int×Int))(w:World)(hR:eT D n)(hE:(ag D n).2.2=0)(hx:x<prodN D n)(Y:cM w q g n D X)(hL:L.length=prodN D n)(hC:eP w AC cC L)(am:∀z∈ndsX D n x,dq (L.getD z.toNat noC)):
  Rt 29 #[.pointer (some ⟨q,0,none⟩),.slice AC (prodN D n) cC,.int .i64 x] w (.tuple #[.agg #[.int .i64 (rW D n L x).1,.int .i64 (rW D n L x).2],.nilIface]):=by
 obtain⟨i0,bf,bo,bp,bq⟩:=info_parts infoCe;obtain⟨bD,bE,aR,hd⟩:=ao hE;obtain⟨W,hW⟩:=ar (w.alloc (.cells #[.int .i64 0,.int .i64 0] 61));have E:Bl w W:=by rw[←hW];go_grown
 have H:W.heap[w.heap.size]?=some (.cells #[.int .i64 0,.int .i64 0] 61 (0,0)):=by rw[←hW];exact heap_alloc_new ..
 have a:=aa E;have bt:=aa H;have aN:w.heap.size<W.heap.size:=(zY H).1;obtain⟨bA,-,h0|⟨bc,oc,rfl,PT⟩⟩:=id hC
 ·rw[h0]at hL;simp at hL;omega
 have B:=ud q g n D X x W hE hx (Y.later E);have T:Hid (∀w',Bl w w'->bc<w'.heap.size/\∀j,j<prodN D n->w'.cell? ⟨bc,oc+j*2,none⟩=some (.int .i64 (L.getD j noC).1)/\w'.cell? ⟨bc,oc+j*2+1,none⟩=some (.int .i64 (L.getD j noC).2)):=fun w' p=>by
  obtain⟨-,-,h0|⟨bu,bI,h1,G⟩⟩:=hC.later p
  ·rw[h0]at hL;simp at hL;omega
  cases h1;exact⟨G.1,fun j hj=>G.2 j ω⟩
 have U:Hid (∀w',Bl w w'->q<w'.heap.size/\w'.cell? ⟨q,0,none⟩=some (.slice (some ⟨g,0,none⟩) n n)/\w'.cell? ⟨q,1,none⟩=some (.int .i64 (prodN D n:Nat))):=fun w' p=>(Y.later p).cells
 have HA:=aa Y;have ax:Hid (∀w',Bl W w'->w.heap.size<w'.heap.size/\w'.cell? ⟨w.heap.size,0,none⟩=some (.int .i64 0)/\w'.cell? ⟨w.heap.size,1,none⟩=some (.int .i64 0)/\w'.frozen? ⟨w.heap.size,0,none⟩=false/\w'.frozen? ⟨w.heap.size,1,none⟩=false):=fun w' p=>⟨zW aN p.size,ff ((p.block _ aN).trans H)⟩
 obtain⟨hq,q0,q1⟩:=U.o W E;have bF:(n:Int)<=4:=ω;have hP:=dp (D:=D) (n:=n) (x:=x) hE;obtain⟨N,hN⟩:=ar (prodN D n);have HN:=aa hN
 rcases by_in D (ah D n x) n with h|⟨b,h,hb⟩
 ·have HV:Hid (rW D n L x=L.getD x noC):=DQ ω
  rw[h]at B;rw[hN]at q1 hx aR T U hL|-;have bm:(x:Int)<(N:Int):=ω;have a7:(N:Int)<=3000:=ω;have bb:(N:Int)<=(cC:Int):=ω;clear Y hE hR hP h hd hC PT am E H hN
  go_enter func29,ntmps29
  go_wp2_with fail;refine B.mono ?_;rintro e w1⟨rfl,f⟩;have ae:=aa f;obtain⟨ba,I⟩:=T.o w1 (ad a.o f);obtain⟨y0,y1⟩:=I x hx;obtain⟨hr,r0,r1,r2,r3⟩:=ax.o w1 f;obtain⟨⟨ra,rb⟩,s⟩:∃R,L.getD x noC=R:=⟨_,rfl⟩;have a6:=aa s;rw[s]at y0 y1;simp only at y0 y1;clear f B q0 q1 hW I s;go_wp2_with fail;refine bodyPost_ret (v:=.tuple #[.agg #[.int .i64 ra,.int .i64 rb],.nilIface]) (by simp[results,results29,go_sem,r0,r1]) rfl ⟨by rw[HV.o,a6.o],?_⟩
  exact((ad a.o ae.o).setCell σ _).setCell σ _
 obtain⟨aM,aj⟩:=hd b hb;have bj:=hP.lo b hb;have bk:=hP.hi b hb;obtain⟨m,hm⟩:=ar (x / cE D n b % (D b).n);have an:((ah D n x).getD b 0).toNat=m:=by rw[p7 hb,hm]
 have K:m<(D b).n:=by rw[←hm];exact Nat.mod_lt _ aM
 have HV:Hid (rW D n L x=iK (D b) (fun k=>L.getD (jC D n x b k).toNat noC) m):=by show _=_;rw[M0 h,an]
 have V:Hid (ndsX D n x=(xC (D b) m).map (jC D n x b)):=by show _=_;rw[qG h,an]
 have aG:=iW (D:=D) (n:=n) (fun i hi=>(hd i hi).1) hb
 obtain⟨S,Z⟩:=ar (cE D n b);have az:Hid (∀w',Bl w w'->Rt 70 #[.agg #[.int .i64 (D b).solve,.int .i64 S,.slice (X b).A (D b).n (X b).c],.int .i64 x] w' (wayV ((X b).xs.getD m eS))):=fun w' p=>vp (D b) S (X b) x m w' (by rw[←Z];exact aG) aM aj ω (by rw[←Z];exact hm) ((Y.later p).2.one hb).2.2
 have l:Hid (∀w' A' o,Bl w w'->eP w' A' o ((ndsX D n x).map fun z=>L.getD z.toNat noC)->Rt 71 #[wayV ((X b).xs.getD m eS),.slice A' (ndsX D n x).length o] w' (.tuple #[.agg #[.int .i64 (rW D n L x).1,.int .i64 (rW D n L x).2],.nilIface])):=fun w' A' o p aC=>by
  obtain⟨-,-,ab⟩:=(Y.later p).2.one hb;obtain⟨-,-,-,-,-,a9⟩:=ab.way K;have aT:=ab.2.2 m K;have aQ:=CK aT;have h2:=Kn (D b) m ((X b).xs.getD m eS) A' o (fun k=>L.getD (jC D n x b k).toNat noC) w' (hR b hb) K aT a9 (fun k hk=>am _ (by rw[V.o,List.mem_map];exact⟨k,(pp (hR b hb) K k).2 hk,rfl⟩)) (by
   rw[V.o,List.map_map]at aC;rw[aQ];exact aC)
  rw[aQ,←HV.o]at h2;have bh:(ndsX D n x).length=(xC (D b) m).length:=by rw[V.o,List.length_map]
  rw[bh];exact h2
 have C:Hid (∀w',Bl w w'->Calls prog 69 #[.pointer (some ⟨q,0,none⟩),.int .i64 x] w' fun e aV=>(∃v,e=.returned v/\aV.ownsRow w'.heap.size 3 1 v (ndsX D n x).length (aA (ndsX D n x)))/\Bl w' aV):=fun w' p=>ng q g n D X x w' hR hE hx (Y.later p)
 have av:Hid (∀z∈ndsX D n x,∃y:Nat,z=(y:Int)/\y<N):=fun z hz=>by
  obtain⟨y,e1,e2⟩:=Bk hR hE hx z hz;exact⟨y,e1,ω⟩
 have aO:=po hR hE hx;have aZ:Hid (∀w',Bl w w'->g<w'.heap.size/\w'.cell? ⟨g,b*3,none⟩=some (.int .i64 (D b).solve)/\w'.cell? ⟨g,b*3+1,none⟩=some (.int .i64 S)/\w'.cell? ⟨g,b*3+2,none⟩=some (.slice (X b).A (D b).n (X b).c)):=fun w' p=>by
  obtain⟨hg,⟨c0,c1,c2⟩,-⟩:=(Y.later p).2.one hb;rw[Z]at c1;exact⟨hg,c0,c1,c2⟩
 obtain⟨P,aF⟩:=ar (ndsX D n x);rw[aF]at l C av aO;obtain⟨F,hF⟩:=ar ((fun z:Int=>L.getD z.toNat noC))
 have a0:Hid (∀z:Int,F z=L.getD z.toNat noC):=fun z=>by rw[←hF]
 rw[hF]at l;obtain⟨⟨ra,rb⟩,s⟩:∃R,rW D n L x=R:=⟨_,rfl⟩;rw[s]at l|-;simp only at l|-;obtain⟨M,af⟩:=ar P.length;have HM:=aa af;rw[af]at l C aO;have bv:(M:Int)<=12:=ω;rw[h]at B;rw[hN]at q1 hx aR T U hL|-;have bm:(x:Int)<(N:Int):=ω;have a7:(N:Int)<=3000:=ω;have bb:(N:Int)<=(cC:Int):=ω;have bx:(b:Int)<(n:Int):=ω;have bw:((b:Int) == -1)=false:=by simp
 generalize wayV ((X b).xs.getD m eS)=wv at az l;clear Y hE hR hP h hd hC PT am E H bj bk hm an K aG Z aF af V HV s hN hF
 go_enter func29,ntmps29
 go_wp2_with fail;refine B.mono ?_;rintro e w1⟨rfl,f⟩;have ae:=aa f;have aP:=C.o w1 (ad a.o f);clear f B q0 q1 hW;go_wp2_with fail;refine aP.mono ?_;rintro e w2⟨⟨v,rfl,aE⟩,aH⟩;have aW:=aa (ad ae.o aH);have aw:Hid (∃A' o,v=.slice A' M o/\aJ w2 A' o P):=by
  have h2:=aE;rw[←HM.o]at h2;obtain⟨A',o,e,hv⟩:=cY h2;rw[HM.o]at e;exact⟨A',o,e,hv⟩
 obtain⟨A2,c2,rfl,aD⟩:=aw.o;have a4:=aa aD;clear aH aP aE aD aw;go_wp2_with fail
 go_loopg [9,46] M (fun gg s9 br wr =>∃(k:Nat) (u:Value),k<=M/\gg=M-k/\br=.int .i64 k/\u=s9/\Hid (wr.ownsRow w2.heap.size 61 2 u k (bW ((P.take k).map F)))/\Hid (Bl w2 wr))
 case atStart=>exact⟨0,_,zU,rfl,rfl,rfl,World.ownsRow_nil _ _ _ _,zS⟩
 case round =>
  obtain⟨k,u,hk,rfl,rfl,rfl,HO,Q⟩:=hrel;have d:=aa (ad aW.o Q.o)
  by_cases bi:k<M
  ·have bC:(k:Int)<(M:Int):=ω;have ak:k<P.length:=by rw[HM.o];exact bi
   obtain⟨y,hy,bn⟩:=av.o _ (gn ak);obtain⟨bd,-,a8|⟨bs,cs,fr,rfl,aK,aL⟩⟩:=a4.o.later Q.o
   ·have:=HM.o;rw[a8]at this;simp at this;omega
   have cx:=aL k ak;have bz:bs<wr.heap.size:=(zY aK).1;rw[HM.o]at bd;rw[hy]at cx;have be:(M:Int)<=(c2:Int):=ω;have ay:Hid ((P.take (k+1)).map F=(P.take k).map F++[L.getD y noC]):=by
    show _=_
    rw[IQ F P ak,a0.o,hy,Int.toNat_natCast]
   obtain⟨ba,I⟩:=T.o wr (ad a.o d.o);obtain⟨y0,y1⟩:=I y bn;have bH:(y:Int)<(N:Int):=ω;generalize L.getD y noC=r at y0 y1 ay;obtain⟨sa,sb⟩:=r;simp only at y0 y1;have bl:=Q.o.size;clear aL aK hy I
   go_wp2_with (at_builtin;refine wpList_append_own _ rfl _ _ 35 rfl w2.heap.size 61 i0 (.agg #[.int .i64 0,.int .i64 0]) 2 16 underlying35 bf bo bp bq rfl (by decide) _ _ _ rfl (HO.o.alloc _) ⟨wr.heap.size,0,none⟩ 1 1 [.int .i64 sa,.int .i64 sb] rfl rfl ?qe2 ?qe3 ?qe4 ?qe5 ?qe6 ?_)
   case qe2 =>
    intro j t hj;rw[re,Lib.cell_of_heap (heap_alloc_new wr (.cells #[.int .i64 sa,.int .i64 sb] 61))]
    simpa using hj
   case qe3=>intro t ht;simp at ht;rcases ht with rfl|rfl<;>rfl
   case qe4=>simp only[maxLen];omega
   case qe5=>omega
   case qe6=>simp;omega
   intro v' w4 O J al;have aX:Hid (Bl w2 w4):=dk Q.o HO.o J;have a5:Hid (w4.ownsRow w2.heap.size 61 2 v' (k+1) (bW ((P.take (k+1)).map F))):=by
    show World.ownsRow ..
    rw[ay.o,cellsC_append,List.map_take];exact O
   clear O J al;go_wp2_with fail
   go_roundg (M-(k+1))
   case measure=>omega
   case rel=>exact⟨k+1,_,ω,rfl,by go_num,rfl,a5,aX⟩
  have bg:k=M:=ω;subst bg;have au:Hid (∃A' o,u=.slice A' k o/\eP wr A' o (P.map F)):=by
   have h:=HO.o;rw[List.take_of_length_le (by rw[HM.o];exact zT)]at h
   have ac:(P.map F).length=k:=by rw[List.length_map];exact HM.o
   rw[←ac]at h;obtain⟨A',o,e,hv⟩:=CY h;rw[ac]at e;exact⟨A',o,e,hv⟩
  obtain⟨A3,c3,rfl,aB⟩:=au.o;have aY:=aa aB;obtain⟨bG,p0,p1⟩:=U.o wr (ad a.o d.o);obtain⟨bB,a1,a2,a3⟩:=aZ.o wr (ad a.o d.o);have aU:=az.o wr (ad a.o d.o);clear aB au;go_wp2_with fail;refine aU.mono ?_;rintro e w5⟨rfl,ai⟩;have ap:=aa (ad d.o ai);have aS:=l.o w5 A3 c3 (ad a.o ap.o) (aY.o.later ai);clear ai aU p0 p1 a1 a2 a3;go_wp2_with fail;refine aS.mono ?_;rintro e w6⟨rfl,aI⟩;have aq:=aa (ad ap.o aI);obtain⟨hr,r0,r1,r2,r3⟩:=ax.o w6 aq.o;clear aI aS;go_wp2_with fail;refine bodyPost_ret (v:=.tuple #[.agg #[.int .i64 ra,.int .i64 rb],.nilIface]) (by simp[results,results29,go_sem,r0,r1]) rfl ⟨rfl,?_⟩
  exact((ad a.o aq.o).setCell σ _).setCell σ _
structure QM(w:World)(B q gM gU N:Nat)(M:Nat->Int)(UV:Nat->Value)(UL:Nat->List Int)(R:Value)(RL:List Int):Prop where
 hq:w.heap[q]?=some (.cells #[.slice (some ⟨gM,0,none⟩) N N,.slice (some ⟨gU,0,none⟩) N N,R] 143 (0,0))
 hM:eQ w gM N 3 fun j=>.int .i64 (M j)
 hU:eQ w gU N 42 UV
 own:∀j,j<N->w.ownsRow B 3 1 (UV j) (UL j).length (aA (UL j))
 ready:w.ownsRow B 3 1 R RL.length (aA RL)
 dM:∀j,j<N->(UV j).ownBlock≠some gM
 dU:∀i j,i<N->j<N->i≠j->∀b,(UV i).ownBlock=some b->(UV j).ownBlock≠some b
 dR:R.ownBlock≠some gM
 dRU:∀j,j<N->∀b,R.ownBlock=some b->(UV j).ownBlock≠some b
 lq:B<=q
 lM:B<=gM
 lU:B<=gU
section
variable {w w':World} {B q gM gU N:Nat} {M:Nat->Int} {UV:Nat->Value} {UL:Nat->List Int} {R:Value} {RL:List Int}
theorem QM.ql(h:QM w B q gM gU N M UV UL R RL):q<w.heap.size:=(zY h.hq).1
theorem QM.later(h:QM w B q gM gU N M UV UL R RL)(a:Bl w w'):QM w' B q gM gU N M UV UL R RL :=
 ⟨(a.block q h.ql).trans h.hq,h.hM.same (a.block _ h.hM.lt),h.hU.same (a.block _ h.hU.lt),fun j b=>ak (h.own j b) a,ak h.ready a,h.dM,h.dU,h.dR,h.dRU,h.lq,h.lM,h.lU⟩
theorem QM.cells(h:QM w B q gM gU N M UV UL R RL):w.cell? ⟨q,0,none⟩=some (.slice (some ⟨gM,0,none⟩) N N)/\w.cell? ⟨q,1,none⟩=some (.slice (some ⟨gU,0,none⟩) N N)/\w.cell? ⟨q,2,none⟩=some R/\w.frozen? ⟨q,2,none⟩=false :=
 ⟨by simp[World.cell?,h.hq],by simp[World.cell?,h.hq],by simp[World.cell?,h.hq],by simp[World.frozen?,h.hq]⟩
theorem QM.ne(h:QM w B q gM gU N M UV UL R RL):q≠gM/\q≠gU/\gM≠gU:=by
 refine⟨fun e=>?_,fun e=>?_,fun e=>?_⟩
 ·have a:=h.hq;rw[e,h.hM]at a;simp at a
 ·have a:=h.hq;rw[e,h.hU]at a;simp at a
 have a:=h.hM;unfold eQ at a;rw[e,h.hU]at a;simp at a
theorem QM.off(h:QM w B q gM gU N M UV UL R RL){b:Nat}{a:Array Value}(c:w.heap[b]?=some (.cells a 3 (0,0))):b≠q/\b≠gU:=by
 refine⟨fun e=>?_,h.hU.off c g9⟩
 rw[e,h.hq]at c
 simp at c
theorem QM.setM(h:QM w B q gM gU N M UV UL R RL)(m:Nat)(x:Int):QM (w.setCell ⟨gM,m,none⟩ (.int .i64 x)) B q gM gU N (fun j=>if j=m then x else M j) UV UL R RL:=by
 obtain⟨n1,n2,n3⟩:=h.ne;refine⟨by rw[ae _ _ _ _ _ n1];exact h.hq,?_,h.hU.same (ae _ _ _ _ _ n3.symm),fun j a=>dx (h.own j a) (h.dM j a),dx h.ready h.dR,h.dM,h.dU,h.dR,h.dRU,h.lq,h.lM,h.lU⟩
 refine h.hM.set (f':=fun j=>.int .i64 (if j=m then x else M j)) fun j _=>?_
 by_cases e:j=m
 ·simp only[if_pos e]
 simp only[if_neg e]
theorem QM.pushR(h:QM w B q gM gU N M UV UL R RL){w4 w6:World}{L:List Int}{v:Value}{H:Nat}(l:Bl w w4)(n:w4.grownBy w6 R.ownBlock)(s:w6.ownsRow B 3 1 v L.length (aA L))(d:v.ownBlock=R.ownBlock\/v.ownBlock=some H)(x:w.heap.size<=H):
  QM (w6.setCell ⟨q,2,none⟩ v) B q gM gU N M UV UL v L:=by
 obtain⟨n1,n2,n3⟩:=h.ne;have o:=fun b (e:R.ownBlock=some b)=>aO h.ready e
 have a:∀b,b<w.heap.size->R.ownBlock≠some b->w6.heap[b]?=w.heap[b]?:=fun b c m=>(n.block b (zW c l.size) (fun e=>m e.symm)).trans (l.block b c)
 have p:R.ownBlock≠some q:=fun e=>by obtain⟨-,-,g,i⟩:=o q e;exact(h.off i).1 rfl
 have t:R.ownBlock≠some gU:=fun e=>by obtain⟨-,-,g,i⟩:=o gU e;exact(h.off i).2 rfl
 have u:v.ownBlock≠some q:=fun e=>by
  rcases d with h1|h1
  ·exact p (h1.symm.trans e)
  rw[h1]at e;have:=h.ql;simp at e;omega
 refine⟨?_,(h.hM.same (a _ h.hM.lt h.dR)).same (ae _ _ _ _ _ n1.symm),(h.hU.same (a _ h.hU.lt t)).same (ae _ _ _ _ _ n2.symm),fun j f=>?_,dx s u,h.dM,h.dU,fun e=>?_,fun j f b c e=>?_,h.lq,h.lM,h.lU⟩
 ·have:=dj (k:=2) (v:=v) ((a q h.ql p).trans h.hq)
  simpa using this
 ·refine dx (iN (ak (h.own j f) l) n fun b c e=>h.dRU j f b e c) fun r=>?_
  obtain⟨-,-,g,i⟩:=aO (h.own j f) r;exact(h.off i).1 rfl
 ·rcases d with h1|h1
  ·exact h.dR (h1.symm.trans e)
  rw[h1]at e;have:=h.hM.lt;simp at e;omega
 rcases d with h1|h1
 ·exact h.dRU j f b (h1.symm.trans c) e
 rw[h1]at c;have:=(aO (h.own j f) e).2.1
 simp at c
 omega
end
def doE(D:Nat->Dm)(n:Nat)(l:List En)(Y:List Ed):Int:=(editsV D n l Y).2.2
def doL(D:Nat->Dm)(n:Nat)(l:List En)(Y:List Ed):List En:=if doE D n l Y=0 then(editsV D n l Y).1 else l
noncomputable def doN(D:Nat->Dm)(n:Nat)(l:List En)(Y:List Ed):Nat:=if doE D n l Y=0 then(drtL D n (Y.map fun x=>numI D x.pl n)).length else 0
def lL(l:List En)(Y:List Ed)(k:Nat):List En:=(Y.take k).foldl editV l
def uD:Ed:=⟨[],0,false⟩
theorem mV(l:List En)(Y:List Ed){k:Nat}(a:k<Y.length):lL l Y (k+1)=editV (lL l Y k) (Y.getD k uD):=by
 unfold lL;rw[List.take_succ_eq_append_getElem a,List.foldl_append,zZ,zX a]
 rfl
section
variable {D:Nat->Dm} {n:Nat}
theorem zF{l:List En}(c:Ens D n l):∀(Y:List Ed) (i:Nat),(aT D n l i Y).2.2=0->(aT D n l i Y).1=lL l Y Y.length/\∀k,k<Y.length->editErr D n (lL l Y k) (Y.getD k uD)=0/\Ens D n (lL l Y k):=by
 intro Y
 induction Y generalizing l with
 |nil=>intro i _;exact⟨rfl,fun k b=>absurd b (Nat.not_lt_zero _)⟩
 |cons x r ih =>
  intro i h
  by_cases a:editErr D n l x=0
  ·rw[jd r a]at h|-
   obtain⟨e,f⟩:=ih (c.edit a).2 (i+1) h;have d:∀k,lL l (x :: r) (k+1)=lL (editV l x) r k:=fun k=>by unfold lL;rw[List.take_succ_cons,List.foldl_cons]
   refine⟨by rw[e,List.length_cons,d],fun k b=>?_⟩
   cases k with
   |zero=>exact⟨a,c⟩
   |succ k =>
    rw[d];exact f k (by simpa using b)
  rw[kK r a]at h;exact absurd h a
theorem kX{l:List En}(b:Ens D n l){Y:List Ed}(h:doE D n l Y=0):Y.length<=60/\doL D n l Y=lL l Y Y.length/\∀k,k<Y.length->editErr D n (lL l Y k) (Y.getD k uD)=0/\Ens D n (lL l Y k):=by
 have e:=h;unfold doE editsV at e
 by_cases a:60<Y.length
 ·rw[if_pos a]at e
  simp at e
 rw[if_neg a,if_neg (by simpa using b.ok)]at e
 obtain⟨c,d⟩:=zF b Y 0 e;refine⟨ω,?_,d⟩
 unfold doL;rw[if_pos h];unfold editsV;rw[if_neg a,if_neg (by simpa using b.ok)]
 exact c
theorem Hq{l:List En}(a:Ens D n l)(Y:List Ed):Ens D n (doL D n l Y):=by
 by_cases h:doE D n l Y=0
 ·obtain⟨-,b,c⟩:=kX a h
  rw[b];cases hY:Y.length with
  |zero=>exact a
  |succ k =>
   have:=c k ω
   rw[mV l Y ω]
   exact(this.2.edit this.1).2
 unfold doL;rw[if_neg h];exact a
theorem iD{l:List En}(b:(au D n).2.2=0)(a:Ens D n l):cuErr D n l=0:=by unfold cuErr;rw[if_neg (by simpa using b)];exact a.ok
end
structure HallC(HV:World->Nat->(Nat->Prop)->(Nat->Dm)->Nat->List En->Prop):Prop where
 keep:∀ {w w' h S D n l},HV w h S D n l->w.heap.size<=w'.heap.size->(∀b,S b->w'.heap[b]?=w.heap[b]?)->HV w' h S D n l
 inS:∀ {w h S D n l},HV w h S D n l->∀b,S b->b<w.heap.size
 right:∀ {w h S D n l},HV w h S D n l->(au D n).2.2=0/\Ens D n l
 bad:∀A0 cap n D A C w,(au D n).2.2≠0->aL w A0 cap n D A C->Calls prog 8 #[.agg #[.slice A0 n cap]] w fun e w'=>e=.returned (.tuple #[.pointer none,errV (au D n).2.2])/\Bl w w'
 new:∀A0 cap n D A C w,(au D n).2.2=0->aL w A0 cap n D A C->Calls prog 8 #[.agg #[.slice A0 n cap]] w fun e w'=>(∃h S,e=.returned (.tuple #[.pointer (some ⟨h,0,none⟩),.nilIface])/\HV w' h S D n []/\∀b,S b->w.heap.size<=b)/\Bl w w'
 edit:∀h S D n l Ax cx ys w,HV w h S D n l->oQ w Ax cx ys->Calls prog 9 #[.pointer (some ⟨h,0,none⟩),.slice Ax ys.length cx] w fun e w'=>(∃S',e=.returned (.tuple #[.int .i64 (doN D n l (lD ys):Nat),errV (doE D n l (lD ys))])/\HV w' h S' D n (doL D n l (lD ys))/\∀b,S' b->S b\/w.heap.size<=b)/\Kept w.heap.size S w w'
 cells:∀h S D n l w,HV w h S D n l->Calls prog 11 #[.pointer (some ⟨h,0,none⟩)] w fun e w'=>(∃A' c',e=.returned (.slice A' (caL D n l).length c')/\eP w' A' c' (caL D n l))/\Bl w w'
 entries:∀h S D n l w,HV w h S D n l->Calls prog 13 #[.pointer (some ⟨h,0,none⟩)] w fun e w'=>(∃A' c' zs,e=.returned (.slice A' zs.length c')/\bU w' A' c' zs/\lE zs=l)/\Bl w w'
theorem HallC.later{HV:World->Nat->(Nat->Prop)->(Nat->Dm)->Nat->List En->Prop}(C:HallC HV){w w':World}{h:Nat}{S:Nat->Prop}{D:Nat->Dm}{n:Nat}{l:List En}(c:HV w h S D n l)(a:Bl w w'):HV w' h S D n l:=C.keep c a.size fun b d=>a.block b (C.inS c b d)
theorem y9{W0 w w':World}{S:Nat->Prop}(h:Bl W0 w)(a:Kept w.heap.size S w w')(d:∀b,S b->W0.heap.size<=b):Bl W0 w' :=
 ⟨a.os.trans h.os,a.tape.trans h.tape,a.output.trans h.output,zV h.size a.size,fun b c=>(a.block b (zW c h.size) fun e=>by have:=d b e;omega).trans (h.block b c)⟩
theorem uX{c:UInt8}{x:ByteArray}(h:Lib.indexByte x.data.toList c = -1):piecesC c x=[x]:=by
 unfold piecesC;rw[wt h,List.map_singleton,jH rfl]
theorem q8{c:UInt8}{x:ByteArray}{i:Nat}(h:Lib.indexByte x.data.toList c=i):i+1<=x.size/\piecesC c x=x.extract 0 i :: piecesC c (x.extract (i+1) x.size):=by
 obtain⟨d,a⟩:=uh h;have b:x.data.toList.length=x.size:=by simp
 refine⟨ω,?_⟩
 unfold piecesC;rw[a,List.map_cons,jH (Lib.extract_from_zero x i),Lib.extract_to_end]
def mG(P W:List ByteArray):Prop:=1<=W.length/\W.length<=5/\(P.length<=4->W=P)/\(5<=P.length->W.length=5)
theorem If{P done:List ByteArray}{a:ByteArray}{N:Nat}(h:done++piecesC 32 a=P)(m:done.length+1=N)(l:N=5\/P.length<=N)(e:N<=5):mG P (done++[a]):=by
 have o:=g7 32 a;have n:P.length=done.length+(piecesC 32 a).length:=by rw[←h,List.length_append]
 refine⟨by simp,by simp;omega,fun j=>?_,fun b=>by simp;omega⟩
 have c:(piecesC 32 a).length=1:=ω;have g:=Lib.indexByte_ge a.data.toList 32
 by_cases d:Lib.indexByte a.data.toList 32 = -1
 ·rw[←h,uX d]
 obtain⟨i,f⟩:∃i:Nat,Lib.indexByte a.data.toList 32=i:=⟨(Lib.indexByte a.data.toList 32).toNat,ω⟩
 have b:=(q8 f).2;have k:=g7 32 (a.extract (i+1) a.size);rw[b,List.length_cons]at c
 omega
theorem Lp{P done:List ByteArray}{a:ByteArray}{N:Nat}(h:done++piecesC 32 a=P)(c:Lib.indexByte a.data.toList 32 = -1)(d:done.length+1<=N)(b:N<=5):mG P (done++[a]):=by
 rw[uX c]at h;rw[h];have e:P.length=done.length+1:=by rw[←h];simp
 exact⟨ω,ω,fun _=>rfl,fun _=>ω⟩
theorem yG(s:ByteArray)(w:World)(R:s.size<=4611686018427387904):Calls prog 172 #[.string s,.string ⟨#[32]⟩,.int .i64 0,.int .i64 5] w fun e w' =>∃W N,e=.returned (.slice (some ⟨w.heap.size,0,none⟩) W.length N)/\w'=w.alloc (.cells (Lib.cellsOf W N) 9)/\W.length<=N/\mG (piecesC 32 s) W:=by
 have h:∀(t:ByteArray) (w:World),Calls prog 181 #[.string t,.string ⟨#[32]⟩] w fun e w'=>e=.returned (.int .i64 (Lib.indexByte t.data.toList 32))/\w'=w:=fun t w=>Any.strings_Index_one lays143 t 32 w
 have l:=lh 32 s;obtain⟨N,I⟩:=ar (min 5 (s.size+1));have d:N<=5:=ω;have E:1<=N:=ω;have q:Hid (N=5\/(piecesC 32 s).length<=N):=by show _\/_;omega
 have x:=run_make_row' (P:=prog) 147 9 (.string ByteArray.empty) 16 underlying147 infoStr rfl .i64 .i64 N ω ω
 have K:(s.size:Int)<=4611686018427387904:=ω;have F:(N:Int)<=5:=ω;have G:(1:Int)<=(N:Int):=ω;have y:min (5:Int) ((s.size:Int)+1)=(N:Int):=ω;have p:=aa h;clear I l h
 go_enter func172,ntmps172
 go_wp2_with fail;clear x y
 go_loopg [0,10,11] (N-1) (fun g s0 ab ac wr =>∃(done:List ByteArray) (a:ByteArray),s0=.string a/\ab=.int .i64 done.length/\done.length<=N-1/\g=N-1-done.length/\a.size<=s.size/\wr=w.alloc (.cells (Lib.cellsOf done N) 9)/\done++piecesC 32 a=piecesC 32 s)
 case atStart=>exact⟨[],s,rfl,rfl,zU,rfl,zT,by rw[Lib.cellsOf_nil],rfl⟩
 case round =>
  obtain⟨done,a,rfl,rfl,Q,rfl,J,rfl,m⟩:=hrel;have z:(Lib.cellsOf done N)[done.length]?=some (.string ByteArray.empty):=Lib.cellsOf_next ω
  have r:=aa m;have n:=fun w=>p.o a w
  have b:Hid (done.length+1<=N):=by show _<=_;omega
  have L:(done.length:Int)+1<=(N:Int):=ω;have B:Hid ((Lib.cellsOf done N).setIfInBounds done.length (.string a)=Lib.cellsOf (done++[a]) N):=by
   show _=_
   rw[Lib.cellsOf_set ω]
  clear m
  by_cases H:done.length<N-1
  ·have j:((done.length:Nat):Int)<(N:Int)-1:=ω;have f:=Lib.indexByte_ge a.data.toList 32
   by_cases o:Lib.indexByte a.data.toList 32 = -1
   ·have C:=aa o
    rw[o]at n;clear f o;go_wp2_with fail;refine(n _).mono ?_;rintro e w2⟨rfl,rfl⟩;go_wp2_with fail;go_ret;refine⟨done++[a],N,?_,?_,?_,Lp r.o C.o b.o d⟩
    ·simp only[List.length_append,List.length_singleton];rfl
    ·rw[←B.o]
    simpa using b.o
   obtain⟨i,v⟩:∃i:Nat,Lib.indexByte a.data.toList 32=i:=⟨(Lib.indexByte a.data.toList 32).toNat,ω⟩
   obtain⟨A,k⟩:=q8 v;rw[v]at n;have D:=aa k;have c0 :¬((i:Int)<0):=ω;have c2:(i:Int)<=(a.size:Int):=ω;have M:(i:Int)+1<=(a.size:Int):=ω;have O:(a.size:Int)<=4611686018427387904:=ω;clear k v o f;go_wp2_with fail;refine(n _).mono ?_;rintro e w2⟨rfl,rfl⟩;go_wp2_with fail
   go_roundg (N-1-(done.length+1))
   case measure=>omega
   case rel =>
    refine⟨done++[a.extract 0 i],a.extract (i+1) a.size,rfl,by simp,by simp;omega,by simp,by rw[ByteArray.size_extract];omega,by rw[←Lib.cellsOf_set ω],?_⟩
    rw[←r.o,D.o]
    simp
  have j :¬(((done.length:Nat):Int)<(N:Int)-1):=ω;have u:done.length+1=N:=ω;have c:=aa u;clear n;go_wp2_with fail;go_ret;refine⟨done++[a],N,?_,?_,?_,If r.o c.o q.o d⟩
  ·rw[List.length_append,List.length_singleton,c.o];rfl
  ·rw[←B.o]
  simpa using b.o
theorem Cw(s:ByteArray)(w:World)(f:s.size<=4611686018427387904):Calls prog 127 #[.string s,.string ⟨#[32]⟩,.int .i64 5] w fun e w' =>∃W N,e=.returned (.slice (some ⟨w.heap.size,0,none⟩) W.length N)/\w'=w.alloc (.cells (Lib.cellsOf W N) 9)/\W.length<=N/\mG (piecesC 32 s) W:=by
 have h:=yG s w f;generalize piecesC 32 s=P at h;clear f
 go_enter func127,ntmps127
 go_wp2_with fail;refine h.mono ?_;rintro e w1⟨W,N,rfl,rfl,c,d⟩;have i:=aa d;have g:=aa c;obtain⟨cs,a⟩:=ar (Lib.cellsOf W N);obtain⟨L,b⟩:=ar W.length;have j:=aa a;have k:=aa b;rw[a,b];clear d c a b;go_wp2_with fail;go_ret;exact⟨W,N,by rw[k.o];rfl,by rw[j.o],g.o,i.o⟩
theorem GR:∀l:List UInt8,(cutB 46 l).any (fun p=>p.any badW)=l.contains 61
 | []=>rfl
 |x :: t=>by
  have d:=GR t;rw[List.contains_cons,←d,cutB]
  by_cases b:x=46
  ·subst b
   rw[if_pos rfl]
   rfl
  rw[if_neg b];have c:badW x=((61:UInt8) ==x):=by
   unfold badW;rw[show(x == 46)=false by simpa using b,Bool.or_false,Bool.beq_comm]
  cases hs:cutB 46 t with
  |nil=>exact absurd hs (o6 46 t)
  |cons a r=>simp only[List.any_cons,c,Bool.or_assoc]
theorem KX(s:ByteArray):(piecesC 46 s).all nmW=(!s.data.toList.contains 61&& !(cutB 46 s.data.toList).any List.isEmpty):=by
 rw[←GR];unfold piecesC;generalize cutB 46 s.data.toList=L
 induction L with
 |nil=>rfl
 |cons a r ih =>
  simp only[List.map_cons,List.all_cons,List.any_cons,ih];have:nmW ⟨a.toArray⟩=(!a.any badW&& !a.isEmpty):=by unfold nmW;rfl
  rw[this];cases a.any badW<;>cases a.isEmpty<;>simp
theorem Cu(s:ByteArray)(w:World)(i:iv w)(j:s.size<=1048576):Rt 178 #[.string s] w (.bool ((piecesC 46 s).all nmW)):=by
 obtain⟨-,-,-,m,g⟩:=i;have c:=Any.strings_Contains_one lays144 s 61 w;rw[←Lib.contains_iff_indexByte]at c;have f:((⟨#[46]⟩:ByteArray)++s++⟨#[46]⟩).data.toList=46 :: (s.data.toList++[46]):=by
  rw[ByteArray.data_append,ByteArray.data_append,Array.toList_append,Array.toList_append]
  rfl
 have h:((⟨#[46]⟩:ByteArray)++s++⟨#[46]⟩).size<4294967281:=by rw[Lib.size_eq,f];simp;omega
 have d:=Any.strings_Contains lays144 (⟨#[46]⟩ ++s++⟨#[46]⟩) ⟨#[46,46]⟩ m w h g;rw[f,show(⟨#[46,46]⟩:ByteArray).data.toList=[46,46]from rfl,(n9 s.data.toList).1]at d
 rw[KX];generalize s.data.toList.contains 61=a at c;generalize (cutB 46 s.data.toList).any List.isEmpty=b at d;have k:(s.size:Int)<=1048576:=ω;have l:(((⟨#[46]⟩:ByteArray).size:Nat):Int)=1:=rfl;have n:(((⟨#[46]⟩:ByteArray)++s).size:Int)<=1048577:=by rw[ByteArray.size_append];show((1+s.size:Nat):Int)<=_;omega
 clear f h g j;cases a
 ·cases b
  all_goals
   go_enter func178,ntmps178
   go_wp2_with fail;refine c.mono ?_;rintro e w1⟨rfl,rfl⟩;go_wp2_with fail;refine d.mono ?_;rintro e w2⟨rfl,rfl⟩;go_wp2_with fail;go_ret;exact⟨rfl,zS⟩
 clear d
 go_enter func178,ntmps178
 go_wp2_with fail;refine c.mono ?_;rintro e w1⟨rfl,rfl⟩;go_wp2_with fail;go_ret;exact⟨rfl,zS⟩
end Go.Proofs.YtjfampgnhccodaaGreatDoor
