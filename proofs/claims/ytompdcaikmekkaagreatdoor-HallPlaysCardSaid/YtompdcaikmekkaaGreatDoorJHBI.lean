/- A queue of places in m -/
import Derived.BigRegion
import Derived.Test.YtompdcaikmekkaaGreatDoorJHBD
import Derived.Test.YtompdcaikmekkaaGreatDoorJHBG
namespace Go.Proofs.YtompdcaikmekkaaGreatDoor
open ChangeShapes WideShapes ChangeAt RowKit
set_option maxRecDepth 99999
set_option maxHeartbeats 0
structure QM (w:World) (B q gM gU N:Nat) (M:Nat→Int) (UV:Nat→Value) (UL:Nat→List Int) (R:Value) (RL:List Int):Prop where
 hq:w.heap[q]?=some (.cells #[.slice (some ⟨gM,0,none⟩) N N,.slice (some ⟨gU,0,none⟩) N N,R] 150 (0,0))
 hM:eR w gM N 3 fun j=>.int .i64 (M j)
 hU:eR w gU N 26 UV
 own:∀ j,j<N→w.ownsRow B 3 1 (UV j) (UL j).length (aF (UL j))
 ready:w.ownsRow B 3 1 R RL.length (aF RL)
 dM:∀ j,j<N→(UV j).ownBlock≠some gM
 dU:∀ i j,i<N→j<N→i≠j→∀ b,(UV i).ownBlock=some b→(UV j).ownBlock≠some b
 dR:R.ownBlock≠some gM
 dRU:∀ j,j<N→∀ b,R.ownBlock=some b→(UV j).ownBlock≠some b
 lq:B≤q
 lM:B≤gM
 lU:B≤gU
section
variable {w w':World} {B q gM gU N:Nat} {M:Nat→Int} {UV:Nat→Value} {UL:Nat→List Int} {R:Value} {RL:List Int}
theorem QM.ql (h:QM w B q gM gU N M UV UL R RL):q<w.heap.size:=(zY h.hq).1
theorem QM.later (h:QM w B q gM gU N M UV UL R RL) (a:Bl w w'):QM w' B q gM gU N M UV UL R RL :=
 ⟨(a.block q h.ql).trans h.hq,h.hM.same (a.block _ h.hM.lt),h.hU.same (a.block _ h.hU.lt),fun j b=>ao (h.own j b) a,ao h.ready a,h.dM,h.dU,h.dR,h.dRU,h.lq,h.lM,h.lU⟩
theorem QM.cells (h:QM w B q gM gU N M UV UL R RL):w.cell? ⟨q,0,none⟩=some (.slice (some ⟨gM,0,none⟩) N N)∧w.cell? ⟨q,1,none⟩=some (.slice (some ⟨gU,0,none⟩) N N)∧w.cell? ⟨q,2,none⟩=some R∧w.frozen? ⟨q,2,none⟩=false :=
 ⟨by simp [World.cell?,h.hq],by simp [World.cell?,h.hq],by simp [World.cell?,h.hq],by simp [World.frozen?,h.hq]⟩
theorem QM.ne (h:QM w B q gM gU N M UV UL R RL):q≠gM∧q≠gU∧gM≠gU:=by
 refine ⟨fun e=>?_,fun e=>?_,fun e=>?_⟩
 ·have a:=h.hq;rw [e,h.hM] at a;simp at a
 ·have a:=h.hq;rw [e,h.hU] at a;simp at a
 have a:=h.hM;unfold eR at a;rw [e,h.hU] at a;simp at a
theorem QM.off (h:QM w B q gM gU N M UV UL R RL) {b:Nat} {a:Array Value} (c:w.heap[b]?=some (.cells a 3 (0,0))):b≠q∧b≠gU:=by
 refine ⟨fun e=>?_,h.hU.off c gX⟩
 rw [e,h.hq] at c
 simp at c
theorem QM.setM (h:QM w B q gM gU N M UV UL R RL) (m:Nat) (x:Int):QM (w.setCell ⟨gM,m,none⟩ (.int .i64 x)) B q gM gU N (fun j=>if j=m then x else M j) UV UL R RL:=by
 obtain ⟨n1,n2,n3⟩:=h.ne;refine ⟨by rw [av _ _ _ _ _ n1];exact h.hq,?_,h.hU.same (av _ _ _ _ _ n3.symm),fun j a=>fd (h.own j a) (h.dM j a),fd h.ready h.dR,h.dM,h.dU,h.dR,h.dRU,h.lq,h.lM,h.lU⟩
 refine h.hM.set (f':=fun j=>.int .i64 (if j=m then x else M j)) fun j _=>?_
 by_cases e:j=m
 ·simp only [if_pos e]
 simp only [if_neg e]
theorem QM.pushR (h:QM w B q gM gU N M UV UL R RL) {w4 w6:World} {L:List Int} {v:Value} {H:Nat} (l:Bl w w4) (n:w4.grownBy w6 R.ownBlock) (s:w6.ownsRow B 3 1 v L.length (aF L)) (d:v.ownBlock=R.ownBlock∨v.ownBlock=some H) (x:w.heap.size≤H) :
  QM (w6.setCell ⟨q,2,none⟩ v) B q gM gU N M UV UL v L:=by
 obtain ⟨n1,n2,n3⟩:=h.ne;have o:=fun b (e:R.ownBlock=some b)=>bO h.ready e
 have a:∀ b,b<w.heap.size→R.ownBlock≠some b→w6.heap[b]?=w.heap[b]?:=fun b c m=>(n.block b (zW c l.size) (fun e=>m e.symm)).trans (l.block b c)
 have p:R.ownBlock≠some q:=fun e=>by obtain ⟨-,-,g,i⟩:=o q e;exact (h.off i).1 rfl
 have t:R.ownBlock≠some gU:=fun e=>by obtain ⟨-,-,g,i⟩:=o gU e;exact (h.off i).2 rfl
 have u:v.ownBlock≠some q:=fun e=>by
  rcases d with h1 | h1
  ·exact p (h1.symm.trans e)
  rw [h1] at e;have:=h.ql;simp at e;omega
 refine ⟨?_,(h.hM.same (a _ h.hM.lt h.dR)).same (av _ _ _ _ _ n1.symm),(h.hU.same (a _ h.hU.lt t)).same (av _ _ _ _ _ n2.symm),fun j f=>?_,fd s u,h.dM,h.dU,fun e=>?_,fun j f b c e=>?_,h.lq,h.lM,h.lU⟩
 ·have:=cH (k:=2) (v:=v) ((a q h.ql p).trans h.hq)
  simpa using this
 ·refine fd (iF (ao (h.own j f) l) n fun b c e=>h.dRU j f b e c) fun r=>?_
  obtain ⟨-,-,g,i⟩:=bO (h.own j f) r;exact (h.off i).1 rfl
 ·rcases d with h1 | h1
  ·exact h.dR (h1.symm.trans e)
  rw [h1] at e;have:=h.hM.lt;simp at e;omega
 rcases d with h1 | h1
 ·exact h.dRU j f b (h1.symm.trans c) e
 rw [h1] at c;have:=(bO (h.own j f) e).2.1
 simp at c
 omega
end
theorem ry (q g n:Nat) (D:Nat→Dm) (X:Nat→AL) (x:Nat) (AC:Option Addr) (cC:Nat) (L:List (Int×Int)) (w:World) (hR:dH D n) (hE:(am D n).2.2=0) (hx:x<prodN D n) (Y:cI w q g n D X) (hL:L.length=prodN D n) (hC:dw w AC cC L) (hok:∀ z∈ndsX D n x,b5 (L.getD z.toNat noC)) :
  Rt 39 #[.pointer (some ⟨q,0,none⟩),.slice AC (prodN D n) cC,.int .i64 x] w (.tuple #[.agg #[.int .i64 (qg D n L x).1,.int .i64 (qg D n L x).2],.nilIface]):=by
 obtain ⟨i0,hi0,hz0,hz1,hz2⟩:=info_parts Tryz.infoCe;obtain ⟨hn1,hn4,hp3,hd⟩:=au hE;obtain ⟨W,hW⟩:=aA (w.alloc (.cells #[.int .i64 0,.int .i64 0] 52));have E:Bl w W:=by rw [←hW];go_grown
 have H:W.heap[w.heap.size]?=some (.cells #[.int .i64 0,.int .i64 0] 52 (0,0)):=by rw [←hW];exact heap_alloc_new ..
 have a:=aa E;have HWb:=aa H;have hl0:w.heap.size<W.heap.size:=(zY H).1;obtain ⟨hcL,-,h0 | ⟨bc,oc,rfl,KG⟩⟩:=id hC
 ·rw [h0] at hL;simp at hL;omega
 have B:=r9 q g n D X x W hE hx (Y.later E);have T:Hid (∀ w',Bl w w'→bc<w'.heap.size∧∀ j,j<prodN D n→w'.cell? ⟨bc,oc+j*2,none⟩=some (.int .i64 (L.getD j noC).1)∧w'.cell? ⟨bc,oc+j*2+1,none⟩=some (.int .i64 (L.getD j noC).2)):=fun w' p=>by
  obtain ⟨-,-,h0 | ⟨bc',oc',h1,G⟩⟩:=hC.later p
  ·rw [h0] at hL;simp at hL;omega
  cases h1;exact ⟨G.1,fun j hj=>G.2 j (by omega)⟩
 have U:Hid (∀ w',Bl w w'→q<w'.heap.size∧w'.cell? ⟨q,0,none⟩=some (.slice (some ⟨g,0,none⟩) n n)∧w'.cell? ⟨q,1,none⟩=some (.int .i64 (prodN D n:Nat))):=fun w' p=>(Y.later p).cells
 have HA:=aa Y;have HRs:Hid (∀ w',Bl W w'→w.heap.size<w'.heap.size∧w'.cell? ⟨w.heap.size,0,none⟩=some (.int .i64 0)∧w'.cell? ⟨w.heap.size,1,none⟩=some (.int .i64 0)∧w'.frozen? ⟨w.heap.size,0,none⟩=false∧w'.frozen? ⟨w.heap.size,1,none⟩=false):=fun w' p=>⟨zW hl0 p.size,cE ((p.block _ hl0).trans H)⟩
 obtain ⟨hq,q0,q1⟩:=U.out W E;have hnI:(n:Int)≤4:=by omega
 have hP:=bY (D:=D) (n:=n) (x:=x) hE;obtain ⟨N,hN⟩:=aA (prodN D n);have HN:=aa hN
 rcases by_in D (aj D n x) n with h | ⟨b,h,hb⟩
 ·have HV:Hid (qg D n L x=L.getD x noC):=AZ (by omega)
  rw [h] at B;rw [hN] at q1 hx hp3 T U hL ⊢;have hxI:(x:Int)<(N:Int):=by omega
  have hNI:(N:Int)≤3000:=by omega
  have hcI:(N:Int)≤(cC:Int):=by omega
  clear Y hE hR hP h hd hC KG hok E H hN
  go_enter Tryz.func39,Tryz.ntmps39
  go_wp2_with fail;refine B.mono ?_;rintro e w1 ⟨rfl,f⟩;have HB1:=aa f;obtain ⟨hbc,I⟩:=T.out w1 (ae a.out f);obtain ⟨y0,y1⟩:=I x hx;obtain ⟨hr,r0,r1,r2,r3⟩:=HRs.out w1 f;obtain ⟨⟨ra,rb⟩,s⟩:∃ R,L.getD x noC=R:=⟨_,rfl⟩;have HRe:=aa s;rw [s] at y0 y1;simp only at y0 y1;clear f B q0 q1 hW I s;go_wp2_with fail;refine bodyPost_ret (v:=.tuple #[.agg #[.int .i64 ra,.int .i64 rb],.nilIface]) (by simp [results,Tryz.results39,go_sem,r0,r1]) rfl ⟨by rw [HV.out,HRe.out],?_⟩
  exact ((ae a.out HB1.out).setCell (by simp) _).setCell (by simp) _
 obtain ⟨hd1,hd12⟩:=hd b hb;have hp0:=hP.lo b hb;have hp1:=hP.hi b hb;obtain ⟨m,hm⟩:=aA (x / b9 D n b % (D b).n);have hpm:((aj D n x).getD b 0).toNat=m:=by rw [oA hb,hm]
 have K:m<(D b).n:=by rw [←hm];exact Nat.mod_lt _ hd1
 have HV:Hid (qg D n L x=eu (D b) (fun k=>L.getD (jg D n x b k).toNat noC) m):=by show _=_;rw [IK h,hpm]
 have V:Hid (ndsX D n x=(uF (D b) m).map (jg D n x b)):=by show _=_;rw [o6 h,hpm]
 have hSp:=iK (D:=D) (n:=n) (fun i hi=>(hd i hi).1) hb
 obtain ⟨S,Z⟩:=aA (b9 D n b);have HWy:Hid (∀ w',Bl w w'→Rt 79 #[.agg #[.int .i64 (D b).solve,.int .i64 S,.slice (X b).A (D b).n (X b).c],.int .i64 x] w' (wayV ((X b).xs.getD m eT))):=fun w' p=>th (D b) S (X b) x m w' (by rw [←Z];exact hSp) hd1 hd12 (by omega) (by rw [←Z];exact hm) ((Y.later p).2.one hb).2.2
 have l:Hid (∀ w' A' o,Bl w w'→dw w' A' o ((ndsX D n x).map fun z=>L.getD z.toNat noC)→Rt 80 #[wayV ((X b).xs.getD m eT),.slice A' (ndsX D n x).length o] w' (.tuple #[.agg #[.int .i64 (qg D n L x).1,.int .i64 (qg D n L x).2],.nilIface])):=fun w' A' o p hCv=>by
  obtain ⟨-,-,hOne⟩:=(Y.later p).2.one hb;obtain ⟨-,-,-,-,-,hWt⟩:=hOne.way K;have hwo:=hOne.2.2 m K;have hne:=zd hwo;have h2:=Gl (D b) m ((X b).xs.getD m eT) A' o (fun k=>L.getD (jg D n x b k).toNat noC) w' (hR b hb) K hwo hWt (fun k hk=>hok _ (by rw [V.out,List.mem_map];exact ⟨k,(nC (hR b hb) K k).2 hk,rfl⟩)) (by
   rw [V.out,List.map_map] at hCv;rw [hne];exact hCv)
  rw [hne,←HV.out] at h2;have hl2:(ndsX D n x).length=(uF (D b) m).length:=by rw [V.out,List.length_map]
  rw [hl2];exact h2
 have C:Hid (∀ w',Bl w w'→Calls Tryz.prog 78 #[.pointer (some ⟨q,0,none⟩),.int .i64 x] w' fun e w''=>(∃ v,e=.returned v∧w''.ownsRow w'.heap.size 3 1 v (ndsX D n x).length (aF (ndsX D n x)))∧Bl w' w''):=fun w' p=>mn q g n D X x w' hR hE hx (Y.later p)
 have HIn:Hid (∀ z∈ndsX D n x,∃ y:Nat,z=(y:Int)∧y<N):=fun z hz=>by
  obtain ⟨y,e1,e2⟩:=xE hR hE hx z hz;exact ⟨y,e1,by omega⟩
 have hln:=nB hR hE hx;have HCx:Hid (∀ w',Bl w w'→g<w'.heap.size∧w'.cell? ⟨g,b*3,none⟩=some (.int .i64 (D b).solve)∧w'.cell? ⟨g,b*3+1,none⟩=some (.int .i64 S)∧w'.cell? ⟨g,b*3+2,none⟩=some (.slice (X b).A (D b).n (X b).c)):=fun w' p=>by
  obtain ⟨hg,⟨c0,c1,c2⟩,-⟩:=(Y.later p).2.one hb;rw [Z] at c1;exact ⟨hg,c0,c1,c2⟩
 obtain ⟨P,hPn⟩:=aA (ndsX D n x);rw [hPn] at l C HIn hln;obtain ⟨F,hF⟩:=aA ((fun z:Int=>L.getD z.toNat noC))
 have HFe:Hid (∀ z:Int,F z=L.getD z.toNat noC):=fun z=>by rw [←hF]
 rw [hF] at l;obtain ⟨⟨ra,rb⟩,s⟩:∃ R,qg D n L x=R:=⟨_,rfl⟩;rw [s] at l ⊢;simp only at l ⊢;obtain ⟨M,hMl⟩:=aA P.length;have HM:=aa hMl;rw [hMl] at l C hln;have hMI:(M:Int)≤12:=by omega
 rw [h] at B;rw [hN] at q1 hx hp3 T U hL ⊢;have hxI:(x:Int)<(N:Int):=by omega
 have hNI:(N:Int)≤3000:=by omega
 have hcI:(N:Int)≤(cC:Int):=by omega
 have hbI:(b:Int)<(n:Int):=by omega
 have hb0:((b:Int) == -1)=false:=by simp
 generalize wayV ((X b).xs.getD m eT)=wv at HWy l;clear Y hE hR hP h hd hC KG hok E H hp0 hp1 hm hpm K hSp Z hPn hMl V HV s hN hF
 go_enter Tryz.func39,Tryz.ntmps39
 go_wp2_with fail;refine B.mono ?_;rintro e w1 ⟨rfl,f⟩;have HB1:=aa f;have hnd:=C.out w1 (ae a.out f);clear f B q0 q1 hW;go_wp2_with fail;refine hnd.mono ?_;rintro e w2 ⟨⟨v,rfl,hO2⟩,hb2⟩;have HB2:=aa (ae HB1.out hb2);have HIt:Hid (∃ A' o,v=.slice A' M o∧aR w2 A' o P):=by
  have h2:=hO2;rw [←HM.out] at h2;obtain ⟨A',o,e,hv⟩:=bP h2;rw [HM.out] at e;exact ⟨A',o,e,hv⟩
 obtain ⟨A2,c2,rfl,hI2⟩:=HIt.out;have HI2:=aa hI2;clear hb2 hnd hO2 hI2 HIt;go_wp2_with fail
 go_loopg [9,46] M (fun gg s9 s46 wr => ∃ (k:Nat) (u:Value),k≤M∧gg=M-k∧s46=.int .i64 k∧u=s9∧Hid (wr.ownsRow w2.heap.size 52 2 u k (bK ((P.take k).map F)))∧Hid (Bl w2 wr))
 case atStart=>exact ⟨0,_,zU,rfl,rfl,rfl,World.ownsRow_nil _ _ _ _,zS⟩
 case round =>
  obtain ⟨k,u,hk,rfl,rfl,rfl,HO,Q⟩:=hrel;have d:=aa (ae HB2.out Q.out)
  by_cases hlt:k<M
  ·have hki:(k:Int)<(M:Int):=by omega
   have hkP:k<P.length:=by rw [HM.out];exact hlt
   obtain ⟨y,hy,hyN⟩:=HIn.out _ (gi hkP);obtain ⟨hcS,-,hS0 | ⟨bs,cs,fr,rfl,hbS,hcl⟩⟩:=HI2.out.later Q.out
   ·have:=HM.out;rw [hS0] at this;simp at this;omega
   have cx:=hcl k hkP;have hbs:bs<wr.heap.size:=(zY hbS).1;rw [HM.out] at hcS;rw [hy] at cx;have hcSI:(M:Int)≤(c2:Int):=by omega
   have HSn:Hid ((P.take (k+1)).map F=(P.take k).map F ++ [L.getD y noC]):=by
    show _=_
    rw [Fa F P hkP,HFe.out,hy,Int.toNat_natCast]
   obtain ⟨hbc,I⟩:=T.out wr (ae a.out d.out);obtain ⟨y0,y1⟩:=I y hyN;have hyI:(y:Int)<(N:Int):=by omega
   generalize L.getD y noC=r at y0 y1 HSn;obtain ⟨sa,sb⟩:=r;simp only at y0 y1;have hsz2:=Q.out.size;clear hcl hbS hy I
   go_wp2_with (at_builtin;refine wpList_append_own _ rfl _ _ 45 rfl w2.heap.size 52 i0 (.agg #[.int .i64 0,.int .i64 0]) 2 16 Tryz.underlying45 hi0 hz0 hz1 hz2 rfl (by decide) _ _ _ rfl (HO.out.alloc _) ⟨wr.heap.size,0,none⟩ 1 1 [.int .i64 sa,.int .i64 sb] rfl rfl ?qe2 ?qe3 ?qe4 ?qe5 ?qe6 ?_)
   case qe2 =>
    intro j t hj;rw [pz,Lib.cell_of_heap (heap_alloc_new wr (.cells #[.int .i64 sa,.int .i64 sb] 52))]
    simpa using hj
   case qe3=>intro t ht;simp at ht;rcases ht with rfl | rfl <;> rfl
   case qe4=>simp only [maxLen];omega
   case qe5=>omega
   case qe6=>simp;omega
   intro v' w4 O J hnil;have HB4:Hid (Bl w2 w4):=bB Q.out HO.out J;have HO4:Hid (w4.ownsRow w2.heap.size 52 2 v' (k+1) (bK ((P.take (k+1)).map F))):=by
    show World.ownsRow ..
    rw [HSn.out,cellsC_append,List.map_take];exact O
   clear O J hnil;go_wp2_with fail
   go_roundg (M-(k+1))
   case measure=>omega
   case rel=>exact ⟨k+1,_,by omega,rfl,by go_num,rfl,HO4,HB4⟩
  have hke:k=M:=by omega
  subst hke;have HCv:Hid (∃ A' o,u=.slice A' k o∧dw wr A' o (P.map F)):=by
   have h:=HO.out;rw [List.take_of_length_le (by rw [HM.out];exact zT)] at h
   have hlen:(P.map F).length=k:=by rw [List.length_map];exact HM.out
   rw [←hlen] at h;obtain ⟨A',o,e,hv⟩:=zt h;rw [hlen] at e;exact ⟨A',o,e,hv⟩
  obtain ⟨A3,c3,rfl,hC3⟩:=HCv.out;have HC3:=aa hC3;obtain ⟨hq1,p0,p1⟩:=U.out wr (ae a.out d.out);obtain ⟨hg1,a1,a2,a3⟩:=HCx.out wr (ae a.out d.out);have hwy:=HWy.out wr (ae a.out d.out);clear hC3 HCv;go_wp2_with fail;refine hwy.mono ?_;rintro e w5 ⟨rfl,hb5⟩;have HB5:=aa (ae d.out hb5);have htl:=l.out w5 A3 c3 (ae a.out HB5.out) (HC3.out.later hb5);clear hb5 hwy p0 p1 a1 a2 a3;go_wp2_with fail;refine htl.mono ?_;rintro e w6 ⟨rfl,hb6⟩;have HB6:=aa (ae HB5.out hb6);obtain ⟨hr,r0,r1,r2,r3⟩:=HRs.out w6 HB6.out;clear hb6 htl;go_wp2_with fail;refine bodyPost_ret (v:=.tuple #[.agg #[.int .i64 ra,.int .i64 rb],.nilIface]) (by simp [results,Tryz.results39,go_sem,r0,r1]) rfl ⟨rfl,?_⟩
  exact ((ae a.out HB6.out).setCell (by simp) _).setCell (by simp) _
def fQ (w:World) (g n:Nat) (f:Nat→Bool):Prop:=w.heap[g]?=some (.cells ((List.range n).map fun j=>Value.bool (f j)).toArray 4 (0,0))
theorem fQ.lt {w:World} {g n:Nat} {f:Nat→Bool} (h:fQ w g n f):g<w.heap.size:=(zY h).1
theorem fQ.cell {w:World} {g n:Nat} {f:Nat→Bool} (h:fQ w g n f) {j:Nat} (a:j<n):w.cell? ⟨g,j,none⟩=some (.bool (f j)):=by
 rw [Lib.cell_of_heap h]
 simp [a]
theorem fQ.frozen {w:World} {g n:Nat} {f:Nat→Bool} (h:fQ w g n f) (j:Nat):w.frozen? ⟨g,j,none⟩=false:=Lib.frozen_of_heap h j
theorem fQ.later {w w':World} {g n:Nat} {f:Nat→Bool} (h:fQ w g n f) (a:Bl w w'):fQ w' g n f:=(a.block g h.lt).trans h
theorem fQ.set {w:World} {g n:Nat} {f f':Nat→Bool} (h:fQ w g n f) {m:Nat} (b:∀ j,j<n→f' j=if j=m then true else f j):fQ (w.setCell ⟨g,m,none⟩ (.bool true)) g n f':=by
 unfold fQ at *;simp only [World.setCell,Array.getElem?_modify,if_true,h,Option.map_some,Option.some.injEq,Obj.cells.injEq,and_true,Option.isSome_none,Bool.false_eq_true,if_false];apply Array.ext_getElem?;intro j;rw [Array.getElem?_setIfInBounds]
 by_cases a:j<n
 ·by_cases e:m=j
  ·rw [if_pos e,if_pos (by simp;omega)]
   simp [a,b j a,e]
  have c:j≠m:=fun x=>e x.symm
  rw [if_neg e];simp only [List.getElem?_toArray,List.getElem?_map,List.getElem?_range a,Option.map_some,b j a,if_neg c]
 by_cases e:m=j
 ·rw [if_pos e,if_neg (by simp;omega),Array.getElem?_eq_none (by simp;omega)]
 rw [if_neg e,Array.getElem?_eq_none (by simp;omega),Array.getElem?_eq_none (by simp;omega)]
theorem fQ.made (w:World) (n:Nat):fQ (w.alloc (.cells (madeCells #[.bool false] n) 4)) w.heap.size n fun _=>false:=by
 unfold fQ;have e:madeCells #[.bool false] n=((List.range n).map fun _=>Value.bool false).toArray:=by
  apply Array.ext
  ·simp [madeCells]
  intro i a b
  simp [madeCells,Nat.mod_one]
 rw [e];exact heap_alloc_new w _
theorem ir {B:Nat} {w0 w:World} {g j:Nat} {v:Value} (h:Below B w0 w) (b:B≤g):Below B w0 (w.setCell ⟨g,j,none⟩ v):=by
 refine ⟨h.os,h.tape,h.output,by simpa [World.setCell] using h.size,fun k a=>?_⟩
 rw [←h.block k a];simp only [World.setCell,Array.getElem?_modify];rw [if_neg (by omega)]
theorem Tryz.infoBol:(Tryz.prog.info? 4).map (fun i=>(i.zero,i.size,i.bytes))=some (some (.bool false),1,1):=by kernel_rfl
def ER (L:List Int) (j:Nat):Bool:=L.contains (j:Int)
theorem ES {L:List Int} {m:Nat} (j:Nat):ER (L ++ [(m:Int)]) j=if j=m then true else ER L j:=by
 unfold ER
 by_cases e:j=m
 ·subst e
  rw [if_pos rfl,List.contains_iff_mem]
  simp
 rw [if_neg e,Bool.eq_iff_iff,List.contains_iff_mem,List.contains_iff_mem,List.mem_append,List.mem_singleton];exact ⟨fun h=>h.resolve_right (by omega),Or.inl⟩
def cntF (f:Nat→Bool):Nat→Nat
 | 0=>0
 | k+1=>cntF f k+(if f k=true then 0 else 1)
def ic (f:Nat→Bool) (x j:Nat):Bool:=if j=x then true else f j
theorem zy {f:Nat→Bool} {x:Nat} (c:f x=false):∀ N,(x<N→cntF (ic f x) N+1=cntF f N)∧(N≤x→cntF (ic f x) N=cntF f N)
 | 0=>⟨fun h=>by omega,fun _=>rfl⟩
 | k+1=>by
  obtain ⟨d,b⟩:=zy c k;refine ⟨fun h=>?_,fun h=>?_⟩
  ·rw [cntF,cntF]
   by_cases e:k=x
   ·rw [b (by omega)]
    subst e
    simp [ic,c]
   have g:=d (by omega)
   have a:ic f x k=f k:=by simp [ic,e]
   rw [a]
   omega
  rw [cntF,cntF,b (by omega)]
  have a:ic f x k=f k:=by simp [ic,show k≠x by omega]
  rw [a]
def kI (N:Nat) (f0 f:Nat→Bool) (ag:Bool):Prop:=(ag=true→cntF f N<cntF f0 N)∧(ag=false→f=f0)
theorem va {N i:Nat} {a f:Nat→Bool} {ag:Bool} (h:kI N a f ag) (d:i<N) (c:f i=false):kI N a (ic f i) true:=by
 refine ⟨fun _=>?_,fun e=>by cases e⟩
 have b:=(zy c N).1 d;cases ag with
 | true=>have:=h.1 rfl;omega
 | false=>rw [h.2 rfl] at b ⊢;omega
def DK (f:Nat→Bool) (ag:Bool) (N:Nat):Nat:=cntF f N+(if ag=true then 1 else 0)
theorem kh (n:Nat) (f:n≤3000) (w:World):(Instr.makeSlice 73 (.int .i64 (n:Int)) (.int .i64 (n:Int))).run Tryz.prog w=.ok (.slice (some ⟨w.heap.size,0,none⟩) n n) (w.alloc (.cells (madeCells #[.bool false] n) 4)):=by
 obtain ⟨i0,a,b,c,d⟩:=info_parts Tryz.infoBol;have e:=run_make (P:=Tryz.prog) w 73 4 i0 _ Tryz.underlying73 a b .i64 .i64 n n (by omega) (Int.le_refl _) (by rw [d];omega) (by omega)
 simp only [Int.toNat_natCast,c,Nat.mul_one] at e;exact e
theorem ew {D:Nat→Dm} {n:Nat} (h:(aP D n).2.2=0):(am D n).2.2=0∧dH D n:=by
 by_cases d:(am D n).2.2=0
 ·refine ⟨d,Classical.byContradiction fun r=>?_⟩
  have f:∃ i,i<n∧(bu (D i)).2≠0:=Classical.byContradiction fun p=>r fun i g=>Classical.byContradiction fun b=>p ⟨i,g,b⟩
  have a:∀ m,(∃ i,i<m∧i<n∧(bu (D i)).2≠0)→∃ i,i<n∧(bu (D i)).2≠0∧∀ j,j<i→(bu (D j)).2=0:=by
   intro m
   induction m with
   | zero=>rintro ⟨i,h,-⟩;omega
   | succ m ih =>
    rintro ⟨i,s,l,o⟩
    by_cases k:∃ i,i<m∧i<n∧(bu (D i)).2≠0
    ·exact ih k
    exact ⟨i,l,o,fun j t=>Classical.byContradiction fun b=>k ⟨j,by omega,by omega,b⟩⟩
  obtain ⟨i0,c,e⟩:=f;obtain ⟨i,g,b,q⟩:=a n ⟨i0,c,c,e⟩;rw [Kh d g b q] at h;exact b h
 rw [Kg d] at h;exact absurd h d
theorem xK {D:Nat→Dm} {n:Nat} {p:List Int} (h:InO D n p):∃ x:Nat,numI D p n=(x:Int)∧x<prodN D n∧aj D n x=p:=by
 obtain ⟨b,c,-⟩:=ba h (Nat.le_refl n);have a:=gj h;exact ⟨(numI D p n).toNat,by omega,by omega,a⟩
theorem ma {D:Nat→Dm} {n:Nat} {l:List En} (h:Ens D n l) (p:List Int):b5 (getE l p):=by
 unfold getE
 split
 ·exact fq
 rename_i e r he
 split
 ·exact fq
 have a:e∈l:=List.mem_of_mem_drop (i:=cntE l p) (by rw [he];exact List.mem_cons_self ..)
 exact BU (h.each e a).2.2
theorem JZ {D:Nat→Dm} {n:Nat} {l:List En} (h:Ens D n l) {j:Nat} (a:j<prodN D n):(wrV D n l).getD j noC=getE l (aj D n j):=by
 rw [Jy h]
 simp [JW,List.getD,a]
end Go.Proofs.YtompdcaikmekkaaGreatDoor
