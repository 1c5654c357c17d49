/- A member taken out of -/
import Derived.Test.YtjfampgnhccodaaGreatDoorJTAW
namespace Go.Proofs.YtjfampgnhccodaaGreatDoor
open Tryz ChangeShapes WideShapes ChangeAt RowKit Lib
set_option maxRecDepth 99999
set_option maxHeartbeats 0
def eg(M:Nat->Mem)(i j:Nat):Nat->Mem:=fun x=>if x<j then⟨(fx M i x).name,wo i (fx M i x).parent,(fx M i x).sign,(fx M i x).formula⟩else fx M i x
def eR(d:Dm)(i:Nat):Dm:=⟨d.name,d.solve,d.n-1,fun x=>⟨(fx d.mem i x).name,wo i (fx d.mem i x).parent,(fx d.mem i x).sign,(fx d.mem i x).formula⟩⟩
theorem BY(M:Nat->Mem)(i:Nat):eg M i 0=fx M i:=by funext x;unfold eg;rw[if_neg (Nat.not_lt_zero _)]
theorem FU(M:Nat->Mem)(i j:Nat):jp (eg M i j) j ⟨(eg M i j j).name,wo i (eg M i j j).parent,(eg M i j j).sign,(eg M i j j).formula⟩=eg M i (j+1):=by
 have a:eg M i j j=fx M i j:=if_neg (Nat.lt_irrefl _);rw[a]
 funext x
 unfold jp
 by_cases e:x=j
 ·subst e
  rw[if_pos rfl];unfold eg;rw[if_pos (Nat.lt_succ_self _)]
 rw[if_neg e];unfold eg
 by_cases h:x<j
 ·rw[if_pos h,if_pos ω]
 rw[if_neg h,if_neg ω]
def jx(l:List En)(k:Nat)(i:Int):List En:=l.filter fun e => !decide (e.pl.getD k 0=i)
def sm(k:Nat)(i:Int)(e:En):En:=⟨e.pl.set k (wo i (e.pl.getD k 0)),e.n⟩
def mt(l:List En)(k:Nat)(i:Int):List En:=(jx l k i).map (sm k i)
theorem LE(ys:List EnL)(k:Nat)(i:Int):lE (ys.filter fun x => !KJ k i x)=jx (lE ys) k i:=by
 unfold jx lE;rw[List.filter_map]
 rfl
def l6(f:En->En)(l:List En)(j:Nat):List En:=(l.take j).map f++l.drop j
theorem IK{zs:List EnL}{k j:Nat}{i:Int}{l:List En}(h:lE zs=l6 (sm k i) l j)(b:j<l.length):lE (j6 zs j k (wo i ((zs.getD j noL).e.pl.getD k 0)))=l6 (sm k i) l (j+1)/\(zs.getD j noL).e=l.getD j noEn:=by
 have c:(l6 (sm k i) l j).length=l.length:=by unfold l6;simp;omega
 have a:(zs.getD j noL).e=l.getD j noEn:=by
  rw[←lE_at,h];unfold l6;rw[zZ,List.getElem?_append_right (by simp;omega),List.getElem?_drop,zZ]
  simp
  congr 2
  omega
 refine⟨?_,a⟩;unfold j6;rw[IJ,h,a];refine List.ext_getElem? fun m=>?_
 rw[List.getElem?_set];unfold l6 at c|-
 by_cases d:j=m
 ·subst d
  rw[if_pos rfl,if_pos (by rw[c];exact b),List.getElem?_append_left (by simp;omega),List.getElem?_map,List.getElem?_take,if_pos ω,zZ,zX b]
  rfl
 rw[if_neg d]
 by_cases f:m<j
 ·rw[List.getElem?_append_left (by simp;omega),List.getElem?_append_left (by simp;omega),List.getElem?_map,List.getElem?_map,List.getElem?_take,List.getElem?_take,if_pos f,if_pos ω]
 rw[List.getElem?_append_right (by simp;omega),List.getElem?_append_right (by simp;omega),List.getElem?_drop,List.getElem?_drop]
 congr 1
 simp
 omega
def nE(d:Dm)(i:Nat):Int:=if d.n=1\/0<=findFrom (fun j=>decide ((d.mem j).parent=(i:Int))) d.n 0 then 6 else 0
theorem IP{L:List Int}{k:Nat}(h:k<L.length):(aA L)[k]?=some (.int .i64 (L.getD k 0)):=by
 rw[zZ,zX h]
 simp[aA,zX h]
theorem DrA.cgM{w:World}{B q g cd n k ge ce:Nat}{D:Nat->Dm}{G C:Nat->Nat}{ys:List EnL}{nm:ByteArray}{sv:Int}{m:Nat}{M M':Nat->Mem}(h:DrA w B q g cd n k ge ce (bN D k ⟨nm,sv,m,M⟩) G C ys)(c:∀x,x<m->M x=M' x):DrA w B q g cd n k ge ce (bN D k ⟨nm,sv,m,M'⟩) G C ys:=by
 refine⟨h.box,h.low,⟨?_,fun i b=>?_,h.own.apart⟩,h.ents,h.kn,h.n4,h.few,h.len⟩
 ·have a:=h.own.dims
  rwa [jI (D':=bN D k ⟨nm,sv,m,M'⟩) (A':=fun i=>some ⟨G i,0,none⟩) (C':=C) n fun i _=>by
   by_cases e:i=k
   ·subst e;rw[putD_at,putD_at];exact⟨rfl,rfl,rfl,rfl,rfl⟩
   rw[b6 D _ e,b6 D _ e];exact⟨rfl,rfl,rfl,rfl,rfl⟩]at a
 by_cases e:i=k
 ·subst e
  have a:=h.own.mems i b;rw[putD_at]at a|-;simp only at a|-
  rwa [gQ m c]at a
 have a:=h.own.mems i b;rw[b6 D _ e]at a|-;exact a
def CO(w:World)(b2 b3 q i:Nat):Prop:=w.heap[b2]?=some (.cells #[.pointer (some ⟨q,0,none⟩)] 116 (0,0))/\w.heap[b3]?=some (.cells #[.int .i64 i] 3 (0,0))
theorem CO.keep{w w':World}{b2 b3 q i:Nat}(h:CO w b2 b3 q i)(a:w'.heap[b2]?=w.heap[b2]?)(b:w'.heap[b3]?=w.heap[b3]?):CO w' b2 b3 q i:=⟨a.trans h.1,b.trans h.2⟩
theorem CO.later{w w':World}{b2 b3 q i:Nat}(h:CO w b2 b3 q i)(a:Bl w w'):CO w' b2 b3 q i:=h.keep (a.block _ (zY h.1).1) (a.block _ (zY h.2).1)
theorem CO.cells{w:World}{b2 b3 q i:Nat}(h:CO w b2 b3 q i):w.cell? ⟨b2,0,none⟩=some (.pointer (some ⟨q,0,none⟩))/\w.cell? ⟨b3,0,none⟩=some (.int .i64 (i:Int)):=⟨(Lib.cell_of_heap h.1 0).trans rfl,(Lib.cell_of_heap h.2 0).trans rfl⟩
theorem CO.off{w:World}{b2 b3 q i g x e:Nat}{c:Array Value}{f:Nat×Nat}{v:Value}(h:CO w b2 b3 q i)(j:w.heap[g]?=some (.cells c e f))(b:e≠116)(d:b3≠g):CO (w.setCell ⟨g,x,none⟩ v) b2 b3 q i :=
 h.keep (ae _ _ _ _ _ (aV h.1 j fun a=>b a.symm)) (ae _ _ _ _ _ d)
def DZ(ys:List EnL)(b:Nat):Prop := ∀y∈ys,∀a,y.A=some ⟨a,0,none⟩->a<b
structure RmS(W wx:World)(B q g cd n k ge ce:Nat)(D:Nat->Dm)(d':Dm)(l:List En)(ys:List EnL)(i b2 b3:Nat):Prop where
 dr:∃G' C',DrA wx B q g cd n k ge ce (bN D k d') G' C' ys
 ents:lE ys=l
 low:DZ ys b2
 box:CO wx b2 b3 q i
 bel:Lw B W wx
 size:W.heap.size<=wx.heap.size
structure RmL(W wx:World)(B q g cd n k ge ce:Nat)(D:Nat->Dm)(d':Dm)(ys:List EnL)(i b2 b3:Nat)(G C:Nat->Nat):Prop where
 dr:DrA wx B q g cd n k ge ce (bN D k d') G C ys
 box:CO wx b2 b3 q i
 bel:Lw B W wx
 size:W.heap.size<=wx.heap.size
theorem RmL.later{W wx w':World}{B q g cd n k ge ce:Nat}{D:Nat->Dm}{d':Dm}{ys:List EnL}{i b2 b3:Nat}{G C:Nat->Nat}(h:RmL W wx B q g cd n k ge ce D d' ys i b2 b3 G C)(a:Bl wx w')(b:B<=wx.heap.size):RmL W w' B q g cd n k ge ce D d' ys i b2 b3 G C :=
 ⟨h.dr.later a,h.box.later a,h.bel.trans (Lw.of b a),zV h.size a.size⟩
theorem BZ(B q g cd n k ge ce:Nat)(D:Nat->Dm)(G C:Nat->Nat)(ys:List EnL)(i:Nat)(w:World)(hB:B<=w.heap.size)(hi:i<(D k).n)(hn:(D k).n<=12)(bb:Tr (D k).mem (D k).n)(a9:∀y∈ys,0<=y.e.pl.getD k 0/\y.e.pl.getD k 0<=12)(h:DrA w B q g cd n k ge ce D G C ys):
  Calls prog 52 #[.pointer (some ⟨q,0,none⟩),.int .i64 i] w (cA w B q g cd n k ge ce D (nE (D k) i) (eR (D k) i) (mt (lE ys) k i)):=by
 obtain⟨W,hW⟩:=ar ((w.alloc (.cells #[.pointer (some ⟨q,0,none⟩)] 116)).alloc (.cells #[.int .i64 (i:Int)] 3));have aB:Bl w W:=by rw[←hW];go_grown
 have bG:W.heap.size=w.heap.size+2:=by rw[←hW];simp
 have k1:W.heap[w.heap.size]?=some (.cells #[.pointer (some ⟨q,0,none⟩)] 116 (0,0)):=by rw[←hW,Below.heap_alloc _ _ _ σ];exact heap_alloc_new ..
 have k2:W.heap[w.heap.size+1]?=some (.cells #[.int .i64 (i:Int)] 3 (0,0)):=by
  have:=heap_alloc_new (w.alloc (.cells #[.pointer (some ⟨q,0,none⟩)] 116)) (.cells #[.int .i64 (i:Int)] 3);rw[show(w.alloc (.cells #[.pointer (some ⟨q,0,none⟩)] 116)).heap.size=w.heap.size+1 by simp]at this
  rw[←hW];exact this
 have Q:CO W w.heap.size (w.heap.size+1) q i:=⟨k1,k2⟩;have hd:=h.later aB;obtain⟨c0,c1,c2,b2⟩:=hd.cells;obtain⟨-,-,d2,b5⟩:=hd.dim;obtain⟨l0,l1⟩:=Q.cells;have T:DZ ys w.heap.size:=fun y hy a ha=>by
  obtain⟨g1,e1,o1⟩:=h.ents.each y hy;rw[e1]at ha;cases ha;exact(aG o1).2.1
 have b6:B<=W.heap.size:=ω;have af:∀w',nE (D k) i=6->Bl W w'->cA w B q g cd n k ge ce D (nE (D k) i) (eR (D k) i) (mt (lE ys) k i) (.returned (errV 6)) w':=fun w' h1 L=>by
  rw[h1];exact cA.bad (by decide) hB (ad aB L)
 by_cases aE:(D k).n=1
 ·have hE:nE (D k) i=6:=if_pos (Or.inl aE)
  have hF:=aa (af W hE (Below.refl _ W));rw[aE]at d2;clear af hd h Q k1 k2 T hE aE hn hi bb a9 aB
  go_enter func52,ntmps52
  go_wp2_with fail;go_ret;exact hF.o
 have ag:=vE 88 (w.heap.size+1) NP B q g cd n k ge ce D G C ys (fun m=>decide (m.parent=(i:Int))) W hn hd fun j w' hj L=>Mn ((D k).mem j) _ i w' (by have:=L.size;omega) (aM L (by show w.heap.size+1<_;omega) l1)
 have aU:(((D k).n:Int) == 1)=false:=by
  have:((D k).n:Int)≠1:=ω;simp only[beq_eq_false_iff_ne];exact this
 cases hAB:decide (0<=findFrom (fun j=>decide (((D k).mem j).parent=(i:Int))) (D k).n 0)
 case true =>
  have hE:nE (D k) i=6:=if_pos (Or.inr (of_decide_eq_true hAB));rw[hAB]at ag;have hF:=aa (fun w'=>af w' hE)
  generalize (D k).n=m at d2 aU;clear af hd h Q k1 k2 T hE hAB aE hn hi bb a9 aB
  go_enter func52,ntmps52
  go_wp2_with fail;refine ag.mono ?_;rintro e w1⟨rfl,aD⟩;have hG:=aa (hF.o w1 aD);go_wp2_with fail;go_ret;exact hG.o
 rw[hAB]at ag;have HE:Hid (nE (D k) i=0):=if_neg (by rintro(e|e);exact aE e;rw[decide_eq_true e]at hAB;cases hAB)
 have ae:Hid (∀w',Bl W w'->Calls prog 89 #[.slice (some ⟨G k,0,none⟩) (D k).n (C k),.int .i64 i,.int .i64 ((i:Int)+1)] w' fun e ab=>e=.returned (.slice (some ⟨G k,0,none⟩) ((D k).n-1) (C k))/\ab.ownsRow B 64 4 (.slice (some ⟨G k,0,none⟩) ((D k).n-1) (C k)) ((D k).n-1) (cellsMb (fx (D k).mem i) ((D k).n-1))/\w'.grownBy ab (some (G k))):=fun w' L=>xv B (G k) (C k) i (D k).n (D k).mem w' hn hi (hd.later L).row
 obtain⟨-,-,-,-,b3,u⟩:=aG hd.row;obtain⟨-,cn,-,-,b1,F⟩:=aG hd.own.dims;have ai:Hid (∀w5,W.grownBy w5 (some (G k))->w5.ownsRow B 64 4 (.slice (some ⟨G k,0,none⟩) ((D k).n-1) (C k)) ((D k).n-1) (cellsMb (fx (D k).mem i) ((D k).n-1))->RmS W (w5.setCell ⟨g,k*3+2,none⟩ (.slice (some ⟨G k,0,none⟩) ((D k).n-1) (C k))) B q g cd n k ge ce D ⟨(D k).name,(D k).solve,(D k).n-1,eg (D k).mem i 0⟩ (lE ys) ys i w.heap.size (w.heap.size+1)):=fun w5 P hr=>by
  obtain⟨r1,r2⟩:=hd.newM b6 P hr (Or.inl rfl);rw[BY];refine⟨⟨_,_,r1⟩,rfl,T,?_,r2,by have:=P.size;simpa using this⟩
  have h5:=Q.keep (w':=w5) (P.block _ ω fun e=>aV k1 u (by decide) (Option.some.inj e)) (P.block _ ω fun e=>aV k2 u (by decide) (Option.some.inj e))
  have bK:=(P.block g cn fun e=>aV F u (by decide) (Option.some.inj e)).trans F
  exact h5.off bK (by decide) (aV h5.2 bK (by decide))
 have HC:Hid (∀w',Bl W w'->w'.cell? ⟨w.heap.size,0,none⟩=some (.pointer (some ⟨q,0,none⟩))/\w'.cell? ⟨w.heap.size+1,0,none⟩=some (.int .i64 (i:Int))/\w'.cell? ⟨q,0,none⟩=some (.pointer (some ⟨g,k*3,none⟩))/\w'.cell? ⟨g,k*3+2,none⟩=some (.slice (some ⟨G k,0,none⟩) (D k).n (C k))/\w'.frozen? ⟨g,k*3+2,none⟩=false):=fun w' L=>⟨(Q.later L).cells.1,(Q.later L).cells.2,(hd.later L).cells.1,(hd.later L).dim.2.2.1,(hd.later L).dim.2.2.2 _⟩
 have au:Hid (some w.heap.size≠some (G k)/\some q≠some (G k)/\some g≠some (G k)/\some (w.heap.size+1)≠some (G k)):=⟨fun e=>aV k1 u (by decide) (Option.some.inj e),fun e=>aV hd.box u (by decide) (Option.some.inj e),fun e=>aV F u (by decide) (Option.some.inj e),fun e=>aV k2 u (by decide) (Option.some.inj e)⟩
 have bf:Hid (∀wx zs,RmS W wx B q g cd n k ge ce D (eR (D k) i) (mt (lE ys) k i) zs i w.heap.size (w.heap.size+1)->cA w B q g cd n k ge ce D (nE (D k) i) (eR (D k) i) (mt (lE ys) k i) (.returned (errV 0)) wx):=fun wx zs hr=>by
  rw[HE.o];obtain⟨⟨G',C',R⟩,hl,-,-,al,-⟩:=hr;exact⟨rfl,fun _=>⟨G',C',zs,R,hl⟩,(Lw.of hB aB).trans al⟩
 have bN:∀j,j<(D k).n->-1<=((D k).mem j).parent/\((D k).mem j).parent<=12:=fun j hj=>by have:=bb j hj;omega
 have bY:=aa bN;have bW:=aa a9;have cH:=aa hd;have a6:=aa bG;have cQ:q<W.heap.size:=hd.lt;have bB:Hid (g≠w.heap.size):=aV F k1 (by decide)
 have bC:Hid (g≠w.heap.size+1):=aV F k2 (by decide)
 have bD:Hid (g≠q):=aV F hd.box (by decide)
 have b7:w.heap.size<W.heap.size:=ω;have b8:w.heap.size+1<W.heap.size:=ω;have cU:IntKind.i64.wrap ((i:Int)+1)=(i:Int)+1:=IntWalk.i64_in _ ω
 have cq:(i:Int)<((D k).n:Int):=ω;have cv:((D k).n:Int)<=12:=ω;obtain⟨Z,bl⟩:=ar ((D k).n-1);have bA:=aa bl;have ci:Z<=12:=ω;rw[bl]at ae ai;obtain⟨gk,bp⟩:=ar (G k);obtain⟨ck,bI⟩:=ar (C k);obtain⟨dn,bm⟩:=ar ((D k).n);rw[bp,bI]at ae ai HC d2;rw[bp]at au;rw[bm]at ae HC d2 cq cv aU;have cG:=aa bm;clear af hd h Q k1 k2 T hAB aE hn hi bb a9 aB bN bl bp bI bm u F bG b5 b2
 go_enter func52,ntmps52
 go_wp2_with fail;refine ag.mono ?_;rintro e w1⟨rfl,aD⟩;have bw:=aa aD;have cR:=aD.size;obtain⟨p1,p2,p3,p4,p5⟩:=HC.o w1 aD;clear aD ag
 go_upto_region 3 with fail
 go_cut []from 24 (fun wx=>Hid (RmS W wx B q g cd n k ge ce D ⟨(D k).name,(D k).solve,Z,eg (D k).mem i 0⟩ (lE ys) ys i w.heap.size (w.heap.size+1)))
 case first =>
  have cj:g≠w.heap.size:=fun e=>bB.o e
  have cl:g≠w.heap.size+1:=fun e=>bC.o e
  have cp:g≠q:=fun e=>bD.o e
  refine wp_region_noPanic ?_;refine wp_region_held_drew (S:=fun w'=>w'.cell? ⟨w.heap.size,0,none⟩=some (.pointer (some ⟨q,0,none⟩))/\w'.cell? ⟨w.heap.size+1,0,none⟩=some (.int .i64 (i:Int))/\w'.cell? ⟨q,0,none⟩=some (.pointer (some ⟨g,k*3,none⟩))) κ (⟨p1,p2,p3⟩) (fun d=>?_)
  refine wpAnyH_take (i:=0) (v:=?v0) rfl κ κ κ (fun _ _ _ h=>h) (Or.inl ⟨by rfl, ?y0⟩) d ?r0
  case y0=>(intro w l;go_simp;try rfl)
  refine wpAnyH_take (i:=1) (v:=?v1) rfl κ κ κ (fun _ _ _ h=>h) (Or.inl ⟨by rfl, ?y1⟩) d ?r1
  case y1=>(intro w l;go_simp;try rfl)
  refine wpAnyH_take (i:=2) (v:=?v2) rfl κ κ κ (fun _ _ _ h=>h) (Or.inl ⟨by rfl, ?y2⟩) d ?r2
  case y2=>(intro w l;go_simp;try rfl)
  refine wpAnyH_take (i:=3) (v:=?v3) rfl κ κ κ (fun _ _ _ h=>h) (Or.inl ⟨by rfl, ?y3⟩) d ?r3
  case y3=>(intro w l;go_simp;try rfl)
  refine wpAnyH_take (i:=4) (v:=?v4) rfl κ κ κ (fun _ _ _ h=>h) (Or.inl ⟨by rfl, ?y4⟩) d ?r4
  case y4=>(intro w l;go_simp;try rfl)
  refine wpAnyH_take (i:=5) (v:=?v5) rfl κ κ κ (fun _ _ _ h=>h) (Or.inl ⟨by rfl, ?y5⟩) d ?r5
  case y5=>(intro w l;go_simp;try rfl)
  refine wpAnyH_take (i:=6) (v:=?v6) rfl κ κ κ (fun _ _ _ h=>h) (Or.inl ⟨by rfl, ?y6⟩) d ?r6
  case y6=>(intro w l;go_simp;try rfl)
  refine wpAnyH_take (i:=7) (v:=?v7) rfl κ κ κ (fun _ _ _ h=>h) (Or.inl ⟨by rfl, ?y7⟩) d ?r7
  case y7=>(intro w l;go_simp;try rfl)
  refine wpAnyH_take (i:=8) (v:=?v8) rfl κ κ κ (fun _ _ _ h=>h) (Or.inl ⟨by rfl, ?y8⟩) d ?r8
  case y8=>(intro w l;go_simp;try rfl)
  refine wpAnyH_take (i:=9) (v:=?v9) rfl κ κ κ (fun _ _ _ h=>h) (Or.inl ⟨by rfl, ?y9⟩) d ?r9
  case y9=>(intro w l;go_simp;try rfl)
  refine wpAnyH_take (i:=11) (v:=?v10) rfl κ κ κ (fun _ _ _ h=>h) (Or.inl ⟨by rfl, ?y10⟩) d ?r10
  case y10=>(intro w l;go_simp;try rfl)
  refine wpAnyH_take (i:=12) (v:=?v11) rfl κ κ κ (fun _ _ _ h=>h) (Or.inl ⟨by rfl, ?y11⟩) d ?r11
  case y11=>(intro w l;go_simp;try rfl)
  refine wpAnyH_take (i:=13) (v:=?v12) rfl κ κ κ (fun _ _ _ h=>h) (Or.inl ⟨by rfl, ?y12⟩) d ?r12
  case y12=>(intro w l;go_simp;try rfl)
  refine wpAnyH_ready (rs:=[10]) κ σ ?_
  refine AllReadyH.cons rfl (fun K O => ?_) AllReadyH.nil
  (go_simp)
  refine O.out _ _ (⟨p1,p2,p3⟩) (fun d=>?_)
  clear O K
  refine wpAnyH_ready (rs:=[14]) κ σ ?_
  refine AllReadyH.cons rfl (fun K O => ?_) AllReadyH.nil
  go_simp
  (go_at_call 89;refine(ae.o _ (ad bw.o γ)).mono ?_;rintro e w5⟨rfl,aq,r⟩;have aw:Bl W w1.drew:=ad bw.o γ;have y1:=(r.cell_far ⟨w.heap.size,0,none⟩ (by simp;omega) au.o.1).trans (HC.o _ aw).1;have y2:=(r.cell_far ⟨q,0,none⟩ (by simp;omega) au.o.2.1).trans (HC.o _ aw).2.2.1;have y3:=(r.cell_far ⟨w.heap.size+1,0,none⟩ (by simp;omega) au.o.2.2.2).trans (HC.o _ aw).2.1;have y4:=(r.cell_far ⟨g,k*3+2,none⟩ (by simp;omega) au.o.2.2.1).trans (HC.o _ aw).2.2.2.1;have y5:=(r.frozen_far ⟨g,k*3+2,none⟩ (by simp;omega) au.o.2.2.1).trans (HC.o _ aw).2.2.2.2;have Y:=aa (ai.o w5 (aS (aC aw) r) aq);clear aw)
  go_wp2_with fail;refine O.out _ _ (⟨y1,y3,y2⟩) (fun d=>?_)
  clear O K
  refine wpAnyH_take (i:=15) (v:=?v13) rfl κ κ κ (fun _ _ _ h=>h) (Or.inl ⟨by rfl, ?y13⟩) d ?r13
  case y13=>(intro w l;go_simp;try rfl)
  refine wpAnyH_take (i:=16) (v:=?v14) rfl κ κ κ (fun _ _ _ h=>h) (Or.inl ⟨by rfl, ?y14⟩) d ?r14
  case y14=>(intro w l;go_simp;try rfl)
  refine wpAnyH_ready (rs:=[17]) κ σ ?_
  refine AllReadyH.cons rfl (fun K O => ?_) AllReadyH.nil
  (go_simp)
  refine O.out _ _ (⟨(World.cell?_setCell_far _ _ _ _ cj).trans y1,(World.cell?_setCell_far _ _ _ _ cl).trans y3,(World.cell?_setCell_far _ _ _ _ cp).trans y2⟩) (fun d=>?_)
  clear O K
  refine wpAnyH_done κ ?_ _
  refine NoPanic.normal ?_;have bU:=Y;clear Y aq r y1 y2 y3 y4 y5;go_wp2_with fail;go_meet;exact bU
 case rest =>
  obtain⟨wx,rfl⟩:∃wx:World,wx=wc:=⟨_,rfl⟩;obtain⟨⟨G',C',R⟩,-,T,Q,al,bR⟩:=hcut.o;have bV:=aa T;have bn:=(aG R.row).2.2.1;obtain⟨q0,-,-,-⟩:=R.cells;obtain⟨-,-,q2,-⟩:=R.dim;rw[putD_at]at q2 bn;simp only at q2 bn;obtain⟨r0,-⟩:=Q.cells;have bX:Hid (RmL W wx B q g cd n k ge ce D ⟨(D k).name,(D k).solve,Z,eg (D k).mem i 0⟩ ys i w.heap.size (w.heap.size+1) G' C'):=⟨R,Q,al,bR⟩;have bo:(Z:Int)<=(C' k:Int):=ω;have ch:(Z:Int)<=12:=ω;clear hcut R T Q al bR p1 p2 p3 p4 p5 bB bC bD au ai ae HC d2 c0 c1 c2 l0 l1;have bd:Hid (∀j,j<Z->-1<=(fx (D k).mem i j).parent/\(fx (D k).mem i j).parent<=12):=fun j hj=>by
   unfold fx;exact bY.o _ (by have:=bA.o;split<;>omega)
  generalize bL:G' k=gm at q2;generalize bJ:C' k=cm at q2 bo;have a3:=aa bL;have bz:=aa bJ;clear bL bJ bn;go_wp2_with fail;clear q0 q2 r0
  go_loopg [49] Z (fun gg cD wr =>∃j:Nat,j<=Z/\gg=Z-j/\cD=.int .i64 j/\Hid (RmL W wr B q g cd n k ge ce D ⟨(D k).name,(D k).solve,Z,eg (D k).mem i j⟩ ys i w.heap.size (w.heap.size+1) G' C'))
  case atStart=>exact⟨0,zU,rfl,rfl,bX⟩
  case round =>
   obtain⟨j,hj,rfl,rfl,HJ⟩:=hrel
   by_cases bt:j<Z
   ·have cM:(j:Int)<(Z:Int):=ω;have R:=HJ.o.dr;have J:=R.row;rw[putD_at,a3.o,bz.o]at J;simp only at J;obtain⟨x0,x1,x2,x3⟩:=cF (eg (D k).mem i j) Z j bt;have e0:=(J.cellAt (j*4) ω).trans x0
    have e1:=(J.cellAt (j*4+1) ω).trans x1
    have e2:=(J.cellAt (j*4+2) ω).trans x2
    have e3:=(J.cellAt (j*4+3) ω).trans x3
    obtain⟨m,hm⟩:=ar (eg (D k).mem i j j);have hmp : -1<=m.parent/\m.parent<=12:=by
     have h1:eg (D k).mem i j j=fx (D k).mem i j:=if_neg (Nat.lt_irrefl _);rw[←hm,h1];exact bd.o j bt
    rw[hm]at e0 e1 e2 e3 x0 x1 x2 x3;obtain⟨-,aA,-,-,b3,u⟩:=aG J;obtain⟨-,bq,-,-,b1,F⟩:=aG R.own.dims;obtain⟨z,hz⟩:=ar (wr.alloc (.cells #[.string m.name,.int .i64 m.parent,.int .i64 m.sign,.string m.formula] 64));have I:Bl wr z:=by rw[←hz];go_grown
    have a1:z.heap[wr.heap.size]?=some (.cells #[.string m.name,.int .i64 m.parent,.int .i64 m.sign,.string m.formula] 64 (0,0)):=by rw[←hz];exact heap_alloc_new ..
    have cC:wr.heap.size<z.heap.size:=by rw[←hz];simp
    have U:=HJ.o.later I (by have:=HJ.o.size;omega)
    have bu:=ak J I;have HS:Hid (∀w',z.grownBy w' (some gm)->w'.cell? ⟨w.heap.size,0,none⟩=some (.pointer (some ⟨q,0,none⟩))/\w'.cell? ⟨w.heap.size+1,0,none⟩=some (.int .i64 (i:Int))/\w'.cell? ⟨q,0,none⟩=some (.pointer (some ⟨g,k*3,none⟩))/\w'.cell? ⟨g,k*3+2,none⟩=some (.slice (some ⟨gm,0,none⟩) Z cm)/\w'.cell? ⟨wr.heap.size,1,none⟩=some (.int .i64 m.parent)):=fun w' P=>by
     have a7:=(I.block _ aA).trans u;have d2:=U.dr.dim.2.2.1;rw[putD_at,a3.o,bz.o]at d2;exact⟨P.cell U.box.cells.1 (fun e=>aV U.box.1 a7 (by decide) (Option.some.inj e)),P.cell U.box.cells.2 (fun e=>aV U.box.2 a7 (by decide) (Option.some.inj e)),P.cell U.dr.cells.1 (fun e=>aV U.dr.box a7 (by decide) (Option.some.inj e)),P.cell d2 (fun e=>aV ((I.block _ bq).trans F) a7 (by decide) (Option.some.inj e)),P.cell ((Lib.cell_of_heap a1 1).trans rfl) (by simp;omega)⟩
    have bE:Hid (∀w',Bl z w'->w'.cell? ⟨gm,j*4+1,none⟩=some (.int .i64 m.parent)/\w'.frozen? ⟨gm,j*4+1,none⟩=false):=fun w' L=>⟨((ak bu L).cellAt (j*4+1) ω).trans x1,(ak bu L).frozenAt _⟩
    obtain⟨z0,f0⟩:=bE.o z (Below.refl _ z);have V:Hid (∀w',Bl z w'->RmL W (w'.setCell ⟨gm,j*4+1,none⟩ (.int .i64 (wo i m.parent))) B q g cd n k ge ce D ⟨(D k).name,(D k).solve,Z,eg (D k).mem i (j+1)⟩ ys i w.heap.size (w.heap.size+1) G' C'):=fun w' L=>by
     have h1:=U.later L (by have:=U.size;omega)
     have a0:=fK (M:=eg (D k).mem i j) (n:=Z) (i:=j) (f:=1) (v:=.int .i64 (wo i m.parent)) (m:=⟨m.name,wo i m.parent,m.sign,m.formula⟩) bt ω rfl fun f hf cP=>by
      rw[hm];have:f=0\/f=2\/f=3:=ω;rcases this with rfl|rfl|rfl<;>rfl
     have bF:=FU (D k).mem i j;rw[hm]at bF;rw[bF]at a0;obtain⟨s1,s2⟩:=h1.dr.setM (x:=j*4+1) (v:=.int .i64 (wo i m.parent)) (M':=eg (D k).mem i (j+1)) (by rw[putD_at];exact a0)
     rw[putD_at,putD_twice,a3.o]at s1;rw[a3.o]at s2;have bj:∃c,w'.heap[gm]?=some (.cells c 64 (0,0)):=⟨_,(L.block _ (zW aA I.size)).trans ((I.block _ aA).trans u)⟩;obtain⟨c3,bH⟩:=bj;exact⟨s1,h1.box.off bH (by decide) (aV h1.box.2 bH (by decide)),h1.bel.trans s2,by have:=h1.size;simpa using this⟩
    clear bE;have av:Hid (∀w',Calls prog 90 #[.int .i64 i,.int .i64 m.parent] w' fun e ab=>e=.returned (.int .i64 (wo i m.parent))/\ab=w'):=fun w'=>KE i m.parent w' ω ω
    have cL:(j:Int)<=12:=ω;generalize wo (i:Int) m.parent=np at av V;generalize m.name=t1 at e0 hz;generalize m.parent=t2 at e1 hz HS av z0;generalize m.sign=t3 at e2 hz;generalize m.formula=t4 at e3 hz;clear I a1 x0 x1 x2 x3 hmp hm U bu J R u F;go_wp2_with fail;clear e0 e1 e2 e3;generalize wr.heap.size=bx at HS cC
    go_region_held3 (fun w'=>z.grownBy w' (some gm)/\w'.cell? ⟨w.heap.size,0,none⟩=some (.pointer (some ⟨q,0,none⟩))/\w'.cell? ⟨w.heap.size+1,0,none⟩=some (.int .i64 (i:Int))/\w'.cell? ⟨q,0,none⟩=some (.pointer (some ⟨g,k*3,none⟩))/\w'.cell? ⟨g,k*3+2,none⟩=some (.slice (some ⟨gm,0,none⟩) Z cm)/\w'.cell? ⟨bx,1,none⟩=some (.int .i64 t2))
     ((refine(fun hG=>⟨hG,HS.o _ hG⟩) ?_;(repeat (first|exact bP _ _|assumption|refine cX ?_|refine eI ?_ _ _));done))
     (first|(go_at_call 90;refine(av.o _).mono ?_;rintro e w4⟨rfl,rfl⟩))
    have HF:=aa (V.o z.drew γ)
    clear z0 f0;go_wp2_with fail
    go_roundg (Z-(j+1))
    case measure=>omega
    case rel=>exact⟨j+1,ω,rfl,by go_num,HF⟩
   have cr:j=Z:=ω;subst cr;have s:RmL W wr B q g cd n k ge ce D (eR (D k) i) ys i w.heap.size (w.heap.size+1) G' C':=by
    refine⟨?_,HJ.o.box,HJ.o.bel,HJ.o.size⟩;have h1:=HJ.o.dr.cgM (M':=(eR (D k) i).mem) fun x hx=>(if_pos hx:eg (D k).mem i j x=_)
    rw[show eR (D k) i=⟨(D k).name,(D k).solve,j,(eR (D k) i).mem⟩ by unfold eR;rw[bA.o]]
    exact h1
   have aI:B<=wr.heap.size:=by have:=s.size;omega
   obtain⟨⟨cI,am,-⟩,-⟩:=s.dr.ents.row;have aj:w.heap.size≠ge:=aV s.box.1 am (by decide)
   have ay:w.heap.size+1≠ge:=aV s.box.2 am (by decide)
   have ba:q≠ge:=aV s.dr.box am (by decide)
   have aY:q≠w.heap.size:=aV s.dr.box s.box.1 (by decide)
   have aZ:q≠w.heap.size+1:=aV s.dr.box s.box.2 (by decide)
   obtain⟨E,X⟩:=ar (ys.filter (fun x => !KJ k i x))
   have ac:∀y∈E,y∈ys:=fun y hy=>by rw[←X]at hy;exact(List.mem_filter.1 hy).1
   have aL:∀ {w':World},E.Pairwise fun a b=>a.A≠b.A:=fun{_}=>by rw[←X];exact s.dr.ents.apart.filter _
   have ap:E.length<=3000:=by rw[←X];exact zV (List.length_filter_le _ _) s.dr.few
   have be:Hid (∀w',Bl wr w'->Calls prog 91 #[.slice (some ⟨ge,0,none⟩) ys.length ce,.func (.func 92) #[] #[.pointer (some ⟨w.heap.size,0,none⟩),.pointer (some ⟨w.heap.size+1,0,none⟩)]] w' fun e ab=>e=.returned (.slice (some ⟨ge,0,none⟩) E.length ce)/\OwE ab B ge ce E/\w'.grownBy ab (some ge)):=fun w' L=>by
    have hw:=s.later L aI;obtain⟨⟨b4,aN,-⟩,-⟩:=hw.dr.ents.row;have bM:∀(ab:World),w'.grownBy ab (some ge)->∀x∈ys,rT ab B x.A x.c x.e.pl:=fun ab P x hx=>by
     obtain⟨b,e1,o1⟩:=hw.dr.ents.each x hx;exact⟨b,e1,o1.kept P (Or.inr (eC o1 aN (by decide)))⟩
    refine(Eu 92 w.heap.size (w.heap.size+1) NQ ge ce ys (KJ k i) w' hw.dr.few hw.dr.ents.row fun x ab hx P=>Mo x _ _ q k i ab (P.cell hw.box.cells.1 (fun e=>aj (Option.some.inj e))) (P.cell hw.box.cells.2 (fun e=>ay (Option.some.inj e))) (P.cell hw.dr.cells.2.1 (fun e=>ba (Option.some.inj e))) (by rw[hw.dr.len x hx];exact hw.dr.kn) (by rw[hw.dr.len x hx];exact hw.dr.n4) (bM ab P x hx).ty.pl).mono ?_
    rintro e ab⟨r1,r2,r3⟩;rw[X]at r1 r2;exact⟨r1,⟨r2,hw.dr.ents.low,fun y hy=>bM ab r3 y (ac y hy),aL (w':=w')⟩,r3⟩
   have ao:Hid (∀w5,wr.grownBy w5 (some ge)->OwE w5 B ge ce E->RmL W (w5.setCell ⟨q,2,none⟩ (.slice (some ⟨ge,0,none⟩) E.length ce)) B q g cd n k ge ce D (eR (D k) i) E i w.heap.size (w.heap.size+1) G' C'):=fun w5 P he=>by
    obtain⟨r1,r2⟩:=s.dr.newE aI P he ap fun y hy=>s.dr.len y (ac y hy)
    have cS:=s.size;have b9:=s.box.keep (w':=w5) (P.block _ (by have:=a6.o;omega) fun e=>aj (Option.some.inj e)) (P.block _ (by have:=a6.o;omega) fun e=>ay (Option.some.inj e))
    have cx:=(P.block q s.dr.lt fun e=>ba (Option.some.inj e)).trans s.dr.box
    have h1:=P.size;have h2:(w5.setCell ⟨q,2,none⟩ (.slice (some ⟨ge,0,none⟩) E.length ce)).heap.size=w5.heap.size:=by simp
    exact⟨r1,b9.off cx (by decide) aZ.symm,s.bel.trans r2,ω⟩
   have bc:Hid (∀w',Bl wr w'->w'.cell? ⟨w.heap.size,0,none⟩=some (.pointer (some ⟨q,0,none⟩))/\w'.cell? ⟨q,2,none⟩=some (.slice (some ⟨ge,0,none⟩) ys.length ce)/\w'.frozen? ⟨q,2,none⟩=false):=fun w' L=>⟨(s.later L aI).box.cells.1,(s.later L aI).dr.cells.2.2.1,(s.later L aI).dr.cells.2.2.2 _⟩
   obtain⟨v1,v2,v3⟩:=bc.o wr (Below.refl _ wr);have bg:Hid (DZ E w.heap.size/\lE E=jx (lE ys) k i):=⟨fun y hy=>bV.o y (ac y hy),by rw[←X,LE]⟩
   have bi:w.heap.size<wr.heap.size/\w.heap.size+1<wr.heap.size/\q<wr.heap.size:=⟨by have:=s.size;have:=a6.o;omega,by have:=s.size;have:=a6.o;omega,s.dr.lt⟩
   obtain⟨ca,cb,cc⟩:=bi;have a2:=aa (And.intro aj (And.intro ba aY));generalize ys.length=yl at be bc v2;clear s am aj ay ba aY aZ X ac aL
   go_upto_region 9 with fail
   refine wp_region_noPanic ?_;refine wp_region_held_drew (S:=fun w'=>w'.cell? ⟨w.heap.size,0,none⟩=some (.pointer (some ⟨q,0,none⟩))) κ (v1) (fun d=>?_)
   refine wpAnyH_take (i:=0) (v:=?v15) rfl κ κ κ (fun _ _ _ h=>h) (Or.inl ⟨by rfl, ?y15⟩) d ?r15
   case y15=>(intro w l;go_simp;try rfl)
   refine wpAnyH_take (i:=1) (v:=?v16) rfl κ κ κ (fun _ _ _ h=>h) (Or.inl ⟨by rfl, ?y16⟩) d ?r16
   case y16=>(intro w l;go_simp;try rfl)
   refine wpAnyH_take (i:=2) (v:=?v17) rfl κ κ κ (fun _ _ _ h=>h) (Or.inl ⟨by rfl, ?y17⟩) d ?r17
   case y17=>(intro w l;go_simp;try rfl)
   refine wpAnyH_take (i:=3) (v:=?v18) rfl κ κ κ (fun _ _ _ h=>h) (Or.inl ⟨by rfl, ?y18⟩) d ?r18
   case y18=>(intro w l;go_simp;try rfl)
   refine wpAnyH_take (i:=5) (v:=?v19) rfl κ κ κ (fun _ _ _ h=>h) (Or.inl ⟨by rfl, ?y19⟩) d ?r19
   case y19=>(intro w l;go_simp;try rfl)
   refine wpAnyH_ready (rs:=[4]) κ σ ?_
   refine AllReadyH.cons rfl (fun K O => ?_) AllReadyH.nil
   (go_simp)
   refine O.out _ _ (v1) (fun d=>?_)
   clear O K
   refine wpAnyH_ready (rs:=[6]) κ σ ?_
   refine AllReadyH.cons rfl (fun K O => ?_) AllReadyH.nil
   go_simp
   (go_at_call 91;refine(be.o _ γ).mono ?_;rintro e w5⟨rfl,aJ,r⟩;have y1:=(r.cell_far ⟨w.heap.size,0,none⟩ (by simp;omega) (fun e=>a2.o.1 (Option.some.inj e))).trans v1;have y2:=(r.cell_far ⟨q,2,none⟩ (by simp;omega) (fun e=>a2.o.2.1 (Option.some.inj e))).trans v2;have y3:=(r.frozen_far ⟨q,2,none⟩ (by simp;omega) (fun e=>a2.o.2.1 (Option.some.inj e))).trans v3;have Y:=aa (ao.o w5 (aS (aC γ) r) aJ))
   go_wp2_with fail;refine O.out _ _ (y1) (fun d=>?_)
   clear O K
   refine wpAnyH_take (i:=7) (v:=?v20) rfl κ κ κ (fun _ _ _ h=>h) (Or.inl ⟨by rfl, ?y20⟩) d ?r20
   case y20=>(intro w l;go_simp;try rfl)
   refine wpAnyH_take (i:=8) (v:=?v21) rfl κ κ κ (fun _ _ _ h=>h) (Or.inl ⟨by rfl, ?y21⟩) d ?r21
   case y21=>(intro w l;go_simp;try rfl)
   refine wpAnyH_ready (rs:=[9]) κ σ ?_
   refine AllReadyH.cons rfl (fun K O => ?_) AllReadyH.nil
   (go_simp)
   refine O.out _ _ ((World.cell?_setCell_far _ _ _ _ (fun e=>a2.o.2.2 e)).trans y1) (fun d=>?_)
   clear O K
   refine wpAnyH_done κ ?_ _
   refine NoPanic.normal ?_;obtain⟨wy,bv⟩:=ar (w5.setCell ⟨q,2,none⟩ (.slice (some ⟨ge,0,none⟩) E.length ce));rw[bv]at Y;have bZ:Hid (RmL W wy B q g cd n k ge ce D (eR (D k) i) E i w.heap.size (w.heap.size+1) G' C'/\lE E=l6 (sm k i) (jx (lE ys) k i) 0/\DZ E w.heap.size):=⟨Y.o,by rw[bg.o.2];rfl,bg.o.1⟩
   obtain⟨m0,-⟩:=Y.o.box.cells;have m1:=Y.o.dr.cells.2.2.1;obtain⟨m2,aT⟩:=ar E.length;have a4:Hid ((jx (lE ys) k i).length=m2):=by
    show _=_
    rw[←bg.o.2,aR];exact aT
   have b0:=aa aT;rw[aT]at m1 ap bv|-;have ct:(m2:Int)<=3000:=ω;have cf:Hid (m2<=ce):=by
    have:=Y.o.dr.ents.row.2.1;rw[aT]at this;exact this
   have cg:(m2:Int)<=(ce:Int):=by have:=cf.o;omega
   clear y1 y2 y3 r aJ ao bc be v1 v2 v3 aT Y;go_wp2_with fail;clear bv m0 m1
   go_loopg [83] m2 (fun gg cE wr =>∃(j:Nat) (zs:List EnL),j<=m2/\gg=m2-j/\cE=.int .i64 j/\Hid (zs.length=m2/\RmL W wr B q g cd n k ge ce D (eR (D k) i) zs i w.heap.size (w.heap.size+1) G' C'/\lE zs=l6 (sm k i) (jx (lE ys) k i) j/\DZ zs w.heap.size))
   case atStart=>exact⟨0,E,zU,rfl,rfl,aa ⟨b0.o,bZ.o⟩⟩
   case round =>
    obtain⟨t,zs,ht,rfl,rfl,HT⟩:=hrel
    by_cases bS:t<m2
    ·have cT:(t:Int)<(m2:Int):=ω;obtain⟨bT,H,aP,ax⟩:=HT.o;have aF:t<zs.length:=ω;obtain⟨e0,e1⟩:=H.dr.ents.row.ens.at (k:=t) aF;rw[Nat.zero_add]at e0 e1;obtain⟨gp,a8,an⟩:=H.dr.ents.each _ (cJ aF);have aQ:=H.dr.len _ (cJ aF);have cs:=H.dr.kn;have cu:=H.dr.n4;obtain⟨bO,bQ⟩:=IK aP (by rw[a4.o];exact bS)
     have cz:0<=(zs.getD t noL).e.pl.getD k 0/\(zs.getD t noL).e.pl.getD k 0<=12:=by
      rw[bQ];have h1:(jx (lE ys) k i).getD t noEn∈lE ys:=by
       rw[zZ,zX (by rw[a4.o];exact bS)]
       exact(List.mem_filter.1 (List.getElem_mem _)).1
      obtain⟨y,hy,cB⟩:=List.mem_map.1 h1;rw[←cB];exact bW.o y hy
     have aW:wr.cell? ⟨gp,k,none⟩=some (.int .i64 ((zs.getD t noL).e.pl.getD k 0)):=by
      rw[an.cellAt k ω]
      exact IP ω
     have aX:=an.frozenAt k;obtain⟨co,ah,br,-,cK,az⟩:=aG an;have bs:gp<w.heap.size:=ax _ (cJ aF) gp a8;have aO:(n:Int)<=((zs.getD t noL).c:Int):=ω;rw[a8,aQ]at e0;obtain⟨z,hz⟩:=ar (wr.alloc (.cells #[.slice (some ⟨gp,0,none⟩) n (zs.getD t noL).c,.int .i64 (zs.getD t noL).e.n] 45));have I:Bl wr z:=by rw[←hz];go_grown
     have a1:z.heap[wr.heap.size]?=some (.cells #[.slice (some ⟨gp,0,none⟩) n (zs.getD t noL).c,.int .i64 (zs.getD t noL).e.n] 45 (0,0)):=by rw[←hz];exact heap_alloc_new ..
     have aK:=H.later I (by have:=H.size;omega)
     have z1:z.cell? ⟨wr.heap.size,0,none⟩=some (.slice (some ⟨gp,0,none⟩) n (zs.getD t noL).c):=(Lib.cell_of_heap a1 0).trans rfl;obtain⟨z2,z3⟩:=aK.box.cells;have z4:=aK.dr.cells.2.1;have z5:=aM I ah aW;have z6:=(I.frozen (p:=⟨gp,k,none⟩) ah).trans aX;have a5:Hid (gp≠wr.heap.size/\gp≠w.heap.size/\gp≠w.heap.size+1/\gp≠q):=⟨ω,ω,ω,aV az H.dr.box (by decide)⟩
     have V:Hid (∀w',Bl z w'->RmL W (w'.setCell ⟨gp,k,none⟩ (.int .i64 (wo i ((zs.getD t noL).e.pl.getD k 0)))) B q g cd n k ge ce D (eR (D k) i) (j6 zs t k (wo i ((zs.getD t noL).e.pl.getD k 0))) i w.heap.size (w.heap.size+1) G' C'):=fun w' L=>by
      have h1:=aK.later L (by have:=aK.size;omega)
      obtain⟨s1,s2⟩:=h1.dr.setE (v:=wo i ((zs.getD t noL).e.pl.getD k 0)) aF a8;have bk:w'.heap[gp]?=_:=(L.block _ (zW ah I.size)).trans ((I.block _ ah).trans az);exact⟨s1,h1.box.off bk (by decide) ω,h1.bel.trans s2,by have:=h1.size;simpa using this⟩
     have aH:Hid (∀v,(j6 zs t k v).length=m2/\DZ (j6 zs t k v) w.heap.size):=fun v=>⟨by unfold j6;simp;exact bT,fun y hy a ha=>by
      rcases List.mem_or_eq_of_mem_set hy with hy|rfl
      ·exact ax y hy a ha
      exact ax _ (cJ aF) a ha⟩
     have bh:=aa bO;have av:Hid (∀w',Calls prog 90 #[.int .i64 i,.int .i64 ((zs.getD t noL).e.pl.getD k 0)] w' fun e ab=>e=.returned (.int .i64 (wo i ((zs.getD t noL).e.pl.getD k 0)))/\ab=w'):=fun w'=>KE i _ w' ω ω
     have cN:(k:Int)<(n:Int):=ω;have cw:(n:Int)<=4:=ω;generalize (zs.getD t noL).e.pl.getD k 0=v0 at bh av V z5;generalize (zs.getD t noL).e.n=N at e1 hz;generalize (zs.getD t noL).c=pc at e0 hz aO z1;generalize wo (i:Int) v0=v1 at bh av V;have cO:gp<wr.heap.size:=ah;clear H aK I a1 an aQ az a8 aP ax bO bQ cz aW aX cs cu br
     go_upto_region 13 with fail
     refine wp_region_noPanic ?_;refine wp_region_held_drew (S:=fun w'=>w'.cell? ⟨wr.heap.size,0,none⟩=some (.slice (some ⟨gp,0,none⟩) n pc)/\w'.cell? ⟨w.heap.size,0,none⟩=some (.pointer (some ⟨q,0,none⟩))/\w'.cell? ⟨w.heap.size+1,0,none⟩=some (.int .i64 (i:Int))/\w'.cell? ⟨q,1,none⟩=some (.int .i64 (k:Int))) κ (⟨z1,z2,z3,z4⟩) (fun d=>?_)
     refine wpAnyH_take (i:=0) (v:=?v22) rfl κ κ κ (fun _ _ _ h=>h) (Or.inl ⟨by rfl, ?y22⟩) d ?r22
     case y22=>(intro w l;go_simp;try rfl)
     refine wpAnyH_take (i:=1) (v:=?v23) rfl κ κ κ (fun _ _ _ h=>h) (Or.inl ⟨by rfl, ?y23⟩) d ?r23
     case y23=>(intro w l;go_simp;try rfl)
     refine wpAnyH_take (i:=2) (v:=?v24) rfl κ κ κ (fun _ _ _ h=>h) (Or.inl ⟨by rfl, ?y24⟩) d ?r24
     case y24=>(intro w l;go_simp;try rfl)
     refine wpAnyH_take (i:=3) (v:=?v25) rfl κ κ κ (fun _ _ _ h=>h) (Or.inl ⟨by rfl, ?y25⟩) d ?r25
     case y25=>(intro w l;go_simp;try rfl)
     refine wpAnyH_take (i:=4) (v:=?v26) rfl κ κ κ (fun _ _ _ h=>h) (Or.inl ⟨by rfl, ?y26⟩) d ?r26
     case y26=>(intro w l;go_simp;try rfl)
     refine wpAnyH_take (i:=5) (v:=?v27) rfl κ κ κ (fun _ _ _ h=>h) (Or.inl ⟨by rfl, ?y27⟩) d ?r27
     case y27=>(intro w l;go_simp;try rfl)
     refine wpAnyH_take (i:=6) (v:=?v28) rfl κ κ κ (fun _ _ _ h=>h) (Or.inl ⟨by rfl, ?y28⟩) d ?r28
     case y28=>(intro w l;go_simp;try rfl)
     refine wpAnyH_take (i:=7) (v:=?v29) rfl κ κ κ (fun _ _ _ h=>h) (Or.inl ⟨by rfl, ?y29⟩) d ?r29
     case y29=>(intro w l;go_simp;try rfl)
     refine wpAnyH_take (i:=8) (v:=?v30) rfl κ κ κ (fun _ _ _ h=>h) (Or.inl ⟨by rfl, ?y30⟩) d ?r30
     case y30=>(intro w l;go_simp;try rfl)
     refine wpAnyH_take (i:=9) (v:=?v31) rfl κ κ κ (fun _ _ _ h=>h) (Or.inl ⟨by rfl, ?y31⟩) d ?r31
     case y31=>(intro w l;go_simp;try rfl)
     refine wpAnyH_take (i:=10) (v:=?v32) rfl κ κ κ (fun _ _ _ h=>h) (Or.inl ⟨by rfl, ?y32⟩) d ?r32
     case y32=>(intro w l;go_simp;try rfl)
     refine wpAnyH_take (i:=11) (v:=?v33) rfl κ κ κ (fun _ _ _ h=>h) (Or.inl ⟨by rfl, ?y33⟩) d ?r33
     case y33=>(intro w l;go_simp;try rfl)
     refine wpAnyH_take (i:=12) (v:=?v34) rfl κ κ κ (fun _ _ _ h=>h) (Or.inl ⟨by rfl, ?y34⟩) d ?r34
     case y34=>(intro w l;go_simp;try rfl)
     refine wpAnyH_take (i:=13) (v:=?v35) rfl κ κ κ (fun _ _ _ h=>h) (Or.inl ⟨by rfl, ?y35⟩) d ?r35
     case y35=>(intro w l;go_simp;try rfl)
     refine wpAnyH_ready (rs:=[14]) κ σ ?_
     refine AllReadyH.cons rfl (fun K O => ?_) AllReadyH.nil
     (go_simp)
     refine O.out _ _ (⟨z1,z2,z3,z4⟩) (fun d=>?_)
     clear O K
     refine wpAnyH_ready (rs:=[15]) κ σ ?_
     refine AllReadyH.cons rfl (fun K O => ?_) AllReadyH.nil
     go_simp
     (go_at_call 90;refine(av.o _).mono ?_;rintro e w4⟨rfl,rfl⟩)
     go_wp2_with fail;refine O.out _ _ (⟨z1,z2,z3,z4⟩) (fun d=>?_)
     clear O K
     refine wpAnyH_take (i:=16) (v:=?v36) rfl κ κ κ (fun _ _ _ h=>h) (Or.inl ⟨by rfl, ?y36⟩) d ?r36
     case y36=>(intro w l;go_simp;try rfl)
     refine wpAnyH_ready (rs:=[17]) κ σ ?_
     refine AllReadyH.cons rfl (fun K O => ?_) AllReadyH.nil
     (go_simp)
     refine O.out _ _ (⟨(World.cell?_setCell_far _ _ _ _ a5.o.1).trans z1,(World.cell?_setCell_far _ _ _ _ a5.o.2.1).trans z2,(World.cell?_setCell_far _ _ _ _ a5.o.2.2.1).trans z3,(World.cell?_setCell_far _ _ _ _ a5.o.2.2.2).trans z4⟩) (fun d=>?_)
     clear O K
     refine wpAnyH_done κ ?_ _
     refine NoPanic.normal ?_;have HF:=aa (V.o z.drew γ)
     clear z1 z2 z3 z4 z5 z6;go_wp2_with fail
     go_roundg (m2-(t+1))
     case measure=>omega
     case rel=>exact⟨t+1,_,ω,rfl,by go_num,aa ⟨(aH.o v1).1,HF.o,bh.o,(aH.o v1).2⟩⟩
    have cy:t=m2:=ω;subst cy;obtain⟨bT,H,aP,ax⟩:=HT.o;have hG:=aa (bf.o wr zs ⟨⟨G',C',H.dr⟩,by
     rw[aP];unfold l6 mt;rw[List.take_of_length_le (by rw[a4.o];exact zT),List.drop_of_length_le (by rw[a4.o];exact zT),List.append_nil],ax,H.box,H.bel,H.size⟩)
    clear H aP ax;go_wp2_with fail;go_ret;exact hG.o
end Go.Proofs.YtjfampgnhccodaaGreatDoor
