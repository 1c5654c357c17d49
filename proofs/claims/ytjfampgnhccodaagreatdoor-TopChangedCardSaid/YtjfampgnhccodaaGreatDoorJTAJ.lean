/- The builder of package -/
import Derived.Test.YtjfampgnhccodaaGreatDoorJTAH
namespace Go.Proofs.YtjfampgnhccodaaGreatDoor
open Tryz ChangeShapes WideShapes ChangeAt RowKit
set_option maxRecDepth 99999
set_option maxHeartbeats 0
def iB(x:Nd):List Value:=[.int .i64 x.op,.int .i64 x.n,.string x.name,.int .i64 x.left,.int .i64 x.right]
def bV(l:List Nd):List Value:=l.flatMap iB
theorem vX(l:List Nd)(x:Nd):bV (l++[x])=bV l++iB x:=by simp[bV]
theorem mL:∀(l:List Nd) (k:Nat),k<l.length->(bV l)[k*5]?=some (.int .i64 (l.getD k bT).op)/\(bV l)[k*5+1]?=some (.int .i64 (l.getD k bT).n)/\(bV l)[k*5+2]?=some (.string (l.getD k bT).name)/\(bV l)[k*5+3]?=some (.int .i64 (l.getD k bT).left)/\(bV l)[k*5+4]?=some (.int .i64 (l.getD k bT).right)
 |x :: r,0,_=>⟨rfl,rfl,rfl,rfl,rfl⟩
 |x :: r,k+1,h=>by
  have a:=mL r k (by simpa using h)
  have e:∀j,(bV (x :: r))[(k+1)*5+j]?=(bV r)[k*5+j]?:=fun j=>by
   rw[show bV (x :: r)=iB x++bV r from rfl,List.getElem?_append_right (by show 5<=_;omega)]
   congr 1
   show _-5=_
   omega
  exact⟨(e 0).trans a.1,(e 1).trans a.2.1,(e 2).trans a.2.2.1,(e 3).trans a.2.2.2.1,(e 4).trans a.2.2.2.2⟩
section
variable {w w' w2 W:World} {base e size n:Nat} {v:Value} {xs:List Value}
theorem bZ(h:w.ownsRow base e size v n xs)(a:∀g,v.ownBlock=some g->w'.heap[g]?=w.heap[g]?):w'.ownsRow base e size v n xs:=by
 refine⟨h.1,?_⟩
 rcases h.2 with h0|⟨g,cap,aa,rfl,hb,hg,h1⟩
 ·exact Or.inl h0
 exact Or.inr ⟨g,cap,aa,rfl,hb,(a g rfl).trans hg,h1⟩
theorem aD{g:Nat}(h:w.ownsRow base e size v n xs)(c:v.ownBlock=some g):base<=g/\g<w.heap.size/\∃a,w.heap[g]?=some (.cells a e (0,0)):=by
 rcases h.2 with⟨rfl,f⟩|⟨g',cap,a,rfl,d,b,i⟩
 ·cases c
 cases c;exact⟨d,(zY b).1,a,b⟩
theorem DB{k:Nat}{A:Option Addr}{cap:Nat}(h:w.ownsRow base e size (.slice A n cap) n xs)(d:k<=n):w.ownsRow base e size (.slice A k cap) k (xs.take (k*size)):=by
 refine⟨by rw[List.length_take,h.1];exact Nat.min_eq_left (Nat.mul_le_mul_right _ d),?_⟩
 rcases h.2 with⟨b,f⟩|⟨g,c,a,b,m,o,f,i,j,l⟩
 ·left
  cases b;have:k=0:=ω
  subst this;exact⟨rfl,rfl⟩
 right
 cases b;refine⟨g,cap,a,rfl,m,o,ω,i,j,?_⟩
 rw[←l,List.take_take,Nat.min_eq_left (Nat.mul_le_mul_right _ d)]
theorem pA{A:Option Addr}{cap:Nat}{L:List Int}{k:Nat}(h:w.ownsRow base 3 1 (.slice A L.length cap) L.length (aA L))(c:k<L.length):∃g,A=some ⟨g,0,none⟩/\w.cell? ⟨g,k,none⟩=some (.int .i64 (L.getD k 0)):=by
 obtain⟨A',a,e,f⟩:=LA h;cases e;obtain⟨_,d|⟨b,rfl,_,i⟩⟩:=f
 ·subst d;cases c
 exact⟨b,rfl,i k c⟩
end
structure BldV(N p:Nat)(AN:Option Addr)(cN:Nat)(AR:Option Addr)(cR:Nat)(AW:Option Addr)(cW:Nat)(b:Bld)(w:World):Prop where
 low:p<N
 blk:w.heap[p]?=some (.cells #[.slice AN b.nodes.length cN,.slice AR b.ready.length cR,.slice AW b.waiting.length cW] 265 (0,0))
 nod:w.ownsRow N 223 5 (.slice AN b.nodes.length cN) b.nodes.length (bV b.nodes)
 rdy:w.ownsRow N 3 1 (.slice AR b.ready.length cR) b.ready.length (aA b.ready)
 wai:w.ownsRow N 3 1 (.slice AW b.waiting.length cW) b.waiting.length (aA b.waiting)
 two:∀g,(Value.slice AR b.ready.length cR).ownBlock=some g->(Value.slice AW b.waiting.length cW).ownBlock≠some g
def dh(N p:Nat)(b:Bld)(w:World):Prop := ∃AN cN AR cR AW cW,BldV N p AN cN AR cR AW cW b w
theorem nf:(223:Nat)≠3:=by decide
section
variable {N p cN cR cW:Nat} {AN AR AW:Option Addr} {b:Bld} {w w' w2 W:World}
theorem BldV.c0(h:BldV N p AN cN AR cR AW cW b w):w.cell? ⟨p,0,none⟩=some (.slice AN b.nodes.length cN):=by simp[World.cell?,h.blk]
theorem BldV.c1(h:BldV N p AN cN AR cR AW cW b w):w.cell? ⟨p,1,none⟩=some (.slice AR b.ready.length cR):=by simp[World.cell?,h.blk]
theorem BldV.c2(h:BldV N p AN cN AR cR AW cW b w):w.cell? ⟨p,2,none⟩=some (.slice AW b.waiting.length cW):=by simp[World.cell?,h.blk]
theorem BldV.fr(h:BldV N p AN cN AR cR AW cW b w)(j:Nat):w.frozen? ⟨p,j,none⟩=false:=by simp[World.frozen?,h.blk]
theorem BldV.lt(h:BldV N p AN cN AR cR AW cW b w):p<w.heap.size:=(zY h.blk).1
theorem BldV.stay(h:BldV N p AN cN AR cR AW cW b w)(e:∀k,k<w.heap.size->(k=p\/N<=k)->w'.heap[k]?=w.heap[k]?):BldV N p AN cN AR cR AW cW b w':=by
 refine⟨h.low,(e p h.lt (Or.inl rfl)).trans h.blk,bZ h.nod ?_,bZ h.rdy ?_,bZ h.wai ?_,h.two⟩
 ·intro g d;obtain⟨a,c,-⟩:=aD h.nod d;exact e g c (Or.inr a)
 ·intro g d;obtain⟨a,c,-⟩:=aD h.rdy d;exact e g c (Or.inr a)
 intro g d;obtain⟨a,c,-⟩:=aD h.wai d;exact e g c (Or.inr a)
theorem BldV.later(h:BldV N p AN cN AR cR AW cW b w)(a:Bl w w'):BldV N p AN cN AR cR AW cW b w':=h.stay fun k c _=>a.block k c
theorem iV{w:World}{p T:Nat}{x y z v:Value}(j:Nat)(h:w.heap[p]?=some (.cells #[x,y,z] T (0,0))):(w.setCell ⟨p,j,none⟩ v).heap[p]?=some (.cells (#[x,y,z].setIfInBounds j v) T (0,0)):=by
 rw[setCell_eq_setRow w p j _ _ (0,0) _ h,setRow_heap w p _ _ _ _ h]
theorem BldV.ready{L:List Int}{g c:Nat}(h:BldV N p AN cN AR cR AW cW b w)(B:N<=w.heap.size)(j:Bl w W)(l:W.grownBy w2 (Value.slice AR b.ready.length cR).ownBlock)
  (x:w2.ownsRow N 3 1 (.slice (some ⟨g,0,none⟩) L.length c) L.length (aA L)) (i:(Value.slice AR b.ready.length cR).ownBlock=some g\/g=W.heap.size):
  BldV N p AN cN (some ⟨g,0,none⟩) c AW cW ⟨b.nodes,L,b.waiting⟩ (w2.setCell ⟨p,1,none⟩ (.slice (some ⟨g,0,none⟩) L.length c))/\Kept N (fun k=>k=p) w (w2.setCell ⟨p,1,none⟩ (.slice (some ⟨g,0,none⟩) L.length c)):=by
 have a:∀k,k<w.heap.size->(Value.slice AR b.ready.length cR).ownBlock≠some k->w2.heap[k]?=w.heap[k]?:=fun k o C=>(l.block k (zW o j.size) (fun e=>C e.symm)).trans (j.block k o)
 have t:(Value.slice AR b.ready.length cR).ownBlock≠some p:=fun e=>by have:=(aD h.rdy e).1;have:=h.low;omega
 have n:w2.heap[p]?=_:=(a p h.lt t).trans h.blk;have v:=h.low;have f:∀k,N<=k->(w2.setCell ⟨p,1,none⟩ (.slice (some ⟨g,0,none⟩) L.length c)).heap[k]?=w2.heap[k]?:=fun k o=>ae _ _ _ _ _ ω
 refine⟨⟨h.low,?_,bZ h.nod ?_,bZ x ?_,bZ h.wai ?_,?_⟩,?_⟩
 ·rw[iV 1 n];rfl
 ·intro g' d
  obtain⟨q,r,z,A⟩:=aD h.nod d;rw[f g' q];refine a g' r fun e=>?_
  obtain⟨-,-,u,s⟩:=aD h.rdy e;rw[A]at s;simp only[Option.some.injEq,Obj.cells.injEq]at s;exact nf s.2.1
 ·intro g' d
  exact f g' (aD x d).1
 ·intro g' d
  obtain⟨q,r,-⟩:=aD h.wai d;rw[f g' q];exact a g' r fun e=>h.two g' e d
 ·intro g' d y
  have e:g=g':=by simpa [Value.ownBlock]using d
  subst e
  rcases i with i|i
  ·exact h.two g i y
  have:=(aD h.wai y).2.1;have:=j.size
  omega
 have m:Kept N (fun k=>k=p) w w2:=⟨l.os.trans j.os,l.tape.trans j.tape,l.output.trans j.output,zV j.size l.size,fun k o _=>a k ω fun e=>by have:=(aD h.rdy e).1;omega⟩
 have D:p<w2.heap.size:=(zY n).1;exact m.trans (ez (dI (dt w2 _)) (zV B m.size) rfl)
theorem BldV.wait{L:List Int}{g c:Nat}(h:BldV N p AN cN AR cR AW cW b w)(A:N<=w.heap.size)(j:Bl w W)(l:W.grownBy w2 (Value.slice AW b.waiting.length cW).ownBlock)
  (x:w2.ownsRow N 3 1 (.slice (some ⟨g,0,none⟩) L.length c) L.length (aA L)) (i:(Value.slice AW b.waiting.length cW).ownBlock=some g\/g=W.heap.size):
  BldV N p AN cN AR cR (some ⟨g,0,none⟩) c ⟨b.nodes,b.ready,L⟩ (w2.setCell ⟨p,2,none⟩ (.slice (some ⟨g,0,none⟩) L.length c))/\Kept N (fun k=>k=p) w (w2.setCell ⟨p,2,none⟩ (.slice (some ⟨g,0,none⟩) L.length c)):=by
 have d:∀k,k<w.heap.size->(Value.slice AW b.waiting.length cW).ownBlock≠some k->w2.heap[k]?=w.heap[k]?:=fun k n B=>(l.block k (zW n j.size) (fun e=>B e.symm)).trans (j.block k n)
 have t:(Value.slice AW b.waiting.length cW).ownBlock≠some p:=fun e=>by have:=(aD h.wai e).1;have:=h.low;omega
 have s:w2.heap[p]?=_:=(d p h.lt t).trans h.blk;have v:=h.low;have f:∀k,N<=k->(w2.setCell ⟨p,2,none⟩ (.slice (some ⟨g,0,none⟩) L.length c)).heap[k]?=w2.heap[k]?:=fun k n=>ae _ _ _ _ _ ω
 refine⟨⟨h.low,?_,bZ h.nod ?_,bZ h.rdy ?_,bZ x ?_,?_⟩,?_⟩
 ·rw[iV 2 s];rfl
 ·intro g' a
  obtain⟨o,q,y,z⟩:=aD h.nod a;rw[f g' o];refine d g' q fun e=>?_
  obtain⟨-,-,u,r⟩:=aD h.wai e;rw[z]at r;simp only[Option.some.injEq,Obj.cells.injEq]at r;exact nf r.2.1
 ·intro g' a
  obtain⟨o,q,-⟩:=aD h.rdy a;rw[f g' o];exact d g' q fun e=>h.two g' a e
 ·intro g' a
  exact f g' (aD x a).1
 ·intro g' a C
  have e:g=g':=by simpa [Value.ownBlock]using C
  subst e
  rcases i with i|i
  ·exact h.two g a i
  have:=(aD h.rdy a).2.1;have:=j.size
  omega
 have m:Kept N (fun k=>k=p) w w2:=⟨l.os.trans j.os,l.tape.trans j.tape,l.output.trans j.output,zV j.size l.size,fun k n _=>d k ω fun e=>by have:=(aD h.wai e).1;omega⟩
 exact m.trans (ez (dI (dt w2 _)) (zV A m.size) rfl)
theorem BldV.node{L:List Nd}{g c:Nat}(h:BldV N p AN cN AR cR AW cW b w)(A:N<=w.heap.size)(j:Bl w W)(m:W.grownBy w2 (Value.slice AN b.nodes.length cN).ownBlock)
  (z:w2.ownsRow N 223 5 (.slice (some ⟨g,0,none⟩) L.length c) L.length (bV L)):
  BldV N p (some ⟨g,0,none⟩) c AR cR AW cW ⟨L,b.ready,b.waiting⟩ (w2.setCell ⟨p,0,none⟩ (.slice (some ⟨g,0,none⟩) L.length c))/\Kept N (fun k=>k=p) w (w2.setCell ⟨p,0,none⟩ (.slice (some ⟨g,0,none⟩) L.length c)):=by
 have a:∀k,k<w.heap.size->(Value.slice AN b.nodes.length cN).ownBlock≠some k->w2.heap[k]?=w.heap[k]?:=fun k q B=>(m.block k (zW q j.size) (fun e=>B e.symm)).trans (j.block k q)
 have v:(Value.slice AN b.nodes.length cN).ownBlock≠some p:=fun e=>by have:=(aD h.nod e).1;have:=h.low;omega
 have u:w2.heap[p]?=_:=(a p h.lt v).trans h.blk;have y:=h.low;have i:∀k,N<=k->(w2.setCell ⟨p,0,none⟩ (.slice (some ⟨g,0,none⟩) L.length c)).heap[k]?=w2.heap[k]?:=fun k q=>ae _ _ _ _ _ ω
 have o:∀g' d,w.heap[g']?=some (.cells d 3 (0,0))->(Value.slice AN b.nodes.length cN).ownBlock≠some g':=by
  intro g' d l e;obtain⟨-,-,x,t⟩:=aD h.nod e;rw[l]at t;simp only[Option.some.injEq,Obj.cells.injEq]at t;exact nf t.2.1.symm
 refine⟨⟨h.low,?_,bZ z ?_,bZ h.rdy ?_,bZ h.wai ?_,h.two⟩,?_⟩
 ·rw[iV 0 u];rfl
 ·intro g' f
  exact i g' (aD z f).1
 ·intro g' f
  obtain⟨r,s,d,l⟩:=aD h.rdy f;rw[i g' r];exact a g' s (o g' d l)
 ·intro g' f
  obtain⟨r,s,d,l⟩:=aD h.wai f;rw[i g' r];exact a g' s (o g' d l)
 have n:Kept N (fun k=>k=p) w w2:=⟨m.os.trans j.os,m.tape.trans j.tape,m.output.trans j.output,zV j.size m.size,fun k q _=>a k ω fun e=>by have:=(aD h.nod e).1;omega⟩
 exact n.trans (ez (dI (dt w2 _)) (zV A n.size) rfl)
theorem BldV.readyCut{k:Nat}(h:BldV N p AN cN AR cR AW cW b w)(g:N<=w.heap.size)(i:k<=b.ready.length):
  BldV N p AN cN AR cR AW cW ⟨b.nodes,b.ready.take k,b.waiting⟩ (w.setCell ⟨p,1,none⟩ (.slice AR k cR))/\Kept N (fun k=>k=p) w (w.setCell ⟨p,1,none⟩ (.slice AR k cR)):=by
 have e:(b.ready.take k).length=k:=by rw[List.length_take];omega
 have f:=h.low;have c:∀j,N<=j->(w.setCell ⟨p,1,none⟩ (.slice AR k cR)).heap[j]?=w.heap[j]?:=fun j m=>ae _ _ _ _ _ ω
 refine⟨⟨h.low,?_,bZ h.nod ?_,?_,bZ h.wai ?_,?_⟩,ez (dI (dt w _)) g rfl⟩
 ·rw[iV 1 h.blk];simp[e]
 ·intro g' a;exact c g' (aD h.nod a).1
 ·have d:=DB h.rdy i
  rw[Nat.mul_one]at d;have l:(aA b.ready).take k=aA (b.ready.take k):=by simp[aA,List.map_take]
  rw[l]at d
  show World.ownsRow _ _ _ _ (.slice AR (b.ready.take k).length cR) (b.ready.take k).length _
  rw[e];exact bZ d fun g' a=>c g' (aD d a).1
 ·intro g' a;exact c g' (aD h.wai a).1
 intro g' a;refine h.two g' ?_;cases AR
 ·cases a
 exact a
theorem BldV.waitCut{k:Nat}(h:BldV N p AN cN AR cR AW cW b w)(i:N<=w.heap.size)(l:k<=b.waiting.length):
  BldV N p AN cN AR cR AW cW ⟨b.nodes,b.ready,b.waiting.take k⟩ (w.setCell ⟨p,2,none⟩ (.slice AW k cW))/\Kept N (fun k=>k=p) w (w.setCell ⟨p,2,none⟩ (.slice AW k cW)):=by
 have e:(b.waiting.take k).length=k:=by rw[List.length_take];omega
 have f:=h.low;have c:∀j,N<=j->(w.setCell ⟨p,2,none⟩ (.slice AW k cW)).heap[j]?=w.heap[j]?:=fun j n=>ae _ _ _ _ _ ω
 refine⟨⟨h.low,?_,bZ h.nod ?_,bZ h.rdy ?_,?_,?_⟩,ez (dI (dt w _)) i rfl⟩
 ·rw[iV 2 h.blk];simp[e]
 ·intro g' a;exact c g' (aD h.nod a).1
 ·intro g' a;exact c g' (aD h.rdy a).1
 ·have d:=DB h.wai l
  rw[Nat.mul_one]at d;have m:(aA b.waiting).take k=aA (b.waiting.take k):=by simp[aA,List.map_take]
  rw[m]at d
  show World.ownsRow _ _ _ _ (.slice AW (b.waiting.take k).length cW) (b.waiting.take k).length _
  rw[e];exact bZ d fun g' a=>c g' (aD d a).1
 intro g' a g;refine h.two g' a ?_;cases AW
 ·cases g
 exact g
end
theorem infoIntF:(prog.info? 3).map (fun i=>(i.zero,i.size,i.bytes))=some (some (.int .i64 0),1,8):=by kernel_rfl
theorem infoNdF:(prog.info? 223).map (fun i=>(i.zero,i.size,i.bytes))=some (some (.agg #[.int .i64 0,.int .i64 0,.string ⟨#[]⟩,.int .i64 0,.int .i64 0]),5,48):=by kernel_rfl
def IW(x:Nd):Value:=.agg #[.int .i64 x.op,.int .i64 x.n,.string x.name,.int .i64 x.left,.int .i64 x.right]
theorem BldV.reach{N p cN cR cW:Nat}{AN AR AW:Option Addr}{b:Bld}{w W w2:World}{row:Option Nat}(h:BldV N p AN cN AR cR AW cW b w)(c:Bl w W)(f:W.grownBy w2 row)(i:∀g,row=some g->N<=g):w2.heap[p]?=w.heap[p]?:=by
 have a:=h.lt;have d:=h.low;exact(f.block p (zW a c.size) (fun e=>by have:=i p e.symm;omega)).trans (c.block p a)
theorem tT(w:World)(o o':Obj):((w.alloc o).alloc o').heap[w.heap.size+1]?=some o':=by
 have h:=heap_alloc_new (w.alloc o) o'
 simpa using h
theorem N2(w:World)(o o':Obj):((w.alloc o).alloc o').drew.heap[w.heap.size+1]?=some o':=tT w o o'
theorem Kr(w:World)(o o':Obj):((w.alloc o).alloc o').heap[w.heap.size]?=some o:=by
 rw[heap_alloc_old _ _ σ]
 exact heap_alloc_new w o
theorem N1(w:World)(o o':Obj):((w.alloc o).alloc o').drew.heap[w.heap.size]?=some o:=Kr w o o'
theorem OK(w:World)(o:Obj):(w.alloc o).drew.heap[w.heap.size]?=some o:=heap_alloc_new w o
theorem CS(N p:Nat)(b:Bld)(x:Nd)(w:World)(hN:N<=w.heap.size)(J:b.nodes.length<=200)(h2:b.ready.length<=200)(hB:dh N p b w):
  Calls prog 243 #[.pointer (some ⟨p,0,none⟩),IW x] w fun e w'=>e=.returned (.tuple #[])/\dh N p (ly x b) w'/\Kept N (fun k=>k=p) w w':=by
 obtain⟨AN,cN,AR,cR,AW,cW,l⟩:=hB;obtain⟨i0,K,S,T,U⟩:=info_parts infoIntF;obtain⟨i1,M,O,P,Q⟩:=info_parts infoNdF;unfold IW;have c0:=l.c0;have c1:=l.c1;have f0:=l.fr 0;have f1:=l.fr 1;have ad:=l.lt;have HV:=aa l;obtain⟨m,v⟩:=ar b.nodes.length;obtain⟨k,u⟩:=ar b.ready.length;have V:Hid (∀w',Bl w w'->w'.ownsRow N 3 1 (.slice AR k cR) k (aA b.ready)):=fun w' q=>by have:=(l.later q).rdy;rw[u]at this;exact this
 have r:Hid (∀(W w2:World),Bl w W->W.grownBy w2 (Value.slice AR k cR).ownBlock->w2.cell? ⟨p,1,none⟩=some (.slice AR k cR)/\w2.frozen? ⟨p,1,none⟩=false):=by
  intro W w2 q s;have h:=l.reach q s (fun g e=>(aD l.rdy (by rw[u];exact e)).1)
  have E:=h.trans l.blk;exact⟨by simp[World.cell?,E,u],by simp[World.frozen?,E]⟩
 have B:Hid (∀(W w6:World) (gg j:Nat),Bl w W->W.heap.size=w.heap.size+2->W.heap[w.heap.size]?=some (.cells #[.int .i64 x.op,.int .i64 x.n,.string x.name,.int .i64 x.left,.int .i64 x.right] 223 (0,0))->W.grownBy w6 (Value.slice AR k cR).ownBlock->w6.ownsRow N 3 1 (.slice (some ⟨gg,0,none⟩) (k+1) j) (k+1) (aA b.ready++[.int .i64 m])->((Value.slice AR k cR).ownBlock=some gg\/gg=w.heap.size+2) ->
   BldV N p AN cN (some ⟨gg,0,none⟩) j AW cW ⟨b.nodes,b.ready++[(m:Int)],b.waiting⟩ (w6.setCell ⟨p,1,none⟩ (.slice (some ⟨gg,0,none⟩) (k+1) j))/\Kept N (fun k=>k=p) w (w6.setCell ⟨p,1,none⟩ (.slice (some ⟨gg,0,none⟩) (k+1) j))/\(w6.setCell ⟨p,1,none⟩ (.slice (some ⟨gg,0,none⟩) (k+1) j)).heap[w.heap.size]?=some (.cells #[.int .i64 x.op,.int .i64 x.n,.string x.name,.int .i64 x.left,.int .i64 x.right] 223 (0,0))):=by
  intro W w6 gg j q hz d s R o;have D:(b.ready++[(m:Int)]).length=k+1:=by simp[u]
  have h:=l.ready (L:=b.ready++[(m:Int)]) (g:=gg) (c:=j) (w2:=w6) hN q (by rw[u];exact s) (by rw[D,mapI_snoc];exact R) (by rw[u,hz];exact o)
  rw[D]at h;refine⟨h.1,h.2,?_⟩;rw[ae _ _ _ _ _ ω,s.block w.heap.size ω (fun e=>by have:=(aD l.rdy (by rw[u];exact e.symm)).2.1;omega)]
  exact d
 rw[v]at c0;rw[u]at c1;have ac:(k:Int)<=200:=ω;clear l
 go_enter func243,ntmps243
 go_wp2_with fail
 go_cut []from 4 (fun wx =>∃A c,BldV N p AN cN A c AW cW ⟨b.nodes,b.ready++[(m:Int)],b.waiting⟩ wx/\Kept N (fun k=>k=p) w wx/\wx.heap[w.heap.size]?=some (.cells #[.int .i64 x.op,.int .i64 x.n,.string x.name,.int .i64 x.left,.int .i64 x.right] 223 (0,0)))
 case first =>
  go_region_law (refine step_append_lies _ (by rfl) _ _ _ (by rfl) N 3 i0 _ 1 8 underlying42 K S T U rfl ω (.slice AR k cR) k (aA b.ready) (by rfl) (V.o _ γ) ⟨w.heap.size+1,0,none⟩ 1 1 [.int .i64 m] (by rfl) (by rfl) (World.news_of_block (cs:=#[.int .i64 m]) (t:=3) (fr:=(0,0)) (N2 w _ _)) (by simp[Value.oneCell']) ω (by unfold maxLen;omega) ω (by simp;omega) (w.heap.size+2) σ ?_;intro gg j w6 f a o F;obtain⟨y1,y2⟩:=r.o _ _ γ a)
  all_goals (have I:=B.o _ _ _ _ γ σ (N1 w _ _) a f o)
  all_goals clear a f o
  all_goals (go_wp2_with fail;go_meet;exact⟨_,_,I⟩)
 case rest =>
  obtain⟨A1,PT,i,z,d⟩:=hcut;obtain⟨wx,rfl⟩:∃wx:World,wx=wc:=⟨_,rfl⟩;have d0:=i.c0;have g0:=i.fr 0;have X:=i.lt;have Y:=z.size;have Z:=aa i;have G:=aa z;have ab:w.heap.size<wx.heap.size:=(zY d).1;have b0:wx.cell? ⟨w.heap.size,0,none⟩=some (.int .i64 x.op):=by simp[World.cell?,d]
  have b1:wx.cell? ⟨w.heap.size,1,none⟩=some (.int .i64 x.n):=by simp[World.cell?,d]
  have b2:wx.cell? ⟨w.heap.size,2,none⟩=some (.string x.name):=by simp[World.cell?,d]
  have b3:wx.cell? ⟨w.heap.size,3,none⟩=some (.int .i64 x.left):=by simp[World.cell?,d]
  have b4:wx.cell? ⟨w.heap.size,4,none⟩=some (.int .i64 x.right):=by simp[World.cell?,d]
  rw[v]at d0;have H:Hid (∀w',Bl wx w'->w'.ownsRow N 223 5 (.slice AN m cN) m (bV b.nodes)):=fun w' q=>by have:=(i.later q).nod;rw[v]at this;exact this
  have y:Hid (∀(W w2:World),Bl wx W->W.grownBy w2 (Value.slice AN m cN).ownBlock->w2.cell? ⟨p,0,none⟩=some (.slice AN m cN)/\w2.frozen? ⟨p,0,none⟩=false):=by
   intro W w2 q s;have h:=i.reach q s (fun g e=>(aD i.nod (by rw[v];exact e)).1)
   have E:=h.trans i.blk;exact⟨by simp[World.cell?,E,v],by simp[World.frozen?,E]⟩
  have C:Hid (∀(W w6:World) (gg j:Nat),Bl wx W->W.grownBy w6 (Value.slice AN m cN).ownBlock->w6.ownsRow N 223 5 (.slice (some ⟨gg,0,none⟩) (m+1) j) (m+1) (bV b.nodes++[.int .i64 x.op,.int .i64 x.n,.string x.name,.int .i64 x.left,.int .i64 x.right]) ->
    dh N p (ly x b) (w6.setCell ⟨p,0,none⟩ (.slice (some ⟨gg,0,none⟩) (m+1) j))/\Kept N (fun k=>k=p) w (w6.setCell ⟨p,0,none⟩ (.slice (some ⟨gg,0,none⟩) (m+1) j))):=by
   intro W w6 gg j q s R;have D:(b.nodes++[x]).length=m+1:=by simp[v]
   have h:=i.node (L:=b.nodes++[x]) (g:=gg) (c:=j) (w2:=w6) ω q (by rw[v];exact s) (by rw[D,vX];exact R)
   rw[D]at h;refine⟨?_,G.o.trans h.2⟩;have J:=h.1;rw[←v]at J|-;exact⟨_,_,_,_,_,_,J⟩
  clear i z HV V r B;go_wp2_with fail
  go_region_law (refine step_append_lies _ (by rfl) _ _ _ (by rfl) N 223 i1 _ 5 48 underlying146 M O P Q rfl ω (.slice AN m cN) m (bV b.nodes) (by rfl) (H.o _ γ) ⟨wx.heap.size,0,none⟩ 1 1 [.int .i64 x.op,.int .i64 x.n,.string x.name,.int .i64 x.left,.int .i64 x.right] (by rfl) (by rfl) (World.news_of_block (cs:=#[.int .i64 x.op,.int .i64 x.n,.string x.name,.int .i64 x.left,.int .i64 x.right]) (t:=223) (fr:=(0,0)) (OK wx _)) (by simp[Value.oneCell']) ω (by unfold maxLen;omega) ω (by simp;omega) (wx.heap.size+1) σ ?_;intro gg j w6 f a o F;obtain⟨y1,y2⟩:=y.o _ _ γ a)
  all_goals (have I:=C.o _ _ _ _ γ a f)
  all_goals clear a f o
  all_goals (go_wp2_with fail;go_end0;exact⟨rfl,I⟩)
theorem IC(N p:Nat)(b:Bld)(op:Int)(w:World)(f:N<=w.heap.size)(B:b.nodes.length<=200)(M:b.ready.length<=200)(O:2<=b.ready.length)(D:dh N p b w):
  Calls prog 277 #[.pointer (some ⟨p,0,none⟩),.int .i64 op] w fun e w'=>e=.returned (.tuple #[])/\dh N p (em op b) w'/\Kept N (fun k=>k=p) w w':=by
 obtain⟨AN,cN,AR,cR,AW,cW,a⟩:=D;obtain⟨k,G⟩:∃k,b.ready.length=k+2:=⟨b.ready.length-2,ω⟩
 obtain⟨g,m,J⟩:=pA (k:=k) a.rdy ω
 obtain⟨g',c,K⟩:=pA (k:=k+1) a.rdy ω
 rw[m]at c;simp only[Option.some.injEq,Addr.mk.injEq]at c;obtain⟨rfl,-⟩:=c;subst m;have c1:=a.c1;have L:=a.fr 1;have I:=a.lt;rw[G]at c1;have n:k+2<=cR:=by
  rcases a.rdy.2 with⟨d,_⟩|⟨g,cap,A,d,_,_,j,_⟩
  ·cases d
  cases d;omega
 have o:em op b=ly ⟨op,0,⟨#[]⟩,b.ready.getD k 0,b.ready.getD (k+1) 0⟩ ⟨b.nodes,b.ready.take k,b.waiting⟩:=by
  unfold em;rw[show b.ready.length-2=k by omega]
 rw[o];have i:Hid (∀w',Bl w w'->dh N p ⟨b.nodes,b.ready.take k,b.waiting⟩ (w'.setCell ⟨p,1,none⟩ (.slice (some ⟨g,0,none⟩) k cR))/\Kept N (fun k=>k=p) w (w'.setCell ⟨p,1,none⟩ (.slice (some ⟨g,0,none⟩) k cR))/\N<=(w'.setCell ⟨p,1,none⟩ (.slice (some ⟨g,0,none⟩) k cR)).heap.size):=by
  intro w' h;obtain⟨j,C⟩:=(a.later h).readyCut (k:=k) (zV f h.size) ω
  have l:=(aF h f).trans C;exact⟨⟨_,_,_,_,_,_,j⟩,l,zV f l.size⟩
 have H:(k:Int)<=200:=ω;have E:(k:Int)+2<=(cR:Int):=ω;have F:g<w.heap.size:=(aD (g:=g) a.rdy rfl).2.1;generalize b.ready.getD k 0=x at *;generalize b.ready.getD (k+1) 0=y at *;clear a o
 go_enter func277,ntmps277
 go_wp2_with fail
 go_quiet (fail)
 go_wp2_with fail;obtain⟨q,r,s⟩:=i.o (w.drewN nq) (aj zS nq);refine(CS N p ⟨b.nodes,b.ready.take k,b.waiting⟩ ⟨op,0,⟨#[]⟩,x,y⟩ _ s B (by simp;omega) q).mono ?_
 rintro e w2⟨rfl,t,u⟩;have z:=aa (r.trans u);have v:=aa t;clear q r s t u i;go_wp2_with fail
 first|go_end0|refine bodyPost_ret (results_none rfl _ _ _) rfl ?_
 exact⟨rfl,v.o,z.o⟩
theorem xb{op:Int}{b:Bld}(h:2<=b.ready.length):(em op b).nodes.length=b.nodes.length+1/\(em op b).ready.length+1=b.ready.length/\(em op b).waiting=b.waiting:=by
 refine⟨by simp[em,ly],?_,rfl⟩
 simp[em,ly]
 omega
theorem qU{l:List Int}{k:Nat}(h:l.length=k+1):opsN l=opsN (l.take k)+(if l.getD k 0≠0 then 1 else 0)/\d7 l=d7 (l.take k)+(if l.getD k 0=0 then 1 else 0):=by
 have a:l=l.take k++[l.getD k 0]:=by
  have b:l.getD k 0=l[k]' ω :=by simp[List.getD,zX (show k<l.length by omega)]
  rw[b]
  conv=>lhs;rw[←List.take_append_drop k l]
  congr 1
  rw[List.drop_eq_getElem_cons ω,List.drop_eq_nil_of_le ω]
 constructor
 ·conv=>lhs;rw[a]
  unfold opsN;rw[List.countP_append]
  by_cases e:l.getD k 0=0 <;>simp
 conv=>lhs;rw[a]
 unfold d7;rw[List.countP_append]
 by_cases e:l.getD k 0=0 <;>simp
theorem hZ{aa:Int}{b:Bld}{k:Nat}(h:b.waiting.getD k 0=0\/bindN (b.waiting.getD k 0)<aa):bh aa (k+1) b=b:=by rw[bh,if_pos h]
theorem nJ{aa:Int}{b:Bld}{k:Nat}(h :¬(b.waiting.getD k 0=0\/bindN (b.waiting.getD k 0)<aa)):bh aa (k+1) b=bh aa k (em (b.waiting.getD k 0) ⟨b.nodes,b.ready,b.waiting.take k⟩):=by rw[bh,if_neg h]
theorem js(N p:Nat)(b:Bld)(ab:Int)(w:World)(hN:N<=w.heap.size)(X:b.nodes.length+opsN b.waiting<=200)(Y:b.ready.length<=200)(Z:opsN b.waiting+1<=b.ready.length)(h4:b.waiting.length<=200)(hB:dh N p b w):
  Calls prog 241 #[.pointer (some ⟨p,0,none⟩),.int .i64 ab] w fun e w'=>e=.returned (.tuple #[])/\dh N p (settleB ab b) w'/\Kept N (fun k=>k=p) w w':=by
 obtain⟨AN,cN,AR,cR,AW,cW,B⟩:=hB;have c2:=B.c2;have aj:=B.lt;have HV:=aa B;obtain⟨n0,q⟩:∃n,b.waiting.length=n:=⟨_,rfl⟩;rw[q]at c2;have ak:(n0:Int)<=200:=ω;unfold settleB;have G:=aa q;rw[q];clear B q
 go_enter func241,ntmps241
 go_wp2_with fail
 go_loopg [4] n0 (fun g s4 wr =>∃(b':Bld),b'.waiting.length=g/\s4=.int .i64 ((g:Int)-1)/\bh ab g b'=bh ab n0 b/\g<=n0/\b'.nodes.length+opsN b'.waiting<=200/\b'.ready.length<=200/\opsN b'.waiting+1<=b'.ready.length/\dh N p b' wr/\Kept N (fun k=>k=p) w wr)
 case atStart=>exact⟨b,G.o,rfl,rfl,zT,X,Y,Z,⟨_,_,_,_,_,_,HV.o⟩,Kept.refl _ _ _⟩
 case round =>
  obtain⟨b',C,rfl,r,ah,k1,k2,k3,⟨ac,S,ad,T,ae,m,a⟩,A⟩:=hrel;have l:=aa a;have z:=aa A;have u:=aa r;have V:=a.c2;have df:=a.fr 2;have f:N<=wr.heap.size:=zV hN A.size;cases gk with
  |zero =>
   have s:=aa r;clear a A r;go_wp2_with fail
   first|go_end0|refine bodyPost_ret (results_none rfl _ _ _) rfl ?_
   exact⟨rfl,by rw[←s.o];exact⟨_,_,_,_,_,_,l.o⟩,z.o⟩
  |succ k =>
   obtain⟨x,-⟩:=qU C;obtain⟨g,hA,W⟩:=pA (k:=k) a.wai ω
   subst hA;have ag:g<wr.heap.size:=(aD (g:=g) a.wai rfl).2.1;have J:k+1<=m:=by
    rcases a.wai.2 with⟨I,_⟩|⟨g,cap,U,I,_,_,h5,_⟩
    ·cases I
    cases I;omega
   rw[C]at V;have ai:(k:Int)<=200:=ω;have af:(k:Int)+1<=(m:Int):=ω;have y:((k+1:Nat):Int)-1=(k:Int):=ω;obtain⟨op,d⟩:=ar (b'.waiting.getD k 0);rw[d]at W x;have E:=aa C;have o:=sJ op;rw[y];clear a A r C
   by_cases h:op=0
   ·have s:Hid (b'=bh ab n0 b):=by show _=_;rw[←u.o];exact(hZ (Or.inl (by rw[d];exact h))).symm
    subst h;clear o;go_wp2_with fail
    first|go_end0|refine bodyPost_ret (results_none rfl _ _ _) rfl ?_
    exact⟨rfl,by rw[←s.o];exact⟨_,_,_,_,_,_,l.o⟩,z.o⟩
   have L:(op == 0)=false:=by simpa using h
   by_cases v:bindN op<ab
   ·have s:Hid (b'=bh ab n0 b):=by show _=_;rw[←u.o];exact(hZ (Or.inr (by rw[d];exact v))).symm
    generalize bindN op=bn at *;clear d;go_wp2_with fail;refine(o _).mono ?_;rintro e w1⟨rfl,c⟩;have j:=aa (l.o.later c);have t:=aa (z.o.trans (aF c f));clear c;go_wp2_with fail
    first|go_end0|refine bodyPost_ret (results_none rfl _ _ _) rfl ?_
    exact⟨rfl,by rw[←s.o];exact⟨_,_,_,_,_,_,j.o⟩,t.o⟩
   have s:Hid (bh ab k (em op ⟨b'.nodes,b'.ready,b'.waiting.take k⟩)=bh ab n0 b):=by
    show _=_
    rw[←u.o,nJ (by rw[d];omega),d]
   rw[if_pos h]at x;have K:ab<=bindN op:=ω;generalize bindN op=bn at *;clear d v;go_wp2_with fail;refine(o _).mono ?_;rintro e w1⟨rfl,c⟩;have j:=aa (l.o.later c);have t:=aa (z.o.trans (aF c f));have x2:=j.o.c2;have xf:=j.o.fr 2;rw[E.o]at x2;have i:N<=w1.heap.size:=zV f c.size;obtain⟨P,Q⟩:=j.o.waitCut (k:=k) i (by have:=E.o;omega)
   have H:Hid (dh N p ⟨b'.nodes,b'.ready,b'.waiting.take k⟩ (w1.setCell ⟨p,2,none⟩ (.slice (some ⟨g,0,none⟩) k m))/\Kept N (fun k=>k=p) w1 (w1.setCell ⟨p,2,none⟩ (.slice (some ⟨g,0,none⟩) k m))):=⟨⟨_,_,_,_,_,_,P⟩,Q⟩
   clear c o P Q;go_wp2_with fail;refine(IC N p ⟨b'.nodes,b'.ready,b'.waiting.take k⟩ op _ (zV i H.o.2.size) (by show b'.nodes.length<=200;omega) k2 (by show 2<=b'.ready.length;omega) H.o.1).mono ?_
   rintro e w2⟨rfl,M,O⟩;have F:=aa ((t.o.trans H.o.2).trans O);have D:=aa M;obtain⟨l1,l2,l3⟩:=xb (op:=op) (b:=⟨b'.nodes,b'.ready,b'.waiting.take k⟩) (by show 2<=b'.ready.length;omega)
   have R:Hid ((em op ⟨b'.nodes,b'.ready,b'.waiting.take k⟩).nodes.length=b'.nodes.length+1/\(em op ⟨b'.nodes,b'.ready,b'.waiting.take k⟩).ready.length+1=b'.ready.length/\(em op ⟨b'.nodes,b'.ready,b'.waiting.take k⟩).waiting=b'.waiting.take k):=⟨l1,l2,l3⟩;clear M O l1 l2 l3;go_wp2_with fail
   go_roundg k
   case measure=>omega
   case rel =>
    obtain⟨l1,l2,l3⟩:=R.o;refine⟨_,?_,by go_num,s.o,ω,?_,?_,?_,D.o,F.o⟩
    ·rw[l3,List.length_take,E.o];omega
    ·rw[l3,l1];omega
    ·omega
    rw[l3];omega
end Go.Proofs.YtjfampgnhccodaaGreatDoor
