/-
  The builder of package formula in memory: three rows of its own; what add and join make of it.
-/
import Derived.Test.YtfemjinbfebejaaGreatDoorJBAS
namespace Go.Proofs.YtfemjinbfebejaaGreatDoor
open Go.ChangeShapes Go.WideShapes Go.ChangeAt Go.RowKit
set_option maxRecDepth 20000
def cellsNd1 (x:Nd):List Value:=[.int .i64 x.op,.int .i64 x.n,.string x.name,.int .i64 x.left,.int .i64 x.right]
def cellsN (l:List Nd):List Value:=l.flatMap cellsNd1
theorem cellsN_snoc (l:List Nd) (x:Nd):cellsN (l ++ [x])=cellsN l ++ cellsNd1 x:=by simp [cellsN]
theorem cellsN_at:∀ (l:List Nd) (k:Nat),k<l.length→(cellsN l)[k*5]?=some (.int .i64 (l.getD k noN).op)∧(cellsN l)[k*5+1]?=some (.int .i64 (l.getD k noN).n)∧(cellsN l)[k*5+2]?=some (.string (l.getD k noN).name)∧(cellsN l)[k*5+3]?=some (.int .i64 (l.getD k noN).left)∧(cellsN l)[k*5+4]?=some (.int .i64 (l.getD k noN).right)
 | x :: r,0,_=>⟨rfl,rfl,rfl,rfl,rfl⟩
 | x :: r,k+1,h=>by
  have h':=cellsN_at r k (by simpa using h)
  have e:∀ j,(cellsN (x :: r))[(k+1)*5+j]?=(cellsN r)[k*5+j]?:=fun j=>by
   rw [show cellsN (x :: r)=cellsNd1 x ++ cellsN r from rfl,List.getElem?_append_right (by show 5≤_;omega)]
   congr 1
   show _-5=_
   omega
  exact ⟨(e 0).trans h'.1,(e 1).trans h'.2.1,(e 2).trans h'.2.2.1,(e 3).trans h'.2.2.2.1,(e 4).trans h'.2.2.2.2⟩
section
variable {w w' w2 W:World} {base e size n:Nat} {v:Value} {xs:List Value}
theorem own_keep (h:w.ownsRow base e size v n xs) (hk:∀ g,v.ownBlock=some g→w'.heap[g]?=w.heap[g]?):w'.ownsRow base e size v n xs:=by
 refine ⟨h.1,?_⟩
 rcases h.2 with h0 | ⟨g,cap,cur,rfl,hb,hg,h1⟩
 ·exact Or.inl h0
 ·exact Or.inr ⟨g,cap,cur,rfl,hb,(hk g rfl).trans hg,h1⟩
theorem own_block {g:Nat} (h:w.ownsRow base e size v n xs) (hv:v.ownBlock=some g):base≤g∧g<w.heap.size∧∃ cur,w.heap[g]?=some (.cells cur e (0,0)):=by
 rcases h.2 with ⟨rfl,h0⟩ | ⟨g',cap,cur,rfl,hb,hg,h1⟩
 ·cases hv
 ·cases hv
  exact ⟨hb,(Array.getElem?_eq_some_iff.1 hg).1,cur,hg⟩
theorem own_cut {k:Nat} {A:Option Addr} {cap:Nat} (h:w.ownsRow base e size (.slice A n cap) n xs) (hk:k≤n):w.ownsRow base e size (.slice A k cap) k (xs.take (k*size)):=by
 refine ⟨by rw [List.length_take,h.1];exact Nat.min_eq_left (Nat.mul_le_mul_right _ hk),?_⟩
 rcases h.2 with ⟨h0,h1⟩ | ⟨g,cap',cur,h0,hb,hg,h1,h2,h3,h4⟩
 ·left
  cases h0
  have:k=0:=by omega
  subst this
  exact ⟨rfl,rfl⟩
 ·right
  cases h0
  refine ⟨g,cap,cur,rfl,hb,hg,by omega,h2,h3,?_⟩
  rw [←h4,List.take_take,Nat.min_eq_left (Nat.mul_le_mul_right _ hk)]
theorem own_int {A:Option Addr} {cap:Nat} {L:List Int} {k:Nat} (h:w.ownsRow base 3 1 (.slice A L.length cap) L.length (mapI L)) (hk:k<L.length):∃ g,A=some ⟨g,0,none⟩∧w.cell? ⟨g,k,none⟩=some (.int .i64 (L.getD k 0)):=by
 obtain ⟨A',cap',h1,h2⟩:=ints_of h
 cases h1
 obtain ⟨_,h0 | ⟨b,rfl,_,h3⟩⟩:=h2
 ·subst h0;cases hk
 ·exact ⟨b,rfl,h3 k hk⟩
end
structure BldV (N p:Nat) (AN:Option Addr) (cN:Nat) (AR:Option Addr) (cR:Nat) (AW:Option Addr) (cW:Nat) (b:Bld) (w:World):Prop where
 low:p<N
 blk:w.heap[p]?=some (.cells #[.slice AN b.nodes.length cN,.slice AR b.ready.length cR,.slice AW b.waiting.length cW] 135 (0,0))
 nod:w.ownsRow N 141 5 (.slice AN b.nodes.length cN) b.nodes.length (cellsN b.nodes)
 rdy:w.ownsRow N 3 1 (.slice AR b.ready.length cR) b.ready.length (mapI b.ready)
 wai:w.ownsRow N 3 1 (.slice AW b.waiting.length cW) b.waiting.length (mapI b.waiting)
 two:∀ g,(Value.slice AR b.ready.length cR).ownBlock=some g→(Value.slice AW b.waiting.length cW).ownBlock≠some g
def BldAt (N p:Nat) (b:Bld) (w:World):Prop := ∃ AN cN AR cR AW cW,BldV N p AN cN AR cR AW cW b w
theorem nd_ne_int:(141:Nat)≠3:=by decide
section
variable {N p cN cR cW:Nat} {AN AR AW:Option Addr} {b:Bld} {w w' w2 W:World}
theorem BldV.c0 (h:BldV N p AN cN AR cR AW cW b w):w.cell? ⟨p,0,none⟩=some (.slice AN b.nodes.length cN):=by simp [World.cell?,h.blk]
theorem BldV.c1 (h:BldV N p AN cN AR cR AW cW b w):w.cell? ⟨p,1,none⟩=some (.slice AR b.ready.length cR):=by simp [World.cell?,h.blk]
theorem BldV.c2 (h:BldV N p AN cN AR cR AW cW b w):w.cell? ⟨p,2,none⟩=some (.slice AW b.waiting.length cW):=by simp [World.cell?,h.blk]
theorem BldV.fr (h:BldV N p AN cN AR cR AW cW b w) (j:Nat):w.frozen? ⟨p,j,none⟩=false:=by simp [World.frozen?,h.blk]
theorem BldV.lt (h:BldV N p AN cN AR cR AW cW b w):p<w.heap.size:=(Array.getElem?_eq_some_iff.1 h.blk).1
theorem BldV.stay (h:BldV N p AN cN AR cR AW cW b w) (hb:∀ k,k<w.heap.size→(k=p∨N≤k)→w'.heap[k]?=w.heap[k]?):BldV N p AN cN AR cR AW cW b w':=by
 refine ⟨h.low,(hb p h.lt (Or.inl rfl)).trans h.blk,own_keep h.nod ?_,own_keep h.rdy ?_,own_keep h.wai ?_,h.two⟩
 ·intro g hg;obtain ⟨h1,h2,-⟩:=own_block h.nod hg;exact hb g h2 (Or.inr h1)
 ·intro g hg;obtain ⟨h1,h2,-⟩:=own_block h.rdy hg;exact hb g h2 (Or.inr h1)
 ·intro g hg;obtain ⟨h1,h2,-⟩:=own_block h.wai hg;exact hb g h2 (Or.inr h1)
theorem BldV.later (h:BldV N p AN cN AR cR AW cW b w) (hB:Below w.heap.size w w'):BldV N p AN cN AR cR AW cW b w':=h.stay fun k hk _=>hB.block k hk
theorem set3_heap {w:World} {p T:Nat} {x y z v:Value} (j:Nat) (h:w.heap[p]?=some (.cells #[x,y,z] T (0,0))):(w.setCell ⟨p,j,none⟩ v).heap[p]?=some (.cells (#[x,y,z].setIfInBounds j v) T (0,0)):=by
 rw [setCell_eq_setRow w p j _ _ (0,0) _ h,setRow_heap w p _ _ _ _ h]
theorem BldV.ready {L:List Int} {g c:Nat} (h:BldV N p AN cN AR cR AW cW b w) (hN:N≤w.heap.size) (hb:Below w.heap.size w W) (hg:W.grownBy w2 (Value.slice AR b.ready.length cR).ownBlock)
  (ho:w2.ownsRow N 3 1 (.slice (some ⟨g,0,none⟩) L.length c) L.length (mapI L)) (hat:(Value.slice AR b.ready.length cR).ownBlock=some g∨g=W.heap.size) :
  BldV N p AN cN (some ⟨g,0,none⟩) c AW cW ⟨b.nodes,L,b.waiting⟩ (w2.setCell ⟨p,1,none⟩ (.slice (some ⟨g,0,none⟩) L.length c))∧Kept N (fun k=>k=p) w (w2.setCell ⟨p,1,none⟩ (.slice (some ⟨g,0,none⟩) L.length c)):=by
 have hkeep:∀ k,k<w.heap.size→(Value.slice AR b.ready.length cR).ownBlock≠some k→w2.heap[k]?=w.heap[k]?:=fun k hk hr=>(hg.block k (Nat.lt_of_lt_of_le hk hb.size) (fun e=>hr e.symm)).trans (hb.block k hk)
 have hpn:(Value.slice AR b.ready.length cR).ownBlock≠some p:=fun e=>by have:=(own_block h.rdy e).1;have:=h.low;omega
 have hp2:w2.heap[p]?=_:=(hkeep p h.lt hpn).trans h.blk
 have hlow:=h.low
 have hofs:∀ k,N≤k→(w2.setCell ⟨p,1,none⟩ (.slice (some ⟨g,0,none⟩) L.length c)).heap[k]?=w2.heap[k]?:=fun k hk=>setCell_off _ _ _ _ _ (by omega)
 refine ⟨⟨h.low,?_,own_keep h.nod ?_,own_keep ho ?_,own_keep h.wai ?_,?_⟩,?_⟩
 ·rw [set3_heap 1 hp2];rfl
 ·intro g' hg'
  obtain ⟨h1,h2,cur,h3⟩:=own_block h.nod hg'
  rw [hofs g' h1]
  refine hkeep g' h2 fun e=>?_
  obtain ⟨-,-,cur',h4⟩:=own_block h.rdy e
  rw [h3] at h4
  simp only [Option.some.injEq,Obj.cells.injEq] at h4
  exact nd_ne_int h4.2.1
 ·intro g' hg'
  exact hofs g' (own_block ho hg').1
 ·intro g' hg'
  obtain ⟨h1,h2,-⟩:=own_block h.wai hg'
  rw [hofs g' h1]
  exact hkeep g' h2 fun e=>h.two g' e hg'
 ·intro g' hg' hw
  have e:g=g':=by simpa [Value.ownBlock] using hg'
  subst e
  rcases hat with hat | hat
  ·exact h.two g hat hw
  ·have:=(own_block h.wai hw).2.1
   have:=hb.size
   omega
 ·have hk1:Kept N (fun k=>k=p) w w2:=⟨hg.os.trans hb.os,hg.tape.trans hb.tape,hg.output.trans hb.output,Nat.le_trans hb.size hg.size,fun k hk _=>hkeep k (by omega) fun e=>by have:=(own_block h.rdy e).1;omega⟩
  have hs2:p<w2.heap.size:=(Array.getElem?_eq_some_iff.1 hp2).1
  exact hk1.trans (kept_grown (grownF_set (grownF_refl w2 _)) (Nat.le_trans hN hk1.size) rfl)
theorem BldV.wait {L:List Int} {g c:Nat} (h:BldV N p AN cN AR cR AW cW b w) (hN:N≤w.heap.size) (hb:Below w.heap.size w W) (hg:W.grownBy w2 (Value.slice AW b.waiting.length cW).ownBlock)
  (ho:w2.ownsRow N 3 1 (.slice (some ⟨g,0,none⟩) L.length c) L.length (mapI L)) (hat:(Value.slice AW b.waiting.length cW).ownBlock=some g∨g=W.heap.size) :
  BldV N p AN cN AR cR (some ⟨g,0,none⟩) c ⟨b.nodes,b.ready,L⟩ (w2.setCell ⟨p,2,none⟩ (.slice (some ⟨g,0,none⟩) L.length c))∧Kept N (fun k=>k=p) w (w2.setCell ⟨p,2,none⟩ (.slice (some ⟨g,0,none⟩) L.length c)):=by
 have hkeep:∀ k,k<w.heap.size→(Value.slice AW b.waiting.length cW).ownBlock≠some k→w2.heap[k]?=w.heap[k]?:=fun k hk hr=>(hg.block k (Nat.lt_of_lt_of_le hk hb.size) (fun e=>hr e.symm)).trans (hb.block k hk)
 have hpn:(Value.slice AW b.waiting.length cW).ownBlock≠some p:=fun e=>by have:=(own_block h.wai e).1;have:=h.low;omega
 have hp2:w2.heap[p]?=_:=(hkeep p h.lt hpn).trans h.blk
 have hlow:=h.low
 have hofs:∀ k,N≤k→(w2.setCell ⟨p,2,none⟩ (.slice (some ⟨g,0,none⟩) L.length c)).heap[k]?=w2.heap[k]?:=fun k hk=>setCell_off _ _ _ _ _ (by omega)
 refine ⟨⟨h.low,?_,own_keep h.nod ?_,own_keep h.rdy ?_,own_keep ho ?_,?_⟩,?_⟩
 ·rw [set3_heap 2 hp2];rfl
 ·intro g' hg'
  obtain ⟨h1,h2,cur,h3⟩:=own_block h.nod hg'
  rw [hofs g' h1]
  refine hkeep g' h2 fun e=>?_
  obtain ⟨-,-,cur',h4⟩:=own_block h.wai e
  rw [h3] at h4
  simp only [Option.some.injEq,Obj.cells.injEq] at h4
  exact nd_ne_int h4.2.1
 ·intro g' hg'
  obtain ⟨h1,h2,-⟩:=own_block h.rdy hg'
  rw [hofs g' h1]
  exact hkeep g' h2 fun e=>h.two g' hg' e
 ·intro g' hg'
  exact hofs g' (own_block ho hg').1
 ·intro g' hg' hw
  have e:g=g':=by simpa [Value.ownBlock] using hw
  subst e
  rcases hat with hat | hat
  ·exact h.two g hg' hat
  ·have:=(own_block h.rdy hg').2.1
   have:=hb.size
   omega
 ·have hk1:Kept N (fun k=>k=p) w w2:=⟨hg.os.trans hb.os,hg.tape.trans hb.tape,hg.output.trans hb.output,Nat.le_trans hb.size hg.size,fun k hk _=>hkeep k (by omega) fun e=>by have:=(own_block h.wai e).1;omega⟩
  exact hk1.trans (kept_grown (grownF_set (grownF_refl w2 _)) (Nat.le_trans hN hk1.size) rfl)
theorem BldV.node {L:List Nd} {g c:Nat} (h:BldV N p AN cN AR cR AW cW b w) (hN:N≤w.heap.size) (hb:Below w.heap.size w W) (hg:W.grownBy w2 (Value.slice AN b.nodes.length cN).ownBlock)
  (ho:w2.ownsRow N 141 5 (.slice (some ⟨g,0,none⟩) L.length c) L.length (cellsN L)) :
  BldV N p (some ⟨g,0,none⟩) c AR cR AW cW ⟨L,b.ready,b.waiting⟩ (w2.setCell ⟨p,0,none⟩ (.slice (some ⟨g,0,none⟩) L.length c))∧Kept N (fun k=>k=p) w (w2.setCell ⟨p,0,none⟩ (.slice (some ⟨g,0,none⟩) L.length c)):=by
 have hkeep:∀ k,k<w.heap.size→(Value.slice AN b.nodes.length cN).ownBlock≠some k→w2.heap[k]?=w.heap[k]?:=fun k hk hr=>(hg.block k (Nat.lt_of_lt_of_le hk hb.size) (fun e=>hr e.symm)).trans (hb.block k hk)
 have hpn:(Value.slice AN b.nodes.length cN).ownBlock≠some p:=fun e=>by have:=(own_block h.nod e).1;have:=h.low;omega
 have hp2:w2.heap[p]?=_:=(hkeep p h.lt hpn).trans h.blk
 have hlow:=h.low
 have hofs:∀ k,N≤k→(w2.setCell ⟨p,0,none⟩ (.slice (some ⟨g,0,none⟩) L.length c)).heap[k]?=w2.heap[k]?:=fun k hk=>setCell_off _ _ _ _ _ (by omega)
 have hty:∀ g' cur,w.heap[g']?=some (.cells cur 3 (0,0))→(Value.slice AN b.nodes.length cN).ownBlock≠some g':=by
  intro g' cur h3 e
  obtain ⟨-,-,cur',h4⟩:=own_block h.nod e
  rw [h3] at h4
  simp only [Option.some.injEq,Obj.cells.injEq] at h4
  exact nd_ne_int h4.2.1.symm
 refine ⟨⟨h.low,?_,own_keep ho ?_,own_keep h.rdy ?_,own_keep h.wai ?_,h.two⟩,?_⟩
 ·rw [set3_heap 0 hp2];rfl
 ·intro g' hg'
  exact hofs g' (own_block ho hg').1
 ·intro g' hg'
  obtain ⟨h1,h2,cur,h3⟩:=own_block h.rdy hg'
  rw [hofs g' h1]
  exact hkeep g' h2 (hty g' cur h3)
 ·intro g' hg'
  obtain ⟨h1,h2,cur,h3⟩:=own_block h.wai hg'
  rw [hofs g' h1]
  exact hkeep g' h2 (hty g' cur h3)
 ·have hk1:Kept N (fun k=>k=p) w w2:=⟨hg.os.trans hb.os,hg.tape.trans hb.tape,hg.output.trans hb.output,Nat.le_trans hb.size hg.size,fun k hk _=>hkeep k (by omega) fun e=>by have:=(own_block h.nod e).1;omega⟩
  exact hk1.trans (kept_grown (grownF_set (grownF_refl w2 _)) (Nat.le_trans hN hk1.size) rfl)
theorem BldV.readyCut {k:Nat} (h:BldV N p AN cN AR cR AW cW b w) (hN:N≤w.heap.size) (hk:k≤b.ready.length) :
  BldV N p AN cN AR cR AW cW ⟨b.nodes,b.ready.take k,b.waiting⟩ (w.setCell ⟨p,1,none⟩ (.slice AR k cR))∧Kept N (fun k=>k=p) w (w.setCell ⟨p,1,none⟩ (.slice AR k cR)):=by
 have hl:(b.ready.take k).length=k:=by rw [List.length_take];omega
 have hlow:=h.low
 have hofs:∀ j,N≤j→(w.setCell ⟨p,1,none⟩ (.slice AR k cR)).heap[j]?=w.heap[j]?:=fun j hj=>setCell_off _ _ _ _ _ (by omega)
 refine ⟨⟨h.low,?_,own_keep h.nod ?_,?_,own_keep h.wai ?_,?_⟩,kept_grown (grownF_set (grownF_refl w _)) hN rfl⟩
 ·rw [set3_heap 1 h.blk];simp [hl]
 ·intro g' hg';exact hofs g' (own_block h.nod hg').1
 ·have hc:=own_cut h.rdy hk
  rw [Nat.mul_one] at hc
  have hm:(mapI b.ready).take k=mapI (b.ready.take k):=by simp [mapI,List.map_take]
  rw [hm] at hc
  show World.ownsRow _ _ _ _ (.slice AR (b.ready.take k).length cR) (b.ready.take k).length _
  rw [hl]
  exact own_keep hc fun g' hg'=>hofs g' (own_block hc hg').1
 ·intro g' hg';exact hofs g' (own_block h.wai hg').1
 ·intro g' hg'
  refine h.two g' ?_
  cases AR
  ·cases hg'
  ·exact hg'
theorem BldV.waitCut {k:Nat} (h:BldV N p AN cN AR cR AW cW b w) (hN:N≤w.heap.size) (hk:k≤b.waiting.length) :
  BldV N p AN cN AR cR AW cW ⟨b.nodes,b.ready,b.waiting.take k⟩ (w.setCell ⟨p,2,none⟩ (.slice AW k cW))∧Kept N (fun k=>k=p) w (w.setCell ⟨p,2,none⟩ (.slice AW k cW)):=by
 have hl:(b.waiting.take k).length=k:=by rw [List.length_take];omega
 have hlow:=h.low
 have hofs:∀ j,N≤j→(w.setCell ⟨p,2,none⟩ (.slice AW k cW)).heap[j]?=w.heap[j]?:=fun j hj=>setCell_off _ _ _ _ _ (by omega)
 refine ⟨⟨h.low,?_,own_keep h.nod ?_,own_keep h.rdy ?_,?_,?_⟩,kept_grown (grownF_set (grownF_refl w _)) hN rfl⟩
 ·rw [set3_heap 2 h.blk];simp [hl]
 ·intro g' hg';exact hofs g' (own_block h.nod hg').1
 ·intro g' hg';exact hofs g' (own_block h.rdy hg').1
 ·have hc:=own_cut h.wai hk
  rw [Nat.mul_one] at hc
  have hm:(mapI b.waiting).take k=mapI (b.waiting.take k):=by simp [mapI,List.map_take]
  rw [hm] at hc
  show World.ownsRow _ _ _ _ (.slice AW (b.waiting.take k).length cW) (b.waiting.take k).length _
  rw [hl]
  exact own_keep hc fun g' hg'=>hofs g' (own_block hc hg').1
 ·intro g' hg' hw
  refine h.two g' hg' ?_
  cases AW
  ·cases hw
  ·exact hw
end
end Go.Proofs.YtfemjinbfebejaaGreatDoor
