/-
  A queue of places in memory: how many of each one's needs are missing, those that need it, those that are ready; each list in a block of its own.
-/
import Derived.Test.YtaodedckffjpgagGreatDoorJEBO
import Derived.Test.YtaodedckffjpgagGreatDoorJEBS
namespace Go.Proofs.YtaodedckffjpgagGreatDoor
open Go.ChangeShapes Go.WideShapes Go.ChangeAt Go.RowKit
set_option maxRecDepth 20000
def ValB (w:World) (g n T:Nat) (f:Nat→Value):Prop:=w.heap[g]?=some (.cells ((List.range n).map f).toArray T (0,0))
theorem ValB.lt {w:World} {g n T:Nat} {f:Nat→Value} (h:ValB w g n T f):g<w.heap.size:=(Array.getElem?_eq_some_iff.1 h).1
theorem ValB.cell {w:World} {g n T:Nat} {f:Nat→Value} (h:ValB w g n T f) {j:Nat} (hj:j<n):w.cell? ⟨g,j,none⟩=some (f j):=by
 rw [Lib.cell_of_heap h]
 simp [hj]
theorem ValB.frozen {w:World} {g n T:Nat} {f:Nat→Value} (h:ValB w g n T f) (j:Nat):w.frozen? ⟨g,j,none⟩=false:=Lib.frozen_of_heap h j
theorem ValB.same {w w':World} {g n T:Nat} {f:Nat→Value} (h:ValB w g n T f) (hb:w'.heap[g]?=w.heap[g]?):ValB w' g n T f:=hb.trans h
theorem ValB.set {w:World} {g n T:Nat} {f f':Nat→Value} {v:Value} (h:ValB w g n T f) {m:Nat} (hf:∀ j,j<n→f' j=if j=m then v else f j):ValB (w.setCell ⟨g,m,none⟩ v) g n T f':=by
 unfold ValB at *
 simp only [World.setCell,Array.getElem?_modify,if_true,h,Option.map_some,Option.some.injEq,Obj.cells.injEq,and_true,Option.isSome_none,Bool.false_eq_true,if_false]
 apply Array.ext_getElem?
 intro j
 rw [Array.getElem?_setIfInBounds]
 by_cases hj:j<n
 ·by_cases e:m=j
  ·rw [if_pos e,if_pos (by simp;omega)]
   simp [hj,hf j hj,e]
  ·have e':j≠m:=fun x=>e x.symm
   rw [if_neg e]
   simp only [List.getElem?_toArray,List.getElem?_map,List.getElem?_range hj,Option.map_some,hf j hj,if_neg e']
 ·by_cases e:m=j
  ·rw [if_pos e,if_neg (by simp;omega),Array.getElem?_eq_none (by simp;omega)]
  ·rw [if_neg e,Array.getElem?_eq_none (by simp;omega),Array.getElem?_eq_none (by simp;omega)]
theorem ValB.made (w:World) (n T:Nat) (z:Value):ValB (w.alloc (.cells (madeCells #[z] n) T)) w.heap.size n T fun _=>z:=by
 unfold ValB
 have e:madeCells #[z] n=((List.range n).map fun _=>z).toArray:=by
  apply Array.ext
  ·simp [madeCells]
  ·intro i h1 h2
   simp [madeCells,Nat.mod_one]
 rw [e]
 exact heap_alloc_new w _
theorem ValB.off {w:World} {g n T b:Nat} {f:Nat→Value} {cs:Array Value} {t:Nat} {fr:Nat×Nat} (h:ValB w g n T f) (hb:w.heap[b]?=some (.cells cs t fr)) (ht:t≠T):b≠g:=fun e=>by
 rw [e,h] at hb
 simp only [Option.some.injEq,Obj.cells.injEq] at hb
 exact ht hb.2.1.symm
theorem row_ne_int':(3:Nat)≠38:=by decide
theorem own_grown {w w':World} {base e size n:Nat} {v:Value} {xs:List Value} {r:Option Nat} (h:w.ownsRow base e size v n xs) (hG:w.grownBy w' r) (hr:∀ b,v.ownBlock=some b→r≠some b):w'.ownsRow base e size v n xs:=by
 refine ⟨h.1,?_⟩
 rcases h.2 with h0 | ⟨g,cap,cur,rfl,h2,h3,h4⟩
 ·exact Or.inl h0
 ·exact Or.inr ⟨g,cap,cur,rfl,h2,(hG.block g (Array.getElem?_eq_some_iff.1 h3).1 (fun e=>hr g rfl e.symm)).trans h3,h4⟩
theorem own_blk {w:World} {base e size n b:Nat} {v:Value} {xs:List Value} (h:w.ownsRow base e size v n xs) (hb:v.ownBlock=some b):base≤b∧b<w.heap.size∧∃ cur,w.heap[b]?=some (.cells cur e (0,0)):=by
 rcases h.2 with ⟨rfl,-⟩ | ⟨g,cap,cur,rfl,h2,h3,h4⟩
 ·cases hb
 ·cases hb
  exact ⟨h2,(Array.getElem?_eq_some_iff.1 h3).1,cur,h3⟩
theorem own_setc {w:World} {base e size n g j:Nat} {v x:Value} {xs:List Value} (h:w.ownsRow base e size v n xs) (hg:v.ownBlock≠some g):(w.setCell ⟨g,j,none⟩ x).ownsRow base e size v n xs:=by
 refine ⟨h.1,?_⟩
 rcases h.2 with h0 | ⟨g',cap,cur,rfl,h2,h3,h4⟩
 ·exact Or.inl h0
 ·exact Or.inr ⟨g',cap,cur,rfl,h2,by rw [setCell_off _ _ _ _ _ (fun e=>hg (by rw [←e];rfl))];exact h3,h4⟩
theorem IntT.one {w w':World} {A:Option Addr} {c:Nat} {L:List Int} (h:IntT w A c L) (hb:∀ a,A=some a→w'.heap[a.block]?=w.heap[a.block]?):IntT w' A c L:=by
 obtain ⟨h1,h0,h2 | ⟨b,cs,fr,rfl,h3,h4⟩⟩:=h
 ·exact ⟨h1,h0,Or.inl h2⟩
 ·have e:=hb _ rfl
  exact ⟨h1,h0,Or.inr ⟨b,cs,fr,rfl,e.trans h3,fun j hj=>(World.cell?_of_block (a:=⟨b,j,none⟩) e).trans (h4 j hj)⟩⟩
structure QM (w:World) (B q gM gU N:Nat) (M:Nat→Int) (UV:Nat→Value) (UL:Nat→List Int) (R:Value) (RL:List Int):Prop where
 hq:w.heap[q]?=some (.cells #[.slice (some ⟨gM,0,none⟩) N N,.slice (some ⟨gU,0,none⟩) N N,R] 88 (0,0))
 hM:ValB w gM N 3 fun j=>.int .i64 (M j)
 hU:ValB w gU N 38 UV
 own:∀ j,j<N→w.ownsRow B 3 1 (UV j) (UL j).length (mapI (UL j))
 ready:w.ownsRow B 3 1 R RL.length (mapI RL)
 dM:∀ j,j<N→(UV j).ownBlock≠some gM
 dU:∀ i j,i<N→j<N→i≠j→∀ b,(UV i).ownBlock=some b→(UV j).ownBlock≠some b
 dR:R.ownBlock≠some gM
 dRU:∀ j,j<N→∀ b,R.ownBlock=some b→(UV j).ownBlock≠some b
 lq:B≤q
 lM:B≤gM
 lU:B≤gU
section
variable {w w':World} {B q gM gU N:Nat} {M:Nat→Int} {UV:Nat→Value} {UL:Nat→List Int} {R:Value} {RL:List Int}
theorem QM.ql (h:QM w B q gM gU N M UV UL R RL):q<w.heap.size:=(Array.getElem?_eq_some_iff.1 h.hq).1
theorem QM.later (h:QM w B q gM gU N M UV UL R RL) (hB:Below w.heap.size w w'):QM w' B q gM gU N M UV UL R RL :=
 ⟨(hB.block q h.ql).trans h.hq,h.hM.same (hB.block _ h.hM.lt),h.hU.same (hB.block _ h.hU.lt),fun j hj=>own_later (h.own j hj) hB,own_later h.ready hB,h.dM,h.dU,h.dR,h.dRU,h.lq,h.lM,h.lU⟩
theorem QM.drew (h:QM w B q gM gU N M UV UL R RL):QM w.drew B q gM gU N M UV UL R RL:=h.later (below_drewN (Below.refl _ _) 1)
theorem QM.cells (h:QM w B q gM gU N M UV UL R RL):w.cell? ⟨q,0,none⟩=some (.slice (some ⟨gM,0,none⟩) N N)∧w.cell? ⟨q,1,none⟩=some (.slice (some ⟨gU,0,none⟩) N N)∧w.cell? ⟨q,2,none⟩=some R∧w.frozen? ⟨q,2,none⟩=false :=
 ⟨by simp [World.cell?,h.hq],by simp [World.cell?,h.hq],by simp [World.cell?,h.hq],by simp [World.frozen?,h.hq]⟩
theorem QM.ne (h:QM w B q gM gU N M UV UL R RL):q≠gM∧q≠gU∧gM≠gU:=by
 refine ⟨fun e=>?_,fun e=>?_,fun e=>?_⟩
 ·have h1:=h.hq;rw [e,h.hM] at h1;simp at h1
 ·have h1:=h.hq;rw [e,h.hU] at h1;simp at h1
 ·have h1:=h.hM;unfold ValB at h1;rw [e,h.hU] at h1;simp at h1
theorem QM.off (h:QM w B q gM gU N M UV UL R RL) {b:Nat} {cur:Array Value} (hb:w.heap[b]?=some (.cells cur 3 (0,0))):b≠q∧b≠gU:=by
 refine ⟨fun e=>?_,h.hU.off hb row_ne_int'⟩
 rw [e,h.hq] at hb
 simp at hb
theorem QM.setM (h:QM w B q gM gU N M UV UL R RL) (m:Nat) (x:Int):QM (w.setCell ⟨gM,m,none⟩ (.int .i64 x)) B q gM gU N (fun j=>if j=m then x else M j) UV UL R RL:=by
 obtain ⟨n1,n2,n3⟩:=h.ne
 refine ⟨by rw [setCell_off _ _ _ _ _ n1];exact h.hq,?_,h.hU.same (setCell_off _ _ _ _ _ n3.symm),fun j hj=>own_setc (h.own j hj) (h.dM j hj),own_setc h.ready h.dR,h.dM,h.dU,h.dR,h.dRU,h.lq,h.lM,h.lU⟩
 refine h.hM.set (f':=fun j=>.int .i64 (if j=m then x else M j)) fun j _=>?_
 by_cases e:j=m
 ·simp only [if_pos e]
 ·simp only [if_neg e]
theorem QM.pushU (h:QM w B q gM gU N M UV UL R RL) {w4 w6:World} {k:Nat} {L:List Int} {v:Value} {H:Nat} (hk:k<N) (h4:Below w.heap.size w w4) (hG:w4.grownBy w6 (UV k).ownBlock) (hO:w6.ownsRow B 3 1 v L.length (mapI L)) (hat:v.ownBlock=(UV k).ownBlock∨v.ownBlock=some H) (hH:w.heap.size≤H) :
  QM (w6.setCell ⟨gU,k,none⟩ v) B q gM gU N M (fun j=>if j=k then v else UV j) (fun j=>if j=k then L else UL j) R RL:=by
 obtain ⟨n1,n2,n3⟩:=h.ne
 have hr:=fun b (e:(UV k).ownBlock=some b)=>own_blk (h.own k hk) e
 have hkeep:∀ b,b<w.heap.size→(UV k).ownBlock≠some b→w6.heap[b]?=w.heap[b]?:=fun b hb hne=>(hG.block b (Nat.lt_of_lt_of_le hb h4.size) (fun e=>hne e.symm)).trans (h4.block b hb)
 have q1:(UV k).ownBlock≠some q:=fun e=>by obtain ⟨-,-,cur,hc⟩:=hr q e;exact (h.off hc).1 rfl
 have q2:(UV k).ownBlock≠some gU:=fun e=>by obtain ⟨-,-,cur,hc⟩:=hr gU e;exact (h.off hc).2 rfl
 have vU:v.ownBlock≠some gU:=fun e=>by
  rcases hat with h1 | h1
  ·exact q2 (h1.symm.trans e)
  ·rw [h1] at e;have:=h.hU.lt;simp at e;omega
 have vM:v.ownBlock≠some gM:=fun e=>by
  rcases hat with h1 | h1
  ·exact h.dM k hk (h1.symm.trans e)
  ·rw [h1] at e;have:=h.hM.lt;simp at e;omega
 have oth:∀ (v1:Value) (L1:List Int),w.ownsRow B 3 1 v1 L1.length (mapI L1)→(∀ b,v1.ownBlock=some b→(UV k).ownBlock≠some b)→w6.ownsRow B 3 1 v1 L1.length (mapI L1):=fun v1 L1 h1 h2=>own_grown (own_later h1 h4) hG h2
 have far:∀ (v1:Value) (L1:List Int),w.ownsRow B 3 1 v1 L1.length (mapI L1)→(∀ b,v1.ownBlock=some b→(UV k).ownBlock≠some b)→∀ b,v1.ownBlock=some b→v.ownBlock≠some b:=fun v1 L1 h1 h2 b hb e=>by
  rcases hat with h3 | h3
  ·exact h2 b hb (h3.symm.trans e)
  ·rw [h3] at e
   have:=(own_blk h1 hb).2.1
   simp at e
   omega
 have dist:∀ j,j<N→j≠k→∀ b,(UV j).ownBlock=some b→(UV k).ownBlock≠some b:=fun j hj hne b hb=>h.dU j k hj hk hne b hb
 refine ⟨by rw [setCell_off _ _ _ _ _ n2,hkeep q h.ql q1];exact h.hq,?_,?_,fun j hj=>?_,?_,fun j hj=>?_,fun i j hi hj hne b hb=>?_,h.dR,fun j hj b hb=>?_,h.lq,h.lM,h.lU⟩
 ·exact (h.hM.same (hkeep _ h.hM.lt (h.dM k hk))).same (setCell_off _ _ _ _ _ n3)
 ·exact (h.hU.same (hkeep _ h.hU.lt q2)).set fun j _=>rfl
 ·by_cases e:j=k
  ·simp only [if_pos e]
   exact own_setc hO vU
  ·simp only [if_neg e]
   refine own_setc (oth _ _ (h.own j hj) (dist j hj e)) fun e2=>?_
   obtain ⟨-,-,cur,hc⟩:=own_blk (h.own j hj) e2
   exact (h.off hc).2 rfl
 ·refine own_setc (oth _ _ h.ready fun b hb=>h.dRU k hk b hb) fun e2=>?_
  obtain ⟨-,-,cur,hc⟩:=own_blk h.ready e2
  exact (h.off hc).2 rfl
 ·by_cases e:j=k
  ·simp only [if_pos e];exact vM
  ·simp only [if_neg e];exact h.dM j hj
 ·by_cases ei:i=k
  ·simp only [if_pos ei] at hb
   have ej:j≠k:=fun e=>hne (ei.trans e.symm)
   simp only [if_neg ej]
   intro e2
   exact far _ _ (h.own j hj) (dist j hj ej) b e2 hb
  ·simp only [if_neg ei] at hb
   by_cases ej:j=k
   ·simp only [if_pos ej]
    exact far _ _ (h.own i hi) (dist i hi ei) b hb
   ·simp only [if_neg ej]
    exact h.dU i j hi hj hne b hb
 ·by_cases e:j=k
  ·simp only [if_pos e]
   exact far _ _ h.ready (fun b hb=>h.dRU k hk b hb) b hb
  ·simp only [if_neg e]
   exact h.dRU j hj b hb
theorem QM.pushR (h:QM w B q gM gU N M UV UL R RL) {w4 w6:World} {L:List Int} {v:Value} {H:Nat} (h4:Below w.heap.size w w4) (hG:w4.grownBy w6 R.ownBlock) (hO:w6.ownsRow B 3 1 v L.length (mapI L)) (hat:v.ownBlock=R.ownBlock∨v.ownBlock=some H) (hH:w.heap.size≤H) :
  QM (w6.setCell ⟨q,2,none⟩ v) B q gM gU N M UV UL v L:=by
 obtain ⟨n1,n2,n3⟩:=h.ne
 have hr:=fun b (e:R.ownBlock=some b)=>own_blk h.ready e
 have hkeep:∀ b,b<w.heap.size→R.ownBlock≠some b→w6.heap[b]?=w.heap[b]?:=fun b hb hne=>(hG.block b (Nat.lt_of_lt_of_le hb h4.size) (fun e=>hne e.symm)).trans (h4.block b hb)
 have q1:R.ownBlock≠some q:=fun e=>by obtain ⟨-,-,cur,hc⟩:=hr q e;exact (h.off hc).1 rfl
 have q2:R.ownBlock≠some gU:=fun e=>by obtain ⟨-,-,cur,hc⟩:=hr gU e;exact (h.off hc).2 rfl
 have vq:v.ownBlock≠some q:=fun e=>by
  rcases hat with h1 | h1
  ·exact q1 (h1.symm.trans e)
  ·rw [h1] at e;have:=h.ql;simp at e;omega
 refine ⟨?_,(h.hM.same (hkeep _ h.hM.lt h.dR)).same (setCell_off _ _ _ _ _ n1.symm),(h.hU.same (hkeep _ h.hU.lt q2)).same (setCell_off _ _ _ _ _ n2.symm),fun j hj=>?_,own_setc hO vq,h.dM,h.dU,fun e=>?_,fun j hj b hb e=>?_,h.lq,h.lM,h.lU⟩
 ·have:=set_ty (k:=2) (v:=v) ((hkeep q h.ql q1).trans h.hq)
  simpa using this
 ·refine own_setc (own_grown (own_later (h.own j hj) h4) hG fun b hb e=>h.dRU j hj b e hb) fun e2=>?_
  obtain ⟨-,-,cur,hc⟩:=own_blk (h.own j hj) e2
  exact (h.off hc).1 rfl
 ·rcases hat with h1 | h1
  ·exact h.dR (h1.symm.trans e)
  ·rw [h1] at e;have:=h.hM.lt;simp at e;omega
 ·rcases hat with h1 | h1
  ·exact h.dRU j hj b (h1.symm.trans hb) e
  ·rw [h1] at hb
   have:=(own_blk (h.own j hj) e).2.1
   simp at hb
   omega
end
end Go.Proofs.YtaodedckffjpgagGreatDoor
