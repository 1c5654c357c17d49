/-
  A queue of places in memory: how many of each one's needs are missing, those that need it, those that are ready; each list in a block of its own.
  What newQueue of package calc answers: the queue of a plan, as it begins, in whatever memory.
-/
import Derived.Test.YtaodedckffjpgafGreatDoorJXBM
import Derived.Test.YtaodedckffjpgafGreatDoorJXBR
import Derived.Test.YtaodedckffjpgafGreatDoorJXCI
import Derived.Test.YtaodedckffjpgafGreatDoorJXCG
namespace Go.Proofs.YtaodedckffjpgafGreatDoor
open Go.ChangeShapes Go.WideShapes Go.ChangeAt Go.RowKit
set_option maxRecDepth 20000
def ValB (w:World) (g n T:Nat) (f:Nat→Value):Prop:=w.heap[g]?=some (.cells ((List.range n).map f).toArray T (0,0))
theorem ValB.lt {w:World} {g n T:Nat} {f:Nat→Value} (h:ValB w g n T f):g<w.heap.size:=(Array.getElem?_eq_some_iff.1 h).1
theorem ValB.cell {w:World} {g n T:Nat} {f:Nat→Value} (h:ValB w g n T f) {j:Nat} (hj:j<n):w.cell? ⟨g,j,none⟩=some (f j):=by
 rw [Lib.cell_of_heap h]
 simp [hj]
theorem ValB.frozen {w:World} {g n T:Nat} {f:Nat→Value} (h:ValB w g n T f) (j:Nat):w.frozen? ⟨g,j,none⟩=false:=Lib.frozen_of_heap h j
theorem ValB.same {w w':World} {g n T:Nat} {f:Nat→Value} (h:ValB w g n T f) (hb:w'.heap[g]?=w.heap[g]?):ValB w' g n T f:=hb.trans h
theorem ValB.set {w:World} {g n T:Nat} {f f':Nat→Value} {v:Value} (h:ValB w g n T f) {m:Nat} (hf:∀ j,j<n→f' j=if j=m then v else f j):ValB (w.setCell ⟨g,m,none⟩ v) g n T f':=by
 unfold ValB at *
 simp only [World.setCell,Array.getElem?_modify,if_true,h,Option.map_some,Option.some.injEq,Obj.cells.injEq,and_true,Option.isSome_none,Bool.false_eq_true,if_false]
 apply Array.ext_getElem?
 intro j
 rw [Array.getElem?_setIfInBounds]
 by_cases hj:j<n
 ·by_cases e:m=j
  ·rw [if_pos e,if_pos (by simp;omega)]
   simp [hj,hf j hj,e]
  ·have e':j≠m:=fun x=>e x.symm
   rw [if_neg e]
   simp only [List.getElem?_toArray,List.getElem?_map,List.getElem?_range hj,Option.map_some,hf j hj,if_neg e']
 ·by_cases e:m=j
  ·rw [if_pos e,if_neg (by simp;omega),Array.getElem?_eq_none (by simp;omega)]
  ·rw [if_neg e,Array.getElem?_eq_none (by simp;omega),Array.getElem?_eq_none (by simp;omega)]
theorem ValB.made (w:World) (n T:Nat) (z:Value):ValB (w.alloc (.cells (madeCells #[z] n) T)) w.heap.size n T fun _=>z:=by
 unfold ValB
 have e:madeCells #[z] n=((List.range n).map fun _=>z).toArray:=by
  apply Array.ext
  ·simp [madeCells]
  ·intro i h1 h2
   simp [madeCells,Nat.mod_one]
 rw [e]
 exact heap_alloc_new w _
theorem ValB.off {w:World} {g n T b:Nat} {f:Nat→Value} {cs:Array Value} {t:Nat} {fr:Nat×Nat} (h:ValB w g n T f) (hb:w.heap[b]?=some (.cells cs t fr)) (ht:t≠T):b≠g:=fun e=>by
 rw [e,h] at hb
 simp only [Option.some.injEq,Obj.cells.injEq] at hb
 exact ht hb.2.1.symm
theorem row_ne_int':(3:Nat)≠27:=by decide
theorem own_grown {w w':World} {base e size n:Nat} {v:Value} {xs:List Value} {r:Option Nat} (h:w.ownsRow base e size v n xs) (hG:w.grownBy w' r) (hr:∀ b,v.ownBlock=some b→r≠some b):w'.ownsRow base e size v n xs:=by
 refine ⟨h.1,?_⟩
 rcases h.2 with h0 | ⟨g,cap,cur,rfl,h2,h3,h4⟩
 ·exact Or.inl h0
 ·exact Or.inr ⟨g,cap,cur,rfl,h2,(hG.block g (Array.getElem?_eq_some_iff.1 h3).1 (fun e=>hr g rfl e.symm)).trans h3,h4⟩
theorem own_blk {w:World} {base e size n b:Nat} {v:Value} {xs:List Value} (h:w.ownsRow base e size v n xs) (hb:v.ownBlock=some b):base≤b∧b<w.heap.size∧∃ cur,w.heap[b]?=some (.cells cur e (0,0)):=by
 rcases h.2 with ⟨rfl,-⟩ | ⟨g,cap,cur,rfl,h2,h3,h4⟩
 ·cases hb
 ·cases hb
  exact ⟨h2,(Array.getElem?_eq_some_iff.1 h3).1,cur,h3⟩
theorem own_setc {w:World} {base e size n g j:Nat} {v x:Value} {xs:List Value} (h:w.ownsRow base e size v n xs) (hg:v.ownBlock≠some g):(w.setCell ⟨g,j,none⟩ x).ownsRow base e size v n xs:=by
 refine ⟨h.1,?_⟩
 rcases h.2 with h0 | ⟨g',cap,cur,rfl,h2,h3,h4⟩
 ·exact Or.inl h0
 ·exact Or.inr ⟨g',cap,cur,rfl,h2,by rw [setCell_off _ _ _ _ _ (fun e=>hg (by rw [←e];rfl))];exact h3,h4⟩
theorem IntT.one {w w':World} {A:Option Addr} {c:Nat} {L:List Int} (h:IntT w A c L) (hb:∀ a,A=some a→w'.heap[a.block]?=w.heap[a.block]?):IntT w' A c L:=by
 obtain ⟨h1,h0,h2 | ⟨b,cs,fr,rfl,h3,h4⟩⟩:=h
 ·exact ⟨h1,h0,Or.inl h2⟩
 ·have e:=hb _ rfl
  exact ⟨h1,h0,Or.inr ⟨b,cs,fr,rfl,e.trans h3,fun j hj=>(World.cell?_of_block (a:=⟨b,j,none⟩) e).trans (h4 j hj)⟩⟩
structure QM (w:World) (B q gM gU N:Nat) (M:Nat→Int) (UV:Nat→Value) (UL:Nat→List Int) (R:Value) (RL:List Int):Prop where
 hq:w.heap[q]?=some (.cells #[.slice (some ⟨gM,0,none⟩) N N,.slice (some ⟨gU,0,none⟩) N N,R] 147 (0,0))
 hM:ValB w gM N 3 fun j=>.int .i64 (M j)
 hU:ValB w gU N 27 UV
 own:∀ j,j<N→w.ownsRow B 3 1 (UV j) (UL j).length (mapI (UL j))
 ready:w.ownsRow B 3 1 R RL.length (mapI RL)
 dM:∀ j,j<N→(UV j).ownBlock≠some gM
 dU:∀ i j,i<N→j<N→i≠j→∀ b,(UV i).ownBlock=some b→(UV j).ownBlock≠some b
 dR:R.ownBlock≠some gM
 dRU:∀ j,j<N→∀ b,R.ownBlock=some b→(UV j).ownBlock≠some b
 lq:B≤q
 lM:B≤gM
 lU:B≤gU
section
variable {w w':World} {B q gM gU N:Nat} {M:Nat→Int} {UV:Nat→Value} {UL:Nat→List Int} {R:Value} {RL:List Int}
theorem QM.ql (h:QM w B q gM gU N M UV UL R RL):q<w.heap.size:=(Array.getElem?_eq_some_iff.1 h.hq).1
theorem QM.later (h:QM w B q gM gU N M UV UL R RL) (hB:Below w.heap.size w w'):QM w' B q gM gU N M UV UL R RL :=
 ⟨(hB.block q h.ql).trans h.hq,h.hM.same (hB.block _ h.hM.lt),h.hU.same (hB.block _ h.hU.lt),fun j hj=>own_later (h.own j hj) hB,own_later h.ready hB,h.dM,h.dU,h.dR,h.dRU,h.lq,h.lM,h.lU⟩
theorem QM.drew (h:QM w B q gM gU N M UV UL R RL):QM w.drew B q gM gU N M UV UL R RL:=h.later (below_drewN (Below.refl _ _) 1)
theorem QM.cells (h:QM w B q gM gU N M UV UL R RL):w.cell? ⟨q,0,none⟩=some (.slice (some ⟨gM,0,none⟩) N N)∧w.cell? ⟨q,1,none⟩=some (.slice (some ⟨gU,0,none⟩) N N)∧w.cell? ⟨q,2,none⟩=some R∧w.frozen? ⟨q,2,none⟩=false :=
 ⟨by simp [World.cell?,h.hq],by simp [World.cell?,h.hq],by simp [World.cell?,h.hq],by simp [World.frozen?,h.hq]⟩
theorem QM.ne (h:QM w B q gM gU N M UV UL R RL):q≠gM∧q≠gU∧gM≠gU:=by
 refine ⟨fun e=>?_,fun e=>?_,fun e=>?_⟩
 ·have h1:=h.hq;rw [e,h.hM] at h1;simp at h1
 ·have h1:=h.hq;rw [e,h.hU] at h1;simp at h1
 ·have h1:=h.hM;unfold ValB at h1;rw [e,h.hU] at h1;simp at h1
theorem QM.off (h:QM w B q gM gU N M UV UL R RL) {b:Nat} {cur:Array Value} (hb:w.heap[b]?=some (.cells cur 3 (0,0))):b≠q∧b≠gU:=by
 refine ⟨fun e=>?_,h.hU.off hb row_ne_int'⟩
 rw [e,h.hq] at hb
 simp at hb
theorem QM.setM (h:QM w B q gM gU N M UV UL R RL) (m:Nat) (x:Int):QM (w.setCell ⟨gM,m,none⟩ (.int .i64 x)) B q gM gU N (fun j=>if j=m then x else M j) UV UL R RL:=by
 obtain ⟨n1,n2,n3⟩:=h.ne
 refine ⟨by rw [setCell_off _ _ _ _ _ n1];exact h.hq,?_,h.hU.same (setCell_off _ _ _ _ _ n3.symm),fun j hj=>own_setc (h.own j hj) (h.dM j hj),own_setc h.ready h.dR,h.dM,h.dU,h.dR,h.dRU,h.lq,h.lM,h.lU⟩
 refine h.hM.set (f':=fun j=>.int .i64 (if j=m then x else M j)) fun j _=>?_
 by_cases e:j=m
 ·simp only [if_pos e]
 ·simp only [if_neg e]
theorem QM.pushU (h:QM w B q gM gU N M UV UL R RL) {w4 w6:World} {k:Nat} {L:List Int} {v:Value} {H:Nat} (hk:k<N) (h4:Below w.heap.size w w4) (hG:w4.grownBy w6 (UV k).ownBlock) (hO:w6.ownsRow B 3 1 v L.length (mapI L)) (hat:v.ownBlock=(UV k).ownBlock∨v.ownBlock=some H) (hH:w.heap.size≤H) :
  QM (w6.setCell ⟨gU,k,none⟩ v) B q gM gU N M (fun j=>if j=k then v else UV j) (fun j=>if j=k then L else UL j) R RL:=by
 obtain ⟨n1,n2,n3⟩:=h.ne
 have hr:=fun b (e:(UV k).ownBlock=some b)=>own_blk (h.own k hk) e
 have hkeep:∀ b,b<w.heap.size→(UV k).ownBlock≠some b→w6.heap[b]?=w.heap[b]?:=fun b hb hne=>(hG.block b (Nat.lt_of_lt_of_le hb h4.size) (fun e=>hne e.symm)).trans (h4.block b hb)
 have q1:(UV k).ownBlock≠some q:=fun e=>by obtain ⟨-,-,cur,hc⟩:=hr q e;exact (h.off hc).1 rfl
 have q2:(UV k).ownBlock≠some gU:=fun e=>by obtain ⟨-,-,cur,hc⟩:=hr gU e;exact (h.off hc).2 rfl
 have vU:v.ownBlock≠some gU:=fun e=>by
  rcases hat with h1 | h1
  ·exact q2 (h1.symm.trans e)
  ·rw [h1] at e;have:=h.hU.lt;simp at e;omega
 have vM:v.ownBlock≠some gM:=fun e=>by
  rcases hat with h1 | h1
  ·exact h.dM k hk (h1.symm.trans e)
  ·rw [h1] at e;have:=h.hM.lt;simp at e;omega
 have oth:∀ (v1:Value) (L1:List Int),w.ownsRow B 3 1 v1 L1.length (mapI L1)→(∀ b,v1.ownBlock=some b→(UV k).ownBlock≠some b)→w6.ownsRow B 3 1 v1 L1.length (mapI L1):=fun v1 L1 h1 h2=>own_grown (own_later h1 h4) hG h2
 have far:∀ (v1:Value) (L1:List Int),w.ownsRow B 3 1 v1 L1.length (mapI L1)→(∀ b,v1.ownBlock=some b→(UV k).ownBlock≠some b)→∀ b,v1.ownBlock=some b→v.ownBlock≠some b:=fun v1 L1 h1 h2 b hb e=>by
  rcases hat with h3 | h3
  ·exact h2 b hb (h3.symm.trans e)
  ·rw [h3] at e
   have:=(own_blk h1 hb).2.1
   simp at e
   omega
 have dist:∀ j,j<N→j≠k→∀ b,(UV j).ownBlock=some b→(UV k).ownBlock≠some b:=fun j hj hne b hb=>h.dU j k hj hk hne b hb
 refine ⟨by rw [setCell_off _ _ _ _ _ n2,hkeep q h.ql q1];exact h.hq,?_,?_,fun j hj=>?_,?_,fun j hj=>?_,fun i j hi hj hne b hb=>?_,h.dR,fun j hj b hb=>?_,h.lq,h.lM,h.lU⟩
 ·exact (h.hM.same (hkeep _ h.hM.lt (h.dM k hk))).same (setCell_off _ _ _ _ _ n3)
 ·exact (h.hU.same (hkeep _ h.hU.lt q2)).set fun j _=>rfl
 ·by_cases e:j=k
  ·simp only [if_pos e]
   exact own_setc hO vU
  ·simp only [if_neg e]
   refine own_setc (oth _ _ (h.own j hj) (dist j hj e)) fun e2=>?_
   obtain ⟨-,-,cur,hc⟩:=own_blk (h.own j hj) e2
   exact (h.off hc).2 rfl
 ·refine own_setc (oth _ _ h.ready fun b hb=>h.dRU k hk b hb) fun e2=>?_
  obtain ⟨-,-,cur,hc⟩:=own_blk h.ready e2
  exact (h.off hc).2 rfl
 ·by_cases e:j=k
  ·simp only [if_pos e];exact vM
  ·simp only [if_neg e];exact h.dM j hj
 ·by_cases ei:i=k
  ·simp only [if_pos ei] at hb
   have ej:j≠k:=fun e=>hne (ei.trans e.symm)
   simp only [if_neg ej]
   intro e2
   exact far _ _ (h.own j hj) (dist j hj ej) b e2 hb
  ·simp only [if_neg ei] at hb
   by_cases ej:j=k
   ·simp only [if_pos ej]
    exact far _ _ (h.own i hi) (dist i hi ei) b hb
   ·simp only [if_neg ej]
    exact h.dU i j hi hj hne b hb
 ·by_cases e:j=k
  ·simp only [if_pos e]
   exact far _ _ h.ready (fun b hb=>h.dRU k hk b hb) b hb
  ·simp only [if_neg e]
   exact h.dRU j hj b hb
theorem QM.pushR (h:QM w B q gM gU N M UV UL R RL) {w4 w6:World} {L:List Int} {v:Value} {H:Nat} (h4:Below w.heap.size w w4) (hG:w4.grownBy w6 R.ownBlock) (hO:w6.ownsRow B 3 1 v L.length (mapI L)) (hat:v.ownBlock=R.ownBlock∨v.ownBlock=some H) (hH:w.heap.size≤H) :
  QM (w6.setCell ⟨q,2,none⟩ v) B q gM gU N M UV UL v L:=by
 obtain ⟨n1,n2,n3⟩:=h.ne
 have hr:=fun b (e:R.ownBlock=some b)=>own_blk h.ready e
 have hkeep:∀ b,b<w.heap.size→R.ownBlock≠some b→w6.heap[b]?=w.heap[b]?:=fun b hb hne=>(hG.block b (Nat.lt_of_lt_of_le hb h4.size) (fun e=>hne e.symm)).trans (h4.block b hb)
 have q1:R.ownBlock≠some q:=fun e=>by obtain ⟨-,-,cur,hc⟩:=hr q e;exact (h.off hc).1 rfl
 have q2:R.ownBlock≠some gU:=fun e=>by obtain ⟨-,-,cur,hc⟩:=hr gU e;exact (h.off hc).2 rfl
 have vq:v.ownBlock≠some q:=fun e=>by
  rcases hat with h1 | h1
  ·exact q1 (h1.symm.trans e)
  ·rw [h1] at e;have:=h.ql;simp at e;omega
 refine ⟨?_,(h.hM.same (hkeep _ h.hM.lt h.dR)).same (setCell_off _ _ _ _ _ n1.symm),(h.hU.same (hkeep _ h.hU.lt q2)).same (setCell_off _ _ _ _ _ n2.symm),fun j hj=>?_,own_setc hO vq,h.dM,h.dU,fun e=>?_,fun j hj b hb e=>?_,h.lq,h.lM,h.lU⟩
 ·have:=set_ty (k:=2) (v:=v) ((hkeep q h.ql q1).trans h.hq)
  simpa using this
 ·refine own_setc (own_grown (own_later (h.own j hj) h4) hG fun b hb e=>h.dRU j hj b e hb) fun e2=>?_
  obtain ⟨-,-,cur,hc⟩:=own_blk (h.own j hj) e2
  exact (h.off hc).1 rfl
 ·rcases hat with h1 | h1
  ·exact h.dR (h1.symm.trans e)
  ·rw [h1] at e;have:=h.hM.lt;simp at e;omega
 ·rcases hat with h1 | h1
  ·exact h.dRU j hj b (h1.symm.trans hb) e
  ·rw [h1] at hb
   have:=(own_blk (h.own j hj) e).2.1
   simp at hb
   omega
end
end Go.Proofs.YtaodedckffjpgafGreatDoor
namespace Go.Proofs.YtaodedckffjpgafGreatDoor
open Go.ChangeShapes Go.WideShapes Go.ChangeAt Go.RowKit
set_option maxRecDepth 20000
section
variable {D:Nat→Dm} {n:Nat}
theorem rows_told (hR:AllR D n) (hE:(allErr D n).2.2=0) {i:Nat} (hi:i<prodN D n):ToldP D n (placeL D n i) ((rowsL D n).getD i []):=by
 have h:=nds_told hR hE hi
 rw [rows_at hi,←told_eq hR hE h]
 exact h
theorem rows_inn (hR:AllR D n) (hE:(allErr D n).2.2=0):Inn (rowsL D n):=told_inn hR hE rows_len fun _ hi=>rows_told hR hE hi
theorem rows_acyc (hR:AllR D n) (hE:(allErr D n).2.2=0) (i:Nat) (hi:i<(rowsL D n).length):cycB (rowsL D n) i=false:=told_acyc hR hE rows_len (fun _ hi=>rows_told hR hE hi) i hi
theorem rows_rise (hR:AllR D n) (hE:(allErr D n).2.2=0) (j:Nat) (hj:j<(rowsL D n).length):((rowsL D n).getD j []).Pairwise (· < ·):=(rows_told hR hE (by rw [rows_len] at hj;exact hj)).1
end
theorem usr_succ (Nn:List (List Int)) (m k:Nat):usrL Nn m (k+1)=usrL Nn m k ++ (if (m:Int)∈Nn.getD k [] then [(k:Int)] else []):=by
 unfold usrL
 rw [selTo]
 simp only [List.contains_iff_mem]
theorem usr_len (Nn:List (List Int)) (m k:Nat):(usrL Nn m k).length≤k:=by unfold usrL;exact selTo_len _ _
theorem sel_len (p:Nat→Bool) (k:Nat):(selTo p k).length≤k:=selTo_len _ _
set_option maxHeartbeats 2000000 in
theorem places_same (q g n:Nat) (D:Nat→Dm) (X:Nat→AL) (w:World) (hA:PlanV w q g n D X):Calls Tryz.prog 88 #[.pointer (some ⟨q,0,none⟩)] w fun e w'=>e=.returned (.int .i64 (prodN D n:Nat))∧w'=w:=by
 obtain ⟨hq,q0,q1⟩:=hA.cells
 generalize prodN D n=N at *
 clear hA
 go_enter Tryz.func88,Tryz.ntmps88
 go_wp2_with fail
 go_ret
 exact ⟨rfl,rfl⟩
theorem qm_made (w:World) (N:Nat):QM (((w.alloc (.cells (madeCells #[.int .i64 0] N) 3)).alloc (.cells (madeCells #[.slice none 0 0] N) 27)).alloc (.cells #[.slice (some ⟨w.heap.size,0,none⟩) N N,.slice (some ⟨w.heap.size+1,0,none⟩) N N,.slice none 0 0] 147)) w.heap.size (w.heap.size+2) w.heap.size (w.heap.size+1) N (fun _=>0) (fun _=>.slice none 0 0) (fun _=>[]) (.slice none 0 0) []:=by
 have hs1:(w.alloc (.cells (madeCells #[.int .i64 0] N) 3)).heap.size=w.heap.size+1:=by simp
 have hs2:((w.alloc (.cells (madeCells #[.int .i64 0] N) 3)).alloc (.cells (madeCells #[.slice none 0 0] N) 27)).heap.size=w.heap.size+2:=by simp
 refine ⟨?_,?_,?_,fun _ _=>World.ownsRow_nil _ _ _ _,World.ownsRow_nil _ _ _ _,fun _ _ h=>(by cases h),fun _ _ _ _ _ _ h=>(by cases h),fun h=>(by cases h),fun _ _ _ h=>(by cases h),by omega,by omega,by omega⟩
 ·have h:=heap_alloc_new ((w.alloc (.cells (madeCells #[.int .i64 0] N) 3)).alloc (.cells (madeCells #[.slice none 0 0] N) 27)) (.cells #[.slice (some ⟨w.heap.size,0,none⟩) N N,.slice (some ⟨w.heap.size+1,0,none⟩) N N,.slice none 0 0] 147)
  rw [hs2] at h
  exact h
 ·refine (ValB.made w N 3 (.int .i64 0)).same ?_
  rw [heap_alloc_old _ _ (by omega),heap_alloc_old _ _ (by omega)]
 ·have h:=ValB.made (w.alloc (.cells (madeCells #[.int .i64 0] N) 3)) N 27 (.slice none 0 0)
  rw [hs1] at h
  exact h.same (heap_alloc_old _ _ (by omega))
theorem qm_made2 (w:World) (N:Nat):QM (((w.alloc (.cells (madeCells #[.slice none 0 0] N) 27)).alloc (.cells (madeCells #[.int .i64 0] N) 3)).alloc (.cells #[.slice (some ⟨w.heap.size+1,0,none⟩) N N,.slice (some ⟨w.heap.size,0,none⟩) N N,.slice none 0 0] 147)) w.heap.size (w.heap.size+2) (w.heap.size+1) w.heap.size N (fun _=>0) (fun _=>.slice none 0 0) (fun _=>[]) (.slice none 0 0) []:=by
 have hs1:(w.alloc (.cells (madeCells #[.slice none 0 0] N) 27)).heap.size=w.heap.size+1:=by simp
 have hs2:((w.alloc (.cells (madeCells #[.slice none 0 0] N) 27)).alloc (.cells (madeCells #[.int .i64 0] N) 3)).heap.size=w.heap.size+2:=by simp
 refine ⟨?_,?_,?_,fun _ _=>World.ownsRow_nil _ _ _ _,World.ownsRow_nil _ _ _ _,fun _ _ h=>(by cases h),fun _ _ _ _ _ _ h=>(by cases h),fun h=>(by cases h),fun _ _ _ h=>(by cases h),by omega,by omega,by omega⟩
 ·have h:=heap_alloc_new ((w.alloc (.cells (madeCells #[.slice none 0 0] N) 27)).alloc (.cells (madeCells #[.int .i64 0] N) 3)) (.cells #[.slice (some ⟨w.heap.size+1,0,none⟩) N N,.slice (some ⟨w.heap.size,0,none⟩) N N,.slice none 0 0] 147)
  rw [hs2] at h
  exact h
 ·have h:=ValB.made (w.alloc (.cells (madeCells #[.slice none 0 0] N) 27)) N 3 (.int .i64 0)
  rw [hs1] at h
  exact h.same (heap_alloc_old _ _ (by omega))
 ·refine (ValB.made w N 27 (.slice none 0 0)).same ?_
  rw [heap_alloc_old _ _ (by omega),heap_alloc_old _ _ (by omega)]
def QMk (w:World) (q gM gU N k:Nat) (Nn:List (List Int)) (w1:World):Prop := ∃ M UV R,QM w w1.heap.size q gM gU N M UV (fun j=>usrL Nn j k) R (selTo (fun j=>(Nn.getD j []).isEmpty) k)∧(∀ j,j<k→M j=((Nn.getD j []).length:Int))∧Below w1.heap.size w1 w
def QMi (w:World) (q gM gU N k i:Nat) (Nn:List (List Int)) (T:List Int) (A2:Option Addr) (c2:Nat) (w1:World):Prop := ∃ M UV R,QM w w1.heap.size q gM gU N M UV (fun j=>usrL Nn j k ++ (if (j:Int)∈T.take i then [(k:Int)] else [])) R (selTo (fun j=>(Nn.getD j []).isEmpty) k)∧(∀ j,j<k+1→M j=((Nn.getD j []).length:Int))∧(∀ j,j<N→∀ a,A2=some a→(UV j).ownBlock≠some a.block)∧IntT w A2 c2 T∧Below w1.heap.size w1 w
section
variable {w w2 w1:World} {q gM gU N k i:Nat} {Nn:List (List Int)} {T:List Int} {A2:Option Addr} {c2:Nat}
theorem QMk.next (h:QMk w q gM gU N k Nn w1) (hb:Below w.heap.size w w2) (hT:Nn.getD k []=T) (hI:IntT w2 A2 c2 T) (hA:∀ a,A2=some a→w.heap.size≤a.block):QMi (w2.setCell ⟨gM,k,none⟩ (.int .i64 (T.length:Int))) q gM gU N k 0 Nn T A2 c2 w1:=by
 obtain ⟨M,UV,R,hQ,hM,hB⟩:=h
 have hQ2:=(hQ.later hb).setM k (T.length:Int)
 refine ⟨fun j=>if j=k then (T.length:Int) else M j,UV,R,?_,fun j hj=>?_,fun j hj a ha e=>?_,?_,(onB hB hb).setCell hQ.lM _⟩
 ·have e:(fun j:Nat=>usrL Nn j k ++ (if (j:Int)∈T.take 0 then [(k:Int)] else []))=fun j=>usrL Nn j k:=by
   funext j
   simp
  rw [e]
  exact hQ2
 ·by_cases e:j=k
  ·show (if j=k then (T.length:Int) else M j)=_
   rw [if_pos e,e,hT]
  ·show (if j=k then (T.length:Int) else M j)=_
   rw [if_neg e]
   exact hM j (by omega)
 ·have h1:=(own_blk (hQ.own j hj) e).2.1
  have h2:=hA a ha
  omega
 ·refine hI.one fun a ha=>setCell_off _ _ _ _ _ fun e=>?_
  have h1:=hA a ha
  have h2:=hQ.hM.lt
  omega
theorem QMi.push (h:QMi w q gM gU N k i Nn T A2 c2 w1) (hr:T.Pairwise (· < ·)) (hi:i<T.length) {y:Nat} (hy:T.getD i 0=(y:Int)) (hyN:y<N) :
  ∃ AO ln cO Ly,w.cell? ⟨gU,y,none⟩=some (.slice AO ln cO)∧ln≤k∧w.ownsRow w1.heap.size 3 1 (.slice AO ln cO) ln (mapI Ly)∧(∀ (w5 w6:World),Below w.heap.size w w5→w5.grownBy w6 (Value.slice AO ln cO).ownBlock→w6.cell? ⟨q,1,none⟩=some (.slice (some ⟨gU,0,none⟩) N N)∧w6.cell? ⟨gU,y,none⟩=some (.slice AO ln cO)∧w6.frozen? ⟨gU,y,none⟩=false∧q<w6.heap.size∧gU<w6.heap.size) ∧
  ∀ (w5 w6:World) (gg cg:Nat),Below w.heap.size w w5→w6.ownsRow w1.heap.size 3 1 (.slice (some ⟨gg,0,none⟩) (ln+1) cg) (ln+1) (mapI Ly ++ [.int .i64 (k:Int)])→w5.grownBy w6 (Value.slice AO ln cO).ownBlock→((Value.slice AO ln cO).ownBlock=some gg∨gg=w.heap.size+1)→QMi (w6.setCell ⟨gU,y,none⟩ (.slice (some ⟨gg,0,none⟩) (ln+1) cg)) q gM gU N k (i+1) Nn T A2 c2 w1:=by
 obtain ⟨M,UV,R,hQ,hM,hd,hI,hB⟩:=h
 have hnew:(y:Int)∉T.take i:=by
  intro h
  obtain ⟨j,hj,e⟩:=List.getElem_of_mem h
  have hj2:j<i:=by have:=hj;rw [List.length_take] at this;omega
  rw [List.getElem_take] at e
  have:=List.pairwise_iff_getElem.1 hr j i (by omega) hi hj2
  rw [List.getD_eq_getElem?_getD,List.getElem?_eq_getElem hi,Option.getD_some] at hy
  omega
 have hO:w.ownsRow w1.heap.size 3 1 (UV y) (usrL Nn y k).length (mapI (usrL Nn y k)):=by
  have h:=hQ.own y hyN
  simp only [if_neg hnew,List.append_nil] at h
  exact h
 obtain ⟨AO,cO,hv⟩:∃ AO cO,UV y=.slice AO (usrL Nn y k).length cO:=by
  rcases hO.2 with ⟨h1,h2⟩ | ⟨g,cap,cur,h1,-⟩
  ·exact ⟨none,0,by rw [h1,h2]⟩
  ·exact ⟨_,_,h1⟩
 have hqo:∀ b,(UV y).ownBlock=some b→b≠q∧b≠gU:=fun b hb=>by
  obtain ⟨-,-,cur,hc⟩:=own_blk hO hb
  exact hQ.off hc
 have hkp:∀ (w5 w6:World) (b:Nat),Below w.heap.size w w5→w5.grownBy w6 (UV y).ownBlock→b<w.heap.size→(UV y).ownBlock≠some b→w6.heap[b]?=w.heap[b]?:=fun w5 w6 b h5 hG hb hne=>(hG.block b (Nat.lt_of_lt_of_le hb h5.size) (fun e=>hne e.symm)).trans (h5.block b hb)
 refine ⟨AO,(usrL Nn y k).length,cO,usrL Nn y k,by rw [←hv];exact hQ.hU.cell hyN,usr_len _ _ _,by rw [←hv];exact hO,fun w5 w6 h5 hG=>?_,fun w5 w6 gg cg h5 h6 hG hat=>?_⟩
 ·rw [←hv] at hG ⊢
  have e1:=hkp w5 w6 q h5 hG hQ.ql (fun e=>(hqo q e).1 rfl)
  have e2:=hkp w5 w6 gU h5 hG hQ.hU.lt (fun e=>(hqo gU e).2 rfl)
  have hU6:=hQ.hU.same e2
  refine ⟨(World.cell?_of_block (a:=⟨q,1,none⟩) e1).trans hQ.cells.2.1,hU6.cell hyN,hU6.frozen y,?_,hU6.lt⟩
  have:=hQ.ql
  have:=h5.size
  have:=hG.size
  omega
 ·rw [←hv] at hG hat
  have hl1:((usrL Nn y k ++ [(k:Int)]).length)=(usrL Nn y k).length+1:=by rw [List.length_append];rfl
  have hP:=hQ.pushU (L:=usrL Nn y k ++ [(k:Int)]) (v:=.slice (some ⟨gg,0,none⟩) ((usrL Nn y k).length+1) cg) (H:=w.heap.size+1) hyN h5 hG (by rw [hl1,mapI_snoc];exact h6) (by
   rcases hat with h | h
   ·exact Or.inl h.symm
   ·exact Or.inr (by rw [h];rfl)) (by omega)
  have hB6:Below w1.heap.size w1 w6:=⟨hG.os.trans (onB hB h5).os,hG.tape.trans (onB hB h5).tape,hG.output.trans (onB hB h5).output,Nat.le_trans (onB hB h5).size hG.size,fun b hb=>(hG.block b (Nat.lt_of_lt_of_le hb (onB hB h5).size) (fun e=>by have:=(own_blk hO e.symm).1;omega)).trans ((onB hB h5).block b hb)⟩
  refine ⟨M,fun j=>if j=y then .slice (some ⟨gg,0,none⟩) ((usrL Nn y k).length+1) cg else UV j,R,?_,hM,fun j hj a ha=>?_,?_,hB6.setCell hQ.lU _⟩
  ·have e:(fun j:Nat=>usrL Nn j k ++ (if (j:Int)∈T.take (i+1) then [(k:Int)] else []))=fun j:Nat=>if j=y then usrL Nn y k ++ [(k:Int)] else usrL Nn j k ++ (if (j:Int)∈T.take i then [(k:Int)] else []):=by
    funext j
    have ht:(j:Int)∈T.take (i+1)↔(j:Int)∈T.take i∨j=y:=by
     rw [List.take_succ_eq_append_getElem hi,List.mem_append,List.mem_singleton]
     rw [List.getD_eq_getElem?_getD,List.getElem?_eq_getElem hi,Option.getD_some] at hy
     rw [hy]
     exact ⟨fun h=>h.imp id (by omega),fun h=>h.imp id (by omega)⟩
    by_cases ej:j=y
    ·rw [if_pos ej,if_pos (ht.2 (Or.inr ej)),ej]
    ·rw [if_neg ej]
     congr 1
     by_cases e2:(j:Int)∈T.take i
     ·rw [if_pos e2,if_pos (ht.2 (Or.inl e2))]
     ·rw [if_neg e2,if_neg (fun h=>(ht.1 h).elim e2 ej)]
   rw [e]
   exact hP
  ·by_cases ej:j=y
   ·simp only [if_pos ej]
    intro e
    rcases hat with h | h
    ·exact hd y hyN a ha (h.trans e)
    ·obtain ⟨-,-,h2 | ⟨b,cs,fr,h2,h3,-⟩⟩:=hI
     ·rw [h2] at hi;simp at hi
     ·rw [ha] at h2
      cases h2
      have:=(Array.getElem?_eq_some_iff.1 h3).1
      rw [h] at e
      simp [Value.ownBlock] at e
      omega
   ·simp only [if_neg ej]
    exact hd j hj a ha
  ·have hI6:IntT w6 A2 c2 T:=by
    refine hI.one fun a ha=>?_
    obtain ⟨-,-,h2 | ⟨b,cs,fr,h2,h3,-⟩⟩:=id hI
    ·rw [h2] at hi;simp at hi
    ·rw [ha] at h2
     cases h2
     exact hkp w5 w6 b h5 hG (Array.getElem?_eq_some_iff.1 h3).1 (hd y hyN _ ha)
   refine hI6.one fun a ha=>setCell_off _ _ _ _ _ fun e=>?_
   obtain ⟨-,-,h2 | ⟨b,cs,fr,h2,h3,-⟩⟩:=id hI
   ·rw [h2] at hi;simp at hi
   ·rw [ha] at h2
    cases h2
    exact hQ.hU.off h3 row_ne_int' e
theorem QMi.done (h:QMi w q gM gU N k T.length Nn T A2 c2 w1) (hT:Nn.getD k []=T) (hne:T.length≠0):QMk w q gM gU N (k+1) Nn w1:=by
 obtain ⟨M,UV,R,hQ,hM,-,-,hB⟩:=h
 refine ⟨M,UV,R,?_,hM,hB⟩
 have e:(fun j=>usrL Nn j (k+1))=fun j:Nat=>usrL Nn j k ++ (if (j:Int)∈T.take T.length then [(k:Int)] else []):=by
  funext j
  rw [usr_succ,hT,List.take_length]
 have e2:selTo (fun j=>(Nn.getD j []).isEmpty) (k+1)=selTo (fun j=>(Nn.getD j []).isEmpty) k:=by
  rw [selTo,hT]
  have:T.isEmpty=false:=by cases T with
   | nil=>exact absurd rfl hne
   | cons a r=>rfl
  rw [this]
  simp
 rw [e,e2]
 exact hQ
theorem QMi.free (h:QMi w q gM gU N k 0 Nn [] A2 c2 w1) (hT:Nn.getD k []=[]) :
  ∃ AO ln cO Ly,w.cell? ⟨q,2,none⟩=some (.slice AO ln cO)∧w.frozen? ⟨q,2,none⟩=false∧ln≤k∧w.ownsRow w1.heap.size 3 1 (.slice AO ln cO) ln (mapI Ly)∧(∀ (w5 w6:World),Below w.heap.size w w5→w5.grownBy w6 (Value.slice AO ln cO).ownBlock→w6.cell? ⟨q,2,none⟩=some (.slice AO ln cO)∧w6.frozen? ⟨q,2,none⟩=false∧q<w6.heap.size) ∧
  ∀ (w5 w6:World) (v:Value),Below w.heap.size w w5→w6.ownsRow w1.heap.size 3 1 v (ln+1) (mapI Ly ++ [.int .i64 (k:Int)])→w5.grownBy w6 (Value.slice AO ln cO).ownBlock→(v.ownBlock=(Value.slice AO ln cO).ownBlock∨v.ownBlock=some w5.heap.size)→QMk (w6.setCell ⟨q,2,none⟩ v) q gM gU N (k+1) Nn w1:=by
 obtain ⟨M,UV,R,hQ,hM,-,-,hB⟩:=h
 have hO:=hQ.ready
 obtain ⟨AO,cO,hv⟩:∃ AO cO,R=.slice AO (selTo (fun j=>(Nn.getD j []).isEmpty) k).length cO:=by
  rcases hO.2 with ⟨h1,h2⟩ | ⟨g,cap,cur,h1,-⟩
  ·exact ⟨none,0,by rw [h1,h2]⟩
  ·exact ⟨_,_,h1⟩
 have hqo:∀ b,R.ownBlock=some b→b≠q∧b≠gU:=fun b hb=>by
  obtain ⟨-,-,cur,hc⟩:=own_blk hO hb
  exact hQ.off hc
 have hkq:∀ (w5 w6:World),Below w.heap.size w w5→w5.grownBy w6 R.ownBlock→w6.heap[q]?=w.heap[q]?:=fun w5 w6 h5 hG=>(hG.block q (Nat.lt_of_lt_of_le hQ.ql h5.size) (fun e=>(hqo q e.symm).1 rfl)).trans (h5.block q hQ.ql)
 refine ⟨AO,_,cO,_,by rw [←hv];exact hQ.cells.2.2.1,hQ.cells.2.2.2,sel_len _ _,by rw [←hv];exact hO,fun w5 w6 h5 hG=>?_,fun w5 w6 v h5 h6 hG hat=>?_⟩
 ·rw [←hv] at hG ⊢
  have e1:=hkq w5 w6 h5 hG
  refine ⟨(World.cell?_of_block (a:=⟨q,2,none⟩) e1).trans hQ.cells.2.2.1,(World.frozen?_of_block (a:=⟨q,2,none⟩) e1).trans hQ.cells.2.2.2,?_⟩
  have:=hQ.ql
  have:=h5.size
  have:=hG.size
  omega
 ·rw [←hv] at hG hat
  have hl1:(selTo (fun j=>(Nn.getD j []).isEmpty) k ++ [(k:Int)]).length=(selTo (fun j=>(Nn.getD j []).isEmpty) k).length+1:=by rw [List.length_append];rfl
  have hP:=hQ.pushR (L:=selTo (fun j=>(Nn.getD j []).isEmpty) k ++ [(k:Int)]) (v:=v) (H:=w5.heap.size) h5 hG (by rw [hl1,mapI_snoc];exact h6) hat h5.size
  have hB6:Below w1.heap.size w1 w6:=⟨hG.os.trans (onB hB h5).os,hG.tape.trans (onB hB h5).tape,hG.output.trans (onB hB h5).output,Nat.le_trans (onB hB h5).size hG.size,fun b hb=>(hG.block b (Nat.lt_of_lt_of_le hb (onB hB h5).size) (fun e=>by have:=(own_blk hO e.symm).1;omega)).trans ((onB hB h5).block b hb)⟩
  refine ⟨M,UV,v,?_,hM,hB6.setCell hQ.lq _⟩
  have e:(fun j=>usrL Nn j (k+1))=fun j:Nat=>usrL Nn j k ++ (if (j:Int)∈([]:List Int).take 0 then [(k:Int)] else []):=by
   funext j
   rw [usr_succ,hT]
   simp
  have e2:selTo (fun j=>(Nn.getD j []).isEmpty) (k+1)=selTo (fun j=>(Nn.getD j []).isEmpty) k ++ [(k:Int)]:=by
   rw [selTo,hT]
   simp
  rw [e,e2]
  exact hP
end
set_option maxHeartbeats 16000000 in
theorem newq_any (qp g n:Nat) (D:Nat→Dm) (X:Nat→AL) (w:World) (hR:AllR D n) (hE:(allErr D n).2.2=0) (hA:PlanV w qp g n D X) :
  Calls Tryz.prog 87 #[.pointer (some ⟨qp,0,none⟩)] w fun e w' => ∃ q gM gU,e=.returned (.tuple #[.pointer (some ⟨q,0,none⟩),.nilIface])∧QMk w' q gM gU (prodN D n) (prodN D n) (rowsL D n) w:=by
 obtain ⟨i0,hi0,hz0,hz1,hz2⟩:=info_parts Tryz.infoInt
 obtain ⟨hn1,hn4,hp3,hd⟩:=allErr_some hE
 have HPl:Hid (∀ w',Below w.heap.size w w'→Calls Tryz.prog 88 #[.pointer (some ⟨qp,0,none⟩)] w' fun e w''=>e=.returned (.int .i64 (prodN D n:Nat))∧w''=w'):=fun w' hB=>places_same qp g n D X w' (hA.later hB)
 have HNd:Hid (∀ k w',k<prodN D n→Below w.heap.size w w'→Calls Tryz.prog 78 #[.pointer (some ⟨qp,0,none⟩),.int .i64 k] w' fun e w''=>(∃ A' c',e=.returned (.tuple #[.slice A' ((rowsL D n).getD k []).length c',.nilIface])∧IntT w'' A' c' ((rowsL D n).getD k [])∧∀ a,A'=some a→w'.heap.size≤a.block)∧Below w'.heap.size w' w''):=fun k w' hk hB=>by
  refine (pneeds_any qp g n D X k w' hR hE hk (hA.later hB)).mono ?_
  rintro e w'' ⟨⟨A',c',T,rfl,hI,hT,-,hA'⟩,hb⟩
  have hTe:T=(rowsL D n).getD k []:=by rw [told_eq hR hE hT,rows_at hk]
  rw [←hTe]
  exact ⟨⟨A',c',rfl,hI,hA'⟩,hb⟩
 have HRw:Hid (∀ k,k<prodN D n→((rowsL D n).getD k []).length≤12∧(∀ z∈(rowsL D n).getD k [],∃ y:Nat,z=(y:Int)∧y<prodN D n)∧((rowsL D n).getD k []).Pairwise (· < ·)):=fun k hk=>by
  have h:=rows_told hR hE hk
  refine ⟨h.2.1,fun z hz=>?_,h.1⟩
  have:=rows_inn hR hE k (by rw [rows_len];exact hk) z hz
  rw [rows_len] at this
  exact ⟨z.toNat,by omega,by omega⟩
 obtain ⟨Nn,hNn⟩:∃ Nn,rowsL D n=Nn:=⟨_,rfl⟩
 rw [hNn] at HNd HRw ⊢
 obtain ⟨N,hN⟩:∃ N,prodN D n=N:=⟨_,rfl⟩
 rw [hN] at HPl HNd HRw hp3 ⊢
 have hNI:(N:Int)≤3000:=by omega
 have hmkI:=run_make_row' (P:=Tryz.prog) 27 3 (.int .i64 0) 8 Tryz.underlying27 Tryz.infoInt rfl .i64 .i64 N (by omega) (by omega)
 have hmkR:=run_make_row' (P:=Tryz.prog) 70 27 (.slice none 0 0) 24 Tryz.underlying70 Tryz.infoRow rfl .i64 .i64 N (by omega) (by omega)
 have HQ0:=hid_of (qm_made w N).drew
 have HQ1:=hid_of (qm_made2 w N).drew
 clear hA hE hR hd hNn hN
 go_enter Tryz.func87,Tryz.ntmps87
 go_upto_region 1 with fail
 go_cut [4] from 10 (fun s4 wx => ∃ q gM gU,s4=.pointer (some ⟨q,0,none⟩)∧QM wx w.heap.size q gM gU N (fun _=>0) (fun _=>.slice none 0 0) (fun _=>[]) (.slice none 0 0) []∧Below w.heap.size w wx)
 case first =>
  go_region_law ((go_simp;refine (HPl.out _ (by go_grown)).mono ?_;rintro e w3 ⟨rfl,rfl⟩))
  all_goals go_wp2_with fail
  all_goals go_meet
  all_goals first
   | exact ⟨_,_,_,rfl,HQ0.out,by go_grown⟩
   | exact ⟨_,_,_,rfl,HQ1.out,by go_grown⟩
 case rest =>
 obtain ⟨q,gM,gU,rfl,hQ,hBc⟩:=hcut
 obtain ⟨w1,rfl⟩:∃ w1:World,w1=wc:=⟨_,rfl⟩
 have HK1:Hid (QMk w1 q gM gU N 0 Nn w):=by
  exact ⟨fun _=>0,fun _=>.slice none 0 0,.slice none 0 0,hQ,fun j hj=>absurd hj (Nat.not_lt_zero _),hBc⟩
 have hpl:=HPl.out w1 hBc
 clear hmkI hmkR HQ0 HQ1 hQ hBc
 go_wp2_with fail
 refine hpl.mono ?_
 rintro e w2 ⟨rfl,rfl⟩
 clear hpl
 go_wp2_with fail
 go_loopg [20] N (fun gg s20 wr => ∃ (k:Nat),k≤N∧gg=N-k∧s20=.int .i64 k∧Hid (QMk wr q gM gU N k Nn w))
 case atStart=>exact ⟨0,Nat.zero_le _,rfl,rfl,HK1⟩
 case round =>
  obtain ⟨k,hk,rfl,rfl,HK⟩:=hrel
  by_cases hlt:k<N
  ·have hki:(k:Int)<(N:Int):=by omega
   have HBr:Hid (Below w.heap.size w wr):=by obtain ⟨-,-,-,-,-,h⟩:=HK.out;exact h
   have hnd:=HNd.out k wr hlt HBr.out
   obtain ⟨h12,hin,hri⟩:=HRw.out k hlt
   have HIn:Hid (∀ z∈Nn.getD k [],∃ y:Nat,z=(y:Int)∧y<N):=hin
   have HRi:Hid ((Nn.getD k []).Pairwise (· < ·)):=hri
   obtain ⟨T,hT⟩:∃ T,Nn.getD k []=T:=⟨_,rfl⟩
   have HT:Hid (Nn.getD k []=T):=hT
   rw [hT] at hnd h12 HIn HRi
   obtain ⟨tl,htl⟩:∃ tl,T.length=tl:=⟨_,rfl⟩
   have HTl:Hid (T.length=tl):=htl
   rw [htl] at hnd h12
   have htI:(tl:Int)≤12:=by omega
   clear hin hri hT htl
   go_wp2_with fail
   refine hnd.mono ?_
   rintro e w3 ⟨⟨A2,c2,rfl,hI2,hA2⟩,hb2⟩
   have HI3:Hid (QMi (w3.setCell ⟨gM,k,none⟩ (.int .i64 (tl:Int))) q gM gU N k 0 Nn T A2 c2 w):=by
    have h:=HK.out.next hb2 HT.out hI2 hA2
    rw [HTl.out] at h
    exact h
   obtain ⟨m0,m1,mf,mq,mg⟩:w3.cell? ⟨q,0,none⟩=some (.slice (some ⟨gM,0,none⟩) N N)∧w3.cell? ⟨gM,k,none⟩≠none∧w3.frozen? ⟨gM,k,none⟩=false∧q<w3.heap.size∧gM<w3.heap.size:=by
    obtain ⟨M,UV,R,hQ,-,-⟩:=HK.out
    have hQ3:=hQ.later hb2
    exact ⟨hQ3.cells.1,by rw [hQ3.hM.cell hlt];simp,hQ3.hM.frozen k,hQ3.ql,hQ3.hM.lt⟩
   obtain ⟨mv,m1'⟩:=Option.ne_none_iff_exists'.1 m1
   clear hnd hI2 hA2 hb2 m1
   go_wp2_with fail
   clear m0 m1' mf mq mg
   go_loopg [42] tl (fun gg s42 wi => ∃ (i:Nat),i≤tl∧gg=tl-i∧s42=.int .i64 i∧Hid (QMi wi q gM gU N k i Nn T A2 c2 w))
   case atStart=>exact ⟨0,Nat.zero_le _,rfl,rfl,HI3⟩
   case round =>
    obtain ⟨i,hi,rfl,rfl,HQ⟩:=hrel
    by_cases hilt:i<tl
    ·have hii:(i:Int)<(tl:Int):=by omega
     have hiT:i<T.length:=by rw [HTl.out];exact hilt
     obtain ⟨y,hy,hyN⟩:=HIn.out _ (getD_memI hiT)
     have hyI:(y:Int)<(N:Int):=by omega
     obtain ⟨AO,ln,cO,Ly,cU,hln,hO,hRc,hFi⟩:=HQ.out.push HRi.out hiT hy hyN
     have HO:Hid (wr.ownsRow w.heap.size 3 1 (.slice AO ln cO) ln (mapI Ly)):=hO
     have HRch:=hid_of hRc
     have HFin:=hid_of hFi
     obtain ⟨c1,hql,hgl,hcT,hBs⟩:wr.cell? ⟨q,1,none⟩=some (.slice (some ⟨gU,0,none⟩) N N)∧q<wr.heap.size∧gU<wr.heap.size∧IntT wr A2 c2 T∧w.heap.size≤wr.heap.size:=by
      obtain ⟨M,UV,R,hQ,-,-,hI,hB⟩:=HQ.out
      exact ⟨hQ.cells.2.1,hQ.ql,hQ.hU.lt,hI,hB.size⟩
     obtain ⟨hcS,-,hS0 | ⟨bs,cs,fr,rfl,hbS,hcl⟩⟩:=hcT
     ·rw [hS0] at hiT;simp at hiT
     have cx:=hcl i hiT
     have hbs:bs<wr.heap.size:=(Array.getElem?_eq_some_iff.1 hbS).1
     rw [HTl.out] at hcS
     rw [hy] at cx
     have hcSI:(tl:Int)≤(c2:Int):=by omega
     have hlnI:ln≤3000:=by omega
     clear hcl hbS hO hRc hFi hy
     go_wp2_with fail
     go_region_law (refine step_append_lies _ (by rfl) _ _ _ (by rfl) w.heap.size 3 i0 _ 1 8 Tryz.underlying27 hi0 hz0 hz1 hz2 rfl (by omega) (.slice AO ln cO) ln (mapI Ly) (by rfl) (own_later HO.out (by go_grown)) ⟨wr.heap.size,0,none⟩ 1 1 [.int .i64 k] (by rfl) (by rfl) (World.news_of_block (cs := #[.int .i64 k]) (t:=3) (fr:=(0,0)) (by first | exact heap_alloc_new wr _ | exact heap_alloc_new wr.drew _)) (by simp [Value.oneCell']) (by omega) (by unfold maxLen;omega) (by omega) (by simp;omega) (wr.heap.size+1) (by simp) ?_;intro gg cg w6 hown6 hgrow hat hlt6;obtain ⟨y1,y2,y3,y4,y5⟩:=HRch.out _ _ (by go_grown) hgrow)
     all_goals (have HF6:=hid_of (HFin.out _ _ _ _ (by go_grown) hown6 hgrow hat))
     all_goals clear hown6 hgrow hat
     all_goals go_wp2_with fail
     all_goals go_roundg (tl-(i+1))
     all_goals first | omega | exact ⟨i+1,by omega,rfl,by go_num,HF6⟩ | exact ⟨i+1,by omega,rfl,by go_num,HF6.out.drew⟩
    ·have hie:i=tl:=by omega
     by_cases h0:tl=0
     ·have hT0:T=[]:=List.eq_nil_of_length_eq_zero (by rw [HTl.out];exact h0)
      have hQ0:QMi wr q gM gU N k 0 Nn [] A2 c2 w:=by
       have h:=HQ.out
       rw [hie,h0,hT0] at h
       exact h
      obtain ⟨AO,ln,cO,Ly,cR,hfR,hln,hO,hRc,hFi⟩:=hQ0.free (by rw [HT.out,hT0])
      have HO:Hid (wr.ownsRow w.heap.size 3 1 (.slice AO ln cO) ln (mapI Ly)):=hO
      have HRch:=hid_of hRc
      have HFin:=hid_of hFi
      obtain ⟨hql,hBs⟩:q<wr.heap.size∧w.heap.size≤wr.heap.size:=by
       obtain ⟨M,UV,R,hQ,-,-,-,hB⟩:=HQ.out
       exact ⟨hQ.ql,hB.size⟩
      have hlnI:ln≤3000:=by omega
      subst hie
      subst h0
      clear hO hRc hFi hQ0 hT0 HQ HI3
      go_wp2_with (at_builtin;refine wpList_append_own_at _ rfl _ _ 27 rfl w.heap.size 3 i0 (.int .i64 0) 1 8 Tryz.underlying27 hi0 hz0 hz1 hz2 rfl (by decide) _ _ _ rfl (HO.out.alloc _) ⟨wr.heap.size,0,none⟩ 1 1 [.int .i64 k] rfl rfl one_cell one_one (by unfold maxLen;omega) (by omega) (by simp;omega) ?_)
      intro v' w6 hown' hgrow _ hat
      obtain ⟨y1,y2,y3⟩:=HRch.out _ _ (by go_grown) hgrow
      obtain ⟨A',c',rfl⟩:∃ A' c',v'=.slice A' (ln+1) c':=by
       rcases hown'.2 with ⟨-,h⟩ | ⟨g',c',cur,h,-⟩
       ·omega
       ·exact ⟨_,_,h⟩
      have HF6:=hid_of (HFin.out _ _ _ (by go_grown) hown' hgrow (hat.imp id fun h=>by rw [h];simp))
      clear hown' hgrow hat
      go_wp2_with fail
      go_roundg (N-(k+1))
      case measure=>omega
      case rel=>exact ⟨k+1,by omega,rfl,by go_num,HF6⟩
     ·have h0':((tl:Int) == 0)=false:=by simpa using h0
      have HF6:Hid (QMk wr q gM gU N (k+1) Nn w):=by
       have h:=HQ.out
       rw [hie,←HTl.out] at h
       exact h.done HT.out (by rw [HTl.out];exact h0)
      subst hie
      clear HQ HI3
      go_wp2_with fail
      go_roundg (N-(k+1))
      case measure=>omega
      case rel=>exact ⟨k+1,by omega,rfl,by go_num,HF6⟩
  ·have hke:k=N:=by omega
   subst hke
   go_wp2_with fail
   go_returns
   exact ⟨q,gM,gU,rfl,HK.out⟩
end Go.Proofs.YtaodedckffjpgafGreatDoor
