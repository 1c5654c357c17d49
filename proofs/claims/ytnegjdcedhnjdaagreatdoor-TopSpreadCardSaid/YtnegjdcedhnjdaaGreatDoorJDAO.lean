/-
  A block of so many values; rows of one's own that stay while another one is written.
-/
import Derived.Shelf.Pu.Clone
import Derived.Shelf.Spec.SlicesInsertGrow
import Derived.Laws.OwnMore
import Derived.Test.YtnegjdcedhnjdaaGreatDoorJDAK
import Derived.Test.YtnegjdcedhnjdaaGreatDoorJDAL
import Derived.Test.YtnegjdcedhnjdaaGreatDoorJDAN
namespace Go.Proofs.YtnegjdcedhnjdaaGreatDoor
open Go.ChangeShapes Go.WideShapes Go.ChangeAt Go.RowKit
set_option maxRecDepth 20000
def ValB (w:World) (g n T:Nat) (f:Nat→Value):Prop:=w.heap[g]?=some (.cells ((List.range n).map f).toArray T (0,0))
theorem ValB.lt {w:World} {g n T:Nat} {f:Nat→Value} (h:ValB w g n T f):g<w.heap.size:=(Array.getElem?_eq_some_iff.1 h).1
theorem ValB.cell {w:World} {g n T:Nat} {f:Nat→Value} (h:ValB w g n T f) {j:Nat} (hj:j<n):w.cell? ⟨g,j,none⟩=some (f j):=by
 rw [Lib.cell_of_heap h]
 simp [hj]
theorem ValB.frozen {w:World} {g n T:Nat} {f:Nat→Value} (h:ValB w g n T f) (j:Nat):w.frozen? ⟨g,j,none⟩=false:=Lib.frozen_of_heap h j
theorem ValB.same {w w':World} {g n T:Nat} {f:Nat→Value} (h:ValB w g n T f) (hb:w'.heap[g]?=w.heap[g]?):ValB w' g n T f:=hb.trans h
theorem ValB.set {w:World} {g n T:Nat} {f f':Nat→Value} {v:Value} (h:ValB w g n T f) {m:Nat} (hf:∀ j,j<n→f' j=if j=m then v else f j):ValB (w.setCell ⟨g,m,none⟩ v) g n T f':=by
 unfold ValB at *
 simp only [World.setCell,Array.getElem?_modify,if_true,h,Option.map_some,Option.some.injEq,Obj.cells.injEq,and_true,Option.isSome_none,Bool.false_eq_true,if_false]
 apply Array.ext_getElem?
 intro j
 rw [Array.getElem?_setIfInBounds]
 by_cases hj:j<n
 ·by_cases e:m=j
  ·rw [if_pos e,if_pos (by simp;omega)]
   simp [hj,hf j hj,e]
  ·have e':j≠m:=fun x=>e x.symm
   rw [if_neg e]
   simp only [List.getElem?_toArray,List.getElem?_map,List.getElem?_range hj,Option.map_some,hf j hj,if_neg e']
 ·by_cases e:m=j
  ·rw [if_pos e,if_neg (by simp;omega),Array.getElem?_eq_none (by simp;omega)]
  ·rw [if_neg e,Array.getElem?_eq_none (by simp;omega),Array.getElem?_eq_none (by simp;omega)]
theorem ValB.made (w:World) (n T:Nat) (z:Value):ValB (w.alloc (.cells (madeCells #[z] n) T)) w.heap.size n T fun _=>z:=by
 unfold ValB
 have e:madeCells #[z] n=((List.range n).map fun _=>z).toArray:=by
  apply Array.ext
  ·simp [madeCells]
  ·intro i h1 h2
   simp [madeCells,Nat.mod_one]
 rw [e]
 exact heap_alloc_new w _
theorem ValB.off {w:World} {g n T b:Nat} {f:Nat→Value} {cs:Array Value} {t:Nat} {fr:Nat×Nat} (h:ValB w g n T f) (hb:w.heap[b]?=some (.cells cs t fr)) (ht:t≠T):b≠g:=fun e=>by
 rw [e,h] at hb
 simp only [Option.some.injEq,Obj.cells.injEq] at hb
 exact ht hb.2.1.symm
theorem row_ne_int':(3:Nat)≠26:=by decide
theorem own_grown {w w':World} {base e size n:Nat} {v:Value} {xs:List Value} {r:Option Nat} (h:w.ownsRow base e size v n xs) (hG:w.grownBy w' r) (hr:∀ b,v.ownBlock=some b→r≠some b):w'.ownsRow base e size v n xs:=by
 refine ⟨h.1,?_⟩
 rcases h.2 with h0 | ⟨g,cap,cur,rfl,h2,h3,h4⟩
 ·exact Or.inl h0
 ·exact Or.inr ⟨g,cap,cur,rfl,h2,(hG.block g (Array.getElem?_eq_some_iff.1 h3).1 (fun e=>hr g rfl e.symm)).trans h3,h4⟩
theorem own_blk {w:World} {base e size n b:Nat} {v:Value} {xs:List Value} (h:w.ownsRow base e size v n xs) (hb:v.ownBlock=some b):base≤b∧b<w.heap.size∧∃ cur,w.heap[b]?=some (.cells cur e (0,0)):=by
 rcases h.2 with ⟨rfl,-⟩ | ⟨g,cap,cur,rfl,h2,h3,h4⟩
 ·cases hb
 ·cases hb
  exact ⟨h2,(Array.getElem?_eq_some_iff.1 h3).1,cur,h3⟩
theorem own_setc {w:World} {base e size n g j:Nat} {v x:Value} {xs:List Value} (h:w.ownsRow base e size v n xs) (hg:v.ownBlock≠some g):(w.setCell ⟨g,j,none⟩ x).ownsRow base e size v n xs:=by
 refine ⟨h.1,?_⟩
 rcases h.2 with h0 | ⟨g',cap,cur,rfl,h2,h3,h4⟩
 ·exact Or.inl h0
 ·exact Or.inr ⟨g',cap,cur,rfl,h2,by rw [setCell_off _ _ _ _ _ (fun e=>hg (by rw [←e];rfl))];exact h3,h4⟩
theorem IntT.one {w w':World} {A:Option Addr} {c:Nat} {L:List Int} (h:IntT w A c L) (hb:∀ a,A=some a→w'.heap[a.block]?=w.heap[a.block]?):IntT w' A c L:=by
 obtain ⟨h1,h0,h2 | ⟨b,cs,fr,rfl,h3,h4⟩⟩:=h
 ·exact ⟨h1,h0,Or.inl h2⟩
 ·have e:=hb _ rfl
  exact ⟨h1,h0,Or.inr ⟨b,cs,fr,rfl,e.trans h3,fun j hj=>(World.cell?_of_block (a:=⟨b,j,none⟩) e).trans (h4 j hj)⟩⟩
theorem Tryz.infoIntF:(Tryz.prog.info? 3).map (fun i=>(i.zero,i.size,i.bytes))=some (some (.int .i64 0),1,8):=by kernel_rfl
theorem Tryz.infoNdF:(Tryz.prog.info? 196).map (fun i=>(i.zero,i.size,i.bytes))=some (some (.agg #[.int .i64 0,.int .i64 0,.string ⟨#[]⟩,.int .i64 0,.int .i64 0]),5,48):=by kernel_rfl
def ndV (x:Nd):Value:=.agg #[.int .i64 x.op,.int .i64 x.n,.string x.name,.int .i64 x.left,.int .i64 x.right]
theorem BldV.reach {N p cN cR cW:Nat} {AN AR AW:Option Addr} {b:Bld} {w W w2:World} {row:Option Nat} (h:BldV N p AN cN AR cR AW cW b w) (hb:Below w.heap.size w W) (hg:W.grownBy w2 row) (hr:∀ g,row=some g→N≤g):w2.heap[p]?=w.heap[p]?:=by
 have hlt:=h.lt
 have hlow:=h.low
 exact (hg.block p (Nat.lt_of_lt_of_le hlt hb.size) (fun e=>by have:=hr p e.symm;omega)).trans (hb.block p hlt)
theorem topF1 (w:World) (o o':Obj):((w.alloc o).alloc o').heap[w.heap.size+1]?=some o':=by
 have h:=heap_alloc_new (w.alloc o) o'
 simpa using h
theorem topF1d (w:World) (o o':Obj):((w.alloc o).alloc o').drew.heap[w.heap.size+1]?=some o':=topF1 w o o'
theorem topF0 (w:World) (o o':Obj):((w.alloc o).alloc o').heap[w.heap.size]?=some o:=by
 rw [heap_alloc_old _ _ (by simp)]
 exact heap_alloc_new w o
theorem topF0d (w:World) (o o':Obj):((w.alloc o).alloc o').drew.heap[w.heap.size]?=some o:=topF0 w o o'
theorem topFd (w:World) (o:Obj):(w.alloc o).drew.heap[w.heap.size]?=some o:=heap_alloc_new w o
set_option maxHeartbeats 4000000 in
theorem add_any (N p:Nat) (b:Bld) (x:Nd) (w:World) (hN:N≤w.heap.size) (h1:b.nodes.length≤200) (h2:b.ready.length≤200) (hB:BldAt N p b w) :
  Calls Tryz.prog 198 #[.pointer (some ⟨p,0,none⟩),ndV x] w fun e w'=>e=.returned (.tuple #[])∧BldAt N p (addB x b) w'∧Kept N (fun k=>k=p) w w':=by
 obtain ⟨AN,cN,AR,cR,AW,cW,hV⟩:=hB
 obtain ⟨i0,hi0,hz0,hz1,hz2⟩:=info_parts Tryz.infoIntF
 obtain ⟨i1,hj0,hj1,hj2,hj3⟩:=info_parts Tryz.infoNdF
 unfold ndV
 have c0:=hV.c0
 have c1:=hV.c1
 have f0:=hV.fr 0
 have f1:=hV.fr 1
 have hlt:=hV.lt
 have HV:Hid (BldV N p AN cN AR cR AW cW b w):=hV
 obtain ⟨m,hm⟩:∃ m,b.nodes.length=m:=⟨_,rfl⟩
 obtain ⟨k,hk⟩:∃ k,b.ready.length=k:=⟨_,rfl⟩
 have HO:Hid (∀ w',Below w.heap.size w w'→w'.ownsRow N 3 1 (.slice AR k cR) k (mapI b.ready)):=fun w' hb=>by have:=(hV.later hb).rdy;rw [hk] at this;exact this
 have HRch:Hid (∀ (W w2:World),Below w.heap.size w W→W.grownBy w2 (Value.slice AR k cR).ownBlock→w2.cell? ⟨p,1,none⟩=some (.slice AR k cR)∧w2.frozen? ⟨p,1,none⟩=false):=by
  intro W w2 hb hg
  have h:=hV.reach hb hg (fun g e=>(own_block hV.rdy (by rw [hk];exact e)).1)
  have hh:=h.trans hV.blk
  exact ⟨by simp [World.cell?,hh,hk],by simp [World.frozen?,hh]⟩
 have HSt:Hid (∀ (W w6:World) (gg cg:Nat),Below w.heap.size w W→W.heap.size=w.heap.size+2→W.heap[w.heap.size]?=some (.cells #[.int .i64 x.op,.int .i64 x.n,.string x.name,.int .i64 x.left,.int .i64 x.right] 196 (0,0))→W.grownBy w6 (Value.slice AR k cR).ownBlock→w6.ownsRow N 3 1 (.slice (some ⟨gg,0,none⟩) (k+1) cg) (k+1) (mapI b.ready ++ [.int .i64 m])→((Value.slice AR k cR).ownBlock=some gg∨gg=w.heap.size+2) →
   BldV N p AN cN (some ⟨gg,0,none⟩) cg AW cW ⟨b.nodes,b.ready ++ [(m:Int)],b.waiting⟩ (w6.setCell ⟨p,1,none⟩ (.slice (some ⟨gg,0,none⟩) (k+1) cg))∧Kept N (fun k=>k=p) w (w6.setCell ⟨p,1,none⟩ (.slice (some ⟨gg,0,none⟩) (k+1) cg))∧(w6.setCell ⟨p,1,none⟩ (.slice (some ⟨gg,0,none⟩) (k+1) cg)).heap[w.heap.size]?=some (.cells #[.int .i64 x.op,.int .i64 x.n,.string x.name,.int .i64 x.left,.int .i64 x.right] 196 (0,0))):=by
  intro W w6 gg cg hb hz hbox hg ho hat
  have hL:(b.ready ++ [(m:Int)]).length=k+1:=by simp [hk]
  have h:=hV.ready (L:=b.ready ++ [(m:Int)]) (g:=gg) (c:=cg) (w2:=w6) hN hb (by rw [hk];exact hg) (by rw [hL,mapI_snoc];exact ho) (by rw [hk,hz];exact hat)
  rw [hL] at h
  refine ⟨h.1,h.2,?_⟩
  rw [setCell_off _ _ _ _ _ (by omega),hg.block w.heap.size (by omega) (fun e=>by have:=(own_block hV.rdy (by rw [hk];exact e.symm)).2.1;omega)]
  exact hbox
 rw [hm] at c0
 rw [hk] at c1
 have hkm:(k:Int)≤200:=by omega
 clear hV
 go_enter Tryz.func198,Tryz.ntmps198
 go_wp2_with fail
 go_cut [] from 4 (fun wx => ∃ A c,BldV N p AN cN A c AW cW ⟨b.nodes,b.ready ++ [(m:Int)],b.waiting⟩ wx∧Kept N (fun k=>k=p) w wx∧wx.heap[w.heap.size]?=some (.cells #[.int .i64 x.op,.int .i64 x.n,.string x.name,.int .i64 x.left,.int .i64 x.right] 196 (0,0)))
 case first =>
  go_region_law (refine step_append_lies _ (by rfl) _ _ _ (by rfl) N 3 i0 _ 1 8 Tryz.underlying26 hi0 hz0 hz1 hz2 rfl (by omega) (.slice AR k cR) k (mapI b.ready) (by rfl) (HO.out _ (by go_grown)) ⟨w.heap.size+1,0,none⟩ 1 1 [.int .i64 m] (by rfl) (by rfl) (World.news_of_block (cs := #[.int .i64 m]) (t:=3) (fr:=(0,0)) (topF1d w _ _)) (by simp [Value.oneCell']) (by omega) (by unfold maxLen;omega) (by omega) (by simp;omega) (w.heap.size+2) (by simp) ?_;intro gg cg w6 hown6 hgrow hat hlt6;obtain ⟨y1,y2⟩:=HRch.out _ _ (by go_grown) hgrow)
  all_goals (have HS:=HSt.out _ _ _ _ (by go_grown) (by simp) (topF0d w _ _) hgrow hown6 hat)
  all_goals clear hgrow hown6 hat
  all_goals (go_wp2_with fail;go_meet;exact ⟨_,_,HS⟩)
 case rest =>
  obtain ⟨A1,c1',hV1,hK1,hbox⟩:=hcut
  obtain ⟨wx,rfl⟩:∃ wx:World,wx=wc:=⟨_,rfl⟩
  have d0:=hV1.c0
  have g0:=hV1.fr 0
  have hlt1:=hV1.lt
  have hsz1:=hK1.size
  have HV1:Hid (BldV N p AN cN A1 c1' AW cW ⟨b.nodes,b.ready ++ [(m:Int)],b.waiting⟩ wx):=hV1
  have HK1:Hid (Kept N (fun k=>k=p) w wx):=hK1
  have hbs:w.heap.size<wx.heap.size:=(Array.getElem?_eq_some_iff.1 hbox).1
  have b0:wx.cell? ⟨w.heap.size,0,none⟩=some (.int .i64 x.op):=by simp [World.cell?,hbox]
  have b1:wx.cell? ⟨w.heap.size,1,none⟩=some (.int .i64 x.n):=by simp [World.cell?,hbox]
  have b2:wx.cell? ⟨w.heap.size,2,none⟩=some (.string x.name):=by simp [World.cell?,hbox]
  have b3:wx.cell? ⟨w.heap.size,3,none⟩=some (.int .i64 x.left):=by simp [World.cell?,hbox]
  have b4:wx.cell? ⟨w.heap.size,4,none⟩=some (.int .i64 x.right):=by simp [World.cell?,hbox]
  rw [hm] at d0
  have HO1:Hid (∀ w',Below wx.heap.size wx w'→w'.ownsRow N 196 5 (.slice AN m cN) m (cellsN b.nodes)):=fun w' hb=>by have:=(hV1.later hb).nod;rw [hm] at this;exact this
  have HRch1:Hid (∀ (W w2:World),Below wx.heap.size wx W→W.grownBy w2 (Value.slice AN m cN).ownBlock→w2.cell? ⟨p,0,none⟩=some (.slice AN m cN)∧w2.frozen? ⟨p,0,none⟩=false):=by
   intro W w2 hb hg
   have h:=hV1.reach hb hg (fun g e=>(own_block hV1.nod (by rw [hm];exact e)).1)
   have hh:=h.trans hV1.blk
   exact ⟨by simp [World.cell?,hh,hm],by simp [World.frozen?,hh]⟩
  have HSt1:Hid (∀ (W w6:World) (gg cg:Nat),Below wx.heap.size wx W→W.grownBy w6 (Value.slice AN m cN).ownBlock→w6.ownsRow N 196 5 (.slice (some ⟨gg,0,none⟩) (m+1) cg) (m+1) (cellsN b.nodes ++ [.int .i64 x.op,.int .i64 x.n,.string x.name,.int .i64 x.left,.int .i64 x.right]) →
    BldAt N p (addB x b) (w6.setCell ⟨p,0,none⟩ (.slice (some ⟨gg,0,none⟩) (m+1) cg))∧Kept N (fun k=>k=p) w (w6.setCell ⟨p,0,none⟩ (.slice (some ⟨gg,0,none⟩) (m+1) cg))):=by
   intro W w6 gg cg hb hg ho
   have hL:(b.nodes ++ [x]).length=m+1:=by simp [hm]
   have h:=hV1.node (L:=b.nodes ++ [x]) (g:=gg) (c:=cg) (w2:=w6) (by omega) hb (by rw [hm];exact hg) (by rw [hL,cellsN_snoc];exact ho)
   rw [hL] at h
   refine ⟨?_,HK1.out.trans h.2⟩
   have h1:=h.1
   rw [←hm] at h1 ⊢
   exact ⟨_,_,_,_,_,_,h1⟩
  clear hV1 hK1 HV HO HRch HSt
  go_wp2_with fail
  go_region_law (refine step_append_lies _ (by rfl) _ _ _ (by rfl) N 196 i1 _ 5 48 Tryz.underlying118 hj0 hj1 hj2 hj3 rfl (by omega) (.slice AN m cN) m (cellsN b.nodes) (by rfl) (HO1.out _ (by go_grown)) ⟨wx.heap.size,0,none⟩ 1 1 [.int .i64 x.op,.int .i64 x.n,.string x.name,.int .i64 x.left,.int .i64 x.right] (by rfl) (by rfl) (World.news_of_block (cs := #[.int .i64 x.op,.int .i64 x.n,.string x.name,.int .i64 x.left,.int .i64 x.right]) (t:=196) (fr:=(0,0)) (topFd wx _)) (by simp [Value.oneCell']) (by omega) (by unfold maxLen;omega) (by omega) (by simp;omega) (wx.heap.size+1) (by simp) ?_;intro gg cg w6 hown6 hgrow hat hlt6;obtain ⟨y1,y2⟩:=HRch1.out _ _ (by go_grown) hgrow)
  all_goals (have HS:=HSt1.out _ _ _ _ (by go_grown) hgrow hown6)
  all_goals clear hgrow hown6 hat
  all_goals (go_wp2_with fail;go_end0;exact ⟨rfl,HS⟩)
set_option maxHeartbeats 4000000 in
theorem join_any (N p:Nat) (b:Bld) (op:Int) (w:World) (hN:N≤w.heap.size) (h1:b.nodes.length≤200) (h2:b.ready.length≤200) (h3:2≤b.ready.length) (hB:BldAt N p b w) :
  Calls Tryz.prog 214 #[.pointer (some ⟨p,0,none⟩),.int .i64 op] w fun e w'=>e=.returned (.tuple #[])∧BldAt N p (joinBd op b) w'∧Kept N (fun k=>k=p) w w':=by
 obtain ⟨AN,cN,AR,cR,AW,cW,hV⟩:=hB
 obtain ⟨k,hk⟩:∃ k,b.ready.length=k+2:=⟨b.ready.length-2,by omega⟩
 obtain ⟨g,hA,e0⟩:=own_int (k:=k) hV.rdy (by omega)
 obtain ⟨g',hA',e1⟩:=own_int (k:=k+1) hV.rdy (by omega)
 rw [hA] at hA'
 simp only [Option.some.injEq,Addr.mk.injEq] at hA'
 obtain ⟨rfl,-⟩:=hA'
 subst hA
 have c1:=hV.c1
 have f1:=hV.fr 1
 have hlt:=hV.lt
 rw [hk] at c1
 have hcap:k+2≤cR:=by
  rcases hV.rdy.2 with ⟨h0,_⟩ | ⟨g,cap,cur,h0,_,_,h4,_⟩
  ·cases h0
  ·cases h0;omega
 have hj:joinBd op b=addB ⟨op,0,⟨#[]⟩,b.ready.getD k 0,b.ready.getD (k+1) 0⟩ ⟨b.nodes,b.ready.take k,b.waiting⟩:=by
  unfold joinBd
  rw [show b.ready.length-2=k by omega]
 rw [hj]
 have HC:Hid (∀ w',Below w.heap.size w w'→BldAt N p ⟨b.nodes,b.ready.take k,b.waiting⟩ (w'.setCell ⟨p,1,none⟩ (.slice (some ⟨g,0,none⟩) k cR))∧Kept N (fun k=>k=p) w (w'.setCell ⟨p,1,none⟩ (.slice (some ⟨g,0,none⟩) k cR))∧N≤(w'.setCell ⟨p,1,none⟩ (.slice (some ⟨g,0,none⟩) k cR)).heap.size):=by
  intro w' hb
  obtain ⟨h4,h5⟩:=(hV.later hb).readyCut (k:=k) (Nat.le_trans hN hb.size) (by omega)
  have h6:=(kept_below hb hN).trans h5
  exact ⟨⟨_,_,_,_,_,_,h4⟩,h6,Nat.le_trans hN h6.size⟩
 have hki:(k:Int)≤200:=by omega
 have hci:(k:Int)+2≤(cR:Int):=by omega
 have hgl:g<w.heap.size:=(own_block (g:=g) hV.rdy rfl).2.1
 generalize b.ready.getD k 0=x at *
 generalize b.ready.getD (k+1) 0=y at *
 clear hV hj
 go_enter Tryz.func214,Tryz.ntmps214
 go_wp2_with fail
 go_quiet (fail)
 go_wp2_with fail
 obtain ⟨q1,q2,q3⟩:=HC.out (w.drewN nq) (below_drewN (Below.refl _ _) nq)
 refine (add_any N p ⟨b.nodes,b.ready.take k,b.waiting⟩ ⟨op,0,⟨#[]⟩,x,y⟩ _ q3 h1 (by simp;omega) q1).mono ?_
 rintro e w2 ⟨rfl,q4,q5⟩
 have HK:Hid (Kept N (fun k=>k=p) w w2):=q2.trans q5
 have HB:Hid (BldAt N p (addB ⟨op,0,⟨#[]⟩,x,y⟩ ⟨b.nodes,b.ready.take k,b.waiting⟩) w2):=q4
 clear q1 q2 q3 q4 q5 HC
 go_wp2_with fail
 first | go_end0 | refine bodyPost_ret (results_none rfl _ _ _) rfl ?_
 exact ⟨rfl,HB.out,HK.out⟩
theorem join_len {op:Int} {b:Bld} (h:2≤b.ready.length):(joinBd op b).nodes.length=b.nodes.length+1∧(joinBd op b).ready.length+1=b.ready.length∧(joinBd op b).waiting=b.waiting:=by
 refine ⟨by simp [joinBd,addB],?_,rfl⟩
 simp [joinBd,addB]
 omega
theorem ops_last {l:List Int} {k:Nat} (h:l.length=k+1):opsN l=opsN (l.take k)+(if l.getD k 0≠0 then 1 else 0)∧zerosN l=zerosN (l.take k)+(if l.getD k 0=0 then 1 else 0):=by
 have hl:l=l.take k ++ [l.getD k 0]:=by
  have h1:l.getD k 0=l[k]'(by omega):=by simp [List.getD,List.getElem?_eq_getElem (show k<l.length by omega)]
  rw [h1]
  conv=>lhs;rw [←List.take_append_drop k l]
  congr 1
  rw [List.drop_eq_getElem_cons (by omega),List.drop_eq_nil_of_le (by omega)]
 constructor
 ·conv=>lhs;rw [hl]
  unfold opsN
  rw [List.countP_append]
  by_cases e:l.getD k 0=0 <;> simp
 ·conv=>lhs;rw [hl]
  unfold zerosN
  rw [List.countP_append]
  by_cases e:l.getD k 0=0 <;> simp
theorem settle_stop {least:Int} {b:Bld} {k:Nat} (h:b.waiting.getD k 0=0∨bindN (b.waiting.getD k 0)<least):settleTo least (k+1) b=b:=by rw [settleTo,if_pos h]
theorem settle_on {least:Int} {b:Bld} {k:Nat} (h : ¬ (b.waiting.getD k 0=0∨bindN (b.waiting.getD k 0)<least)):settleTo least (k+1) b=settleTo least k (joinBd (b.waiting.getD k 0) ⟨b.nodes,b.ready,b.waiting.take k⟩):=by rw [settleTo,if_neg h]
set_option maxHeartbeats 4000000 in
theorem settle_any (N p:Nat) (b:Bld) (least:Int) (w:World) (hN:N≤w.heap.size) (h1:b.nodes.length+opsN b.waiting≤200) (h2:b.ready.length≤200) (h3:opsN b.waiting+1≤b.ready.length) (h4:b.waiting.length≤200) (hB:BldAt N p b w) :
  Calls Tryz.prog 195 #[.pointer (some ⟨p,0,none⟩),.int .i64 least] w fun e w'=>e=.returned (.tuple #[])∧BldAt N p (settleB least b) w'∧Kept N (fun k=>k=p) w w':=by
 obtain ⟨AN,cN,AR,cR,AW,cW,hV⟩:=hB
 have c2:=hV.c2
 have hlt:=hV.lt
 have HV:Hid (BldV N p AN cN AR cR AW cW b w):=hV
 obtain ⟨n0,hn0⟩:∃ n,b.waiting.length=n:=⟨_,rfl⟩
 rw [hn0] at c2
 have hni:(n0:Int)≤200:=by omega
 unfold settleB
 have HN0:Hid (b.waiting.length=n0):=hn0
 rw [hn0]
 clear hV hn0
 go_enter Tryz.func195,Tryz.ntmps195
 go_wp2_with fail
 go_loopg [4] n0 (fun g s4 wr => ∃ (b':Bld),b'.waiting.length=g∧s4=.int .i64 ((g:Int)-1)∧settleTo least g b'=settleTo least n0 b∧g≤n0∧b'.nodes.length+opsN b'.waiting≤200∧b'.ready.length≤200∧opsN b'.waiting+1≤b'.ready.length∧BldAt N p b' wr∧Kept N (fun k=>k=p) w wr)
 case atStart=>exact ⟨b,HN0.out,rfl,rfl,Nat.le_refl _,h1,h2,h3,⟨_,_,_,_,_,_,HV.out⟩,Kept.refl _ _ _⟩
 case round =>
  obtain ⟨b',hg,rfl,hst,hgn,k1,k2,k3,⟨AN',cN',AR',cR',AW',cW',hV'⟩,hK⟩:=hrel
  have HV':Hid (BldV N p AN' cN' AR' cR' AW' cW' b' wr):=hV'
  have HK:Hid (Kept N (fun k=>k=p) w wr):=hK
  have HST:Hid (settleTo least gk b'=settleTo least n0 b):=hst
  have d2:=hV'.c2
  have df:=hV'.fr 2
  have hroom:N≤wr.heap.size:=Nat.le_trans hN hK.size
  cases gk with
  | zero =>
   have HE:Hid (b'=settleTo least n0 b):=hst
   clear hV' hK hst
   go_wp2_with fail
   first | go_end0 | refine bodyPost_ret (results_none rfl _ _ _) rfl ?_
   exact ⟨rfl,by rw [←HE.out];exact ⟨_,_,_,_,_,_,HV'.out⟩,HK.out⟩
  | succ k =>
   obtain ⟨ho1,-⟩:=ops_last hg
   obtain ⟨g,hA,e0⟩:=own_int (k:=k) hV'.wai (by omega)
   subst hA
   have hgl:g<wr.heap.size:=(own_block (g:=g) hV'.wai rfl).2.1
   have hcap:k+1≤cW':=by
    rcases hV'.wai.2 with ⟨h0,_⟩ | ⟨g,cap,cur,h0,_,_,h5,_⟩
    ·cases h0
    ·cases h0;omega
   rw [hg] at d2
   have hki:(k:Int)≤200:=by omega
   have hci:(k:Int)+1≤(cW':Int):=by omega
   have hsub:((k+1:Nat):Int)-1=(k:Int):=by omega
   obtain ⟨op,hop⟩:∃ op,b'.waiting.getD k 0=op:=⟨_,rfl⟩
   rw [hop] at e0 ho1
   have HG:Hid (b'.waiting.length=k+1):=hg
   have hbi:=binds_any op
   rw [hsub]
   clear hV' hK hst hg
   by_cases hop0:op=0
   ·have HE:Hid (b'=settleTo least n0 b):=by show _=_;rw [←HST.out];exact (settle_stop (Or.inl (by rw [hop];exact hop0))).symm
    subst hop0
    clear hbi
    go_wp2_with fail
    first | go_end0 | refine bodyPost_ret (results_none rfl _ _ _) rfl ?_
    exact ⟨rfl,by rw [←HE.out];exact ⟨_,_,_,_,_,_,HV'.out⟩,HK.out⟩
   ·have hopb:(op == 0)=false:=by simpa using hop0
    by_cases hlb:bindN op<least
    ·have HE:Hid (b'=settleTo least n0 b):=by show _=_;rw [←HST.out];exact (settle_stop (Or.inr (by rw [hop];exact hlb))).symm
     generalize bindN op=bn at *
     clear hop
     go_wp2_with fail
     refine (hbi _).mono ?_
     rintro e w1 ⟨rfl,hb1⟩
     have HV1:Hid (BldV N p AN' cN' AR' cR' (some ⟨g,0,none⟩) cW' b' w1):=HV'.out.later hb1
     have HK1:Hid (Kept N (fun k=>k=p) w w1):=HK.out.trans (kept_below hb1 hroom)
     clear hb1
     go_wp2_with fail
     first | go_end0 | refine bodyPost_ret (results_none rfl _ _ _) rfl ?_
     exact ⟨rfl,by rw [←HE.out];exact ⟨_,_,_,_,_,_,HV1.out⟩,HK1.out⟩
    ·have HE:Hid (settleTo least k (joinBd op ⟨b'.nodes,b'.ready,b'.waiting.take k⟩)=settleTo least n0 b):=by
      show _=_
      rw [←HST.out,settle_on (by rw [hop];omega),hop]
     rw [if_pos hop0] at ho1
     have hlb':least≤bindN op:=by omega
     generalize bindN op=bn at *
     clear hop hlb
     go_wp2_with fail
     refine (hbi _).mono ?_
     rintro e w1 ⟨rfl,hb1⟩
     have HV1:Hid (BldV N p AN' cN' AR' cR' (some ⟨g,0,none⟩) cW' b' w1):=HV'.out.later hb1
     have HK1:Hid (Kept N (fun k=>k=p) w w1):=HK.out.trans (kept_below hb1 hroom)
     have x2:=HV1.out.c2
     have xf:=HV1.out.fr 2
     rw [HG.out] at x2
     have hroom1:N≤w1.heap.size:=Nat.le_trans hroom hb1.size
     obtain ⟨y1,y2⟩:=HV1.out.waitCut (k:=k) hroom1 (by have:=HG.out;omega)
     have HY:Hid (BldAt N p ⟨b'.nodes,b'.ready,b'.waiting.take k⟩ (w1.setCell ⟨p,2,none⟩ (.slice (some ⟨g,0,none⟩) k cW'))∧Kept N (fun k=>k=p) w1 (w1.setCell ⟨p,2,none⟩ (.slice (some ⟨g,0,none⟩) k cW'))):=⟨⟨_,_,_,_,_,_,y1⟩,y2⟩
     clear hb1 hbi y1 y2
     go_wp2_with fail
     refine (join_any N p ⟨b'.nodes,b'.ready,b'.waiting.take k⟩ op _ (Nat.le_trans hroom1 HY.out.2.size) (by show b'.nodes.length≤200;omega) k2 (by show 2≤b'.ready.length;omega) HY.out.1).mono ?_
     rintro e w2 ⟨rfl,q4,q5⟩
     have HK2:Hid (Kept N (fun k=>k=p) w w2):=(HK1.out.trans HY.out.2).trans q5
     have HB2:Hid (BldAt N p (joinBd op ⟨b'.nodes,b'.ready,b'.waiting.take k⟩) w2):=q4
     obtain ⟨l1,l2,l3⟩:=join_len (op:=op) (b:=⟨b'.nodes,b'.ready,b'.waiting.take k⟩) (by show 2≤b'.ready.length;omega)
     have HL:Hid ((joinBd op ⟨b'.nodes,b'.ready,b'.waiting.take k⟩).nodes.length=b'.nodes.length+1∧(joinBd op ⟨b'.nodes,b'.ready,b'.waiting.take k⟩).ready.length+1=b'.ready.length∧(joinBd op ⟨b'.nodes,b'.ready,b'.waiting.take k⟩).waiting=b'.waiting.take k):=⟨l1,l2,l3⟩
     clear q4 q5 l1 l2 l3
     go_wp2_with fail
     go_roundg k
     case measure=>omega
     case rel =>
      obtain ⟨l1,l2,l3⟩:=HL.out
      refine ⟨_,?_,by go_num,HE.out,by omega,?_,?_,?_,HB2.out,HK2.out⟩
      ·rw [l3,List.length_take,HG.out];omega
      ·rw [l3,l1];omega
      ·omega
      ·rw [l3];omega
end Go.Proofs.YtnegjdcedhnjdaaGreatDoor
namespace Go.Proofs
open Go.Shelf
def Tryz.laysK_ren:Go.Shelf.Ren:=⟨fun | 25=>202 | n=>n,fun | 0=>0 | 3=>3 | 4=>4 | 5=>5 | 9=>9 | 37=>207 | 47=>253 | n=>n,fun | n=>n⟩
theorem Tryz.laysK:Go.Proofs.LaysPu.n25 Tryz.prog Tryz.laysK_ren:={
 mixed:=by kernel_rfl
 f25:=Tryz.func202.trans (congrArg some (by kernel_rfl))
 t0:=Tryz.underlying0
 a0:=Tryz.isAgg0
 z0:=Tryz.sizeOf0
 v0:=Tryz.zeroValue0
 i0:=by kernel_rfl
 t3:=Tryz.underlying3
 a3:=Tryz.isAgg3
 z3:=Tryz.sizeOf3
 v3:=Tryz.zeroValue3
 i3:=by kernel_rfl
 t4:=Tryz.underlying4
 a4:=Tryz.isAgg4
 z4:=Tryz.sizeOf4
 v4:=Tryz.zeroValue4
 i4:=by kernel_rfl
 t5:=Tryz.underlying5
 a5:=Tryz.isAgg5
 z5:=Tryz.sizeOf5
 v5:=Tryz.zeroValue5
 i5:=by kernel_rfl
 t9:=Tryz.underlying9
 a9:=Tryz.isAgg9
 z9:=Tryz.sizeOf9
 v9:=Tryz.zeroValue9
 i9:=by kernel_rfl
 t37:=Tryz.underlying207
 a37:=Tryz.isAgg207
 z37:=Tryz.sizeOf207
 v37:=Tryz.zeroValue207
 i37:=by kernel_rfl
 t47:=Tryz.underlying253
 a47:=Tryz.isAgg253
 z47:=Tryz.sizeOf253
 v47:=Tryz.zeroValue253
 i47:=by kernel_rfl }
namespace YtnegjdcedhnjdaaGreatDoor
open Go.ChangeShapes Go.WideShapes Go.ChangeAt Go.RowKit
theorem sclone_any (s:ByteArray) (w:World) (hs:s.size≤281474976710656):Calls Tryz.prog 170 #[.string s] w fun e w'=>e=.returned (.string s)∧Below w.heap.size w w':=by
 have h:=AnyPu.stringslite_Clone Tryz.laysK s w hs
 go_enter Tryz.func170,Tryz.ntmps170
 go_wp2_with fail
 refine Calls.mono h ?_
 rintro e w1 ⟨rfl,hb1⟩
 go_wp2_with fail
 go_ret
 exact ⟨rfl,hb1⟩
end YtnegjdcedhnjdaaGreatDoor
end Go.Proofs
namespace Go.Proofs.YtnegjdcedhnjdaaGreatDoor
open Go Go.ChangeShapes Go.WideShapes Go.ChangeAt Go.RowKit
set_option maxRecDepth 20000
theorem take_join {α:Type} {a b:List α} {k:Nat} (h:a.length=k):(a ++ b).take k=a:=by subst h;simp
theorem drop_join {α:Type} {a b:List α} {k:Nat} (h:a.length=k):(a ++ b).drop k=b:=by subst h;simp
theorem head_cells {C:List Value} {xs:List EnL} (hC:C.take (xs.length*2)=cellsE xs) {i:Nat} (hi:i≤xs.length):C.take (i*2)=cellsE (xs.take i):=by
 rw [←cellsE_take,←hC,List.take_take,Nat.min_eq_left (by omega)]
theorem ins_cells {C C1 C2:List Value} {xs:List EnL} {x:EnL} {i:Nat} (hC:C.take (xs.length*2)=cellsE xs) (hlen:(xs.length+1)*2≤C.length) (hi:i≤xs.length)
  (h1:C1=C.take ((i+1)*2) ++ cellsE (xs.drop i) ++ C.drop ((i+1)*2+(cellsE (xs.drop i)).length)) (h2:C2=C1.take (i*2) ++ cellsE [x] ++ C1.drop (i*2+(cellsE [x]).length)) :
  C2.length=C.length∧C2.take ((xs.take i ++ x :: xs.drop i).length*2)=cellsE (xs.take i ++ x :: xs.drop i):=by
 have hd:(cellsE (xs.drop i)).length=(xs.length-i)*2:=by rw [cellsE_len,List.length_drop]
 have hx:(cellsE [x]).length=2:=by rw [cellsE_len];rfl
 have e1:C1.take (i*2)=cellsE (xs.take i):=by
  rw [h1,List.append_assoc,List.take_append_of_le_length (by rw [List.length_take];omega),List.take_take,Nat.min_eq_left (by omega)]
  exact head_cells hC hi
 have e2:C1.drop (i*2+(cellsE [x]).length)=cellsE (xs.drop i) ++ C.drop ((i+1)*2+(cellsE (xs.drop i)).length):=by
  rw [h1,List.append_assoc,hx]
  exact drop_join (by rw [List.length_take];omega)
 rw [h2,e1,e2]
 refine ⟨?_,?_⟩
 ·simp only [List.length_append,cellsE_len,List.length_take,List.length_drop,List.length_cons,List.length_nil]
  omega
 ·have hl:(xs.take i ++ x :: xs.drop i).length=xs.length+1:=by simp;omega
  rw [hl,←List.append_assoc]
  rw [show cellsE (xs.take i ++ x :: xs.drop i)=cellsE (xs.take i) ++ cellsE [x] ++ cellsE (xs.drop i) by rw [show x :: xs.drop i=[x] ++ xs.drop i from rfl,cellsE_append,cellsE_append,List.append_assoc]]
  exact take_join (by simp only [List.length_append,cellsE_len,List.length_take,List.length_drop,List.length_cons,List.length_nil];omega)
theorem grow_cells {C C1 C2:List Value} {xs:List EnL} {x:EnL} {i:Nat} (hC:C.take (i*2)=cellsE (xs.take i)) (hlen:(xs.length+1)*2≤C.length) (hi:i≤xs.length)
  (h1:C1=C.take (i*2) ++ cellsE [x] ++ C.drop (i*2+(cellsE [x]).length)) (h2:C2=C1.take ((i+1)*2) ++ cellsE (xs.drop i) ++ C1.drop ((i+1)*2+(cellsE (xs.drop i)).length)) :
  C2.length=C.length∧C2.take ((xs.take i ++ x :: xs.drop i).length*2)=cellsE (xs.take i ++ x :: xs.drop i):=by
 have hd:(cellsE (xs.drop i)).length=(xs.length-i)*2:=by rw [cellsE_len,List.length_drop]
 have hx:(cellsE [x]).length=2:=by rw [cellsE_len];rfl
 have hc1:C1.length=C.length:=by
  rw [h1,hC]
  simp only [List.length_append,cellsE_len,List.length_take,List.length_drop,List.length_cons,List.length_nil]
  omega
 have e1:C1.take ((i+1)*2)=cellsE (xs.take i) ++ cellsE [x]:=by
  rw [h1,hC]
  exact take_join (by simp only [List.length_append,cellsE_len,List.length_take,List.length_cons,List.length_nil];omega)
 rw [h2,e1]
 refine ⟨?_,?_⟩
 ·simp only [List.length_append,cellsE_len,List.length_take,List.length_drop,List.length_cons,List.length_nil,hc1]
  omega
 ·have hl:(xs.take i ++ x :: xs.drop i).length=xs.length+1:=by simp;omega
  rw [hl]
  rw [show cellsE (xs.take i ++ x :: xs.drop i)=cellsE (xs.take i) ++ cellsE [x] ++ cellsE (xs.drop i) by rw [show x :: xs.drop i=[x] ++ xs.drop i from rfl,cellsE_append,cellsE_append,List.append_assoc]]
  exact take_join (by simp only [List.length_append,cellsE_len,List.length_take,List.length_drop,List.length_cons,List.length_nil];omega)
theorem del_cells {C C1 C2:List Value} {xs:List EnL} {z0 z1:Value} {i:Nat} (hC:C.take (xs.length*2)=cellsE xs) (hlen:xs.length*2≤C.length) (hi:i<xs.length)
  (h1:C1=C.take (i*2) ++ cellsE (xs.drop (i+1)) ++ C.drop (i*2+(cellsE (xs.drop (i+1))).length)) (h2:C2=C1.take ((xs.length-1)*2) ++ [z0,z1] ++ C1.drop ((xs.length-1)*2+2)) :
  C2.length=C.length∧C2.take ((xs.take i ++ xs.drop (i+1)).length*2)=cellsE (xs.take i ++ xs.drop (i+1)):=by
 have hd:(cellsE (xs.drop (i+1))).length=(xs.length-(i+1))*2:=by rw [cellsE_len,List.length_drop]
 have hc1:C1.length=C.length:=by
  rw [h1]
  simp only [List.length_append,cellsE_len,List.length_take,List.length_drop]
  omega
 have e1:C1.take ((xs.length-1)*2)=cellsE (xs.take i) ++ cellsE (xs.drop (i+1)):=by
  rw [h1,head_cells hC (by omega)]
  exact take_join (by simp only [List.length_append,cellsE_len,List.length_take,List.length_drop];omega)
 have hl:(xs.take i ++ xs.drop (i+1)).length=xs.length-1:=by simp;omega
 rw [h2,hl,cellsE_append,e1]
 refine ⟨?_,?_⟩
 ·simp only [List.length_append,cellsE_len,List.length_take,List.length_drop,List.length_cons,List.length_nil,hc1]
  omega
 ·rw [List.append_assoc _ _ (C1.drop _)]
  exact take_join (by simp only [List.length_append,cellsE_len,List.length_take,List.length_drop];omega)
theorem cellsE_set {xs:List EnL}:∀ {i:Nat} (n:Int),i<xs.length→(cellsE xs).set (i*2+1) (.int .i64 n)=cellsE (xs.set i ⟨⟨(xs.getD i noL).e.pl,n⟩,(xs.getD i noL).A,(xs.getD i noL).c⟩):=by
 induction xs with
 | nil=>intro i n h;cases h
 | cons x r ih =>
  intro i n h
  cases i with
  | zero=>simp [cellsE]
  | succ i =>
   rw [show (i+1)*2+1=(i*2+1)+1+1 by omega]
   simp only [cellsE,List.set_cons_succ,List.getD_cons_succ]
   rw [ih n (by simpa using h)]
theorem RowE.setN {w:World} {g cap:Nat} {xs:List EnL} (h:RowE w g cap xs) {i:Nat} (hi:i<xs.length) (n:Int):RowE (w.setCell ⟨g,i*2+1,none⟩ (.int .i64 n)) g cap (xs.set i ⟨⟨(xs.getD i noL).e.pl,n⟩,(xs.getD i noL).A,(xs.getD i noL).c⟩)∧w.grownBy (w.setCell ⟨g,i*2+1,none⟩ (.int .i64 n)) (some g):=by
 obtain ⟨⟨cur,h1,h2,h3⟩,h4,h5,h6⟩:=h
 rw [setCell_eq_setRow w g (i*2+1) cur _ (0,0) _ h1]
 refine ⟨?_,grown_setRow ..⟩
 refine ⟨⟨_,setRow_heap w g cur _ _ _ h1,by simpa using h2,?_⟩,by simpa using h4,h5,fun y hy=>?_⟩
 ·rw [Array.toList_setIfInBounds,List.length_set,←cellsE_set n hi,←h3,List.take_set]
 ·refine PlTy.grown (g:=g) ?_ h1 (grown_setRow ..)
  rcases List.mem_or_eq_of_mem_set hy with hy | rfl
  ·exact h6 y hy
  ·exact h6 (xs.getD i noL) (enl_mem hi)
theorem lE_append (a b:List EnL):lE (a ++ b)=lE a ++ lE b:=by simp [lE]
theorem lE_take (a:List EnL) (k:Nat):lE (a.take k)=(lE a).take k:=by simp [lE]
theorem lE_drop (a:List EnL) (k:Nat):lE (a.drop k)=(lE a).drop k:=by simp [lE]
theorem lE_ins (xs:List EnL) (x:EnL) (i:Nat):lE (xs.take i ++ x :: xs.drop i)=(lE xs).take i ++ x.e :: (lE xs).drop i:=by simp [lE]
theorem set_new {l:List En} {p:List Int} (h:hasE l p=false) (n:Int):setL l p n=l.take (cntE l p) ++ ⟨p,n⟩ :: l.drop (cntE l p):=by unfold setL;rw [h];rfl
theorem set_old {l:List En} {p:List Int} (h:hasE l p=true) (n:Int):setL l p n=l.set (cntE l p) ⟨(l.getD (cntE l p) noEn).pl,n⟩∧cntE l p<l.length∧(l.getD (cntE l p) noEn).pl=p:=by
 have hi:cntE l p<l.length:=by
  rcases Nat.lt_or_ge (cntE l p) l.length with h1 | h1
  ·exact h1
  ·rw [(has_out rfl h1).1] at h;cases h
 have h2:=has_cmp rfl hi
 rw [h] at h2
 have h3:(l.getD (cntE l p) noEn).pl=p:=by
  rcases cmpL_three (l.getD (cntE l p) noEn).pl p with ⟨e1,_⟩ | ⟨_,_,e3⟩ | ⟨e1,_⟩
  ·rw [e1] at h2;cases h2
  ·exact e3
  ·rw [e1] at h2;cases h2
 refine ⟨?_,hi,h3⟩
 unfold setL
 rw [h,h3,if_pos rfl,List.set_eq_take_append_cons_drop,if_pos hi]
theorem lE_set (xs:List EnL) (i:Nat) (y:EnL):lE (xs.set i y)=(lE xs).set i y.e:=by simp [lE,List.map_set]
end Go.Proofs.YtnegjdcedhnjdaaGreatDoor
namespace Go.Proofs.YtnegjdcedhnjdaaGreatDoor
open Go.ChangeShapes Go.WideShapes Go.ChangeAt Go.RowKit
set_option maxRecDepth 20000
theorem short_of {D:Nat→Dm} {n:Nat} {xs:List EnL} {p:List Int} (hE:Ens D n (lE xs)) (hp:InO D n p):Short xs p:=by
 refine ⟨fun k hk=>?_,inO_short hp⟩
 have h1:(xs.getD k noL).e∈lE xs:=List.mem_map.2 ⟨_,enl_mem hk,rfl⟩
 exact inO_short (hE.each _ h1).1
theorem few_of {D:Nat→Dm} {n:Nat} {xs:List EnL} (hE:Ens D n (lE xs)):xs.length≤3000:=by have:=hE.few;rw [lE_len] at this;exact this
def NewE (N:Nat) (xs:List EnL):Prop := ∀ x∈xs,NewA N x.A
theorem NewE.le {N M:Nat} {xs:List EnL} (h:NewE N xs) (hm:M≤N):NewE M xs:=fun x hx=>(h x hx).le hm
theorem NewE.put {N i:Nat} {xs:List EnL} {x:EnL} (h:NewE N xs) (hx:NewA N x.A):NewE N (xs.take i ++ x :: xs.drop i):=fun y hy=>by
 rcases List.mem_append.1 hy with hy | hy
 ·exact h y (List.mem_of_mem_take hy)
 ·rcases List.mem_cons.1 hy with rfl | hy
  ·exact hx
  ·exact h y (List.mem_of_mem_drop hy)
theorem NewE.cut {N i j:Nat} {xs:List EnL} (h:NewE N xs):NewE N (xs.take i ++ xs.drop j):=fun y hy=>by
 rcases List.mem_append.1 hy with hy | hy
 ·exact h y (List.mem_of_mem_take hy)
 ·exact h y (List.mem_of_mem_drop hy)
theorem NewE.set {N i:Nat} {xs:List EnL} (h:NewE N xs) (hi:i<xs.length) (e:En) (c:Nat):NewE N (xs.set i ⟨e,(xs.getD i noL).A,c⟩):=fun y hy=>by
 rcases List.mem_or_eq_of_mem_set hy with hy | rfl
 ·exact h y hy
 ·exact h (xs.getD i noL) (enl_mem hi)
theorem plty_new {w:World} {base:Nat} {v:Value} {L:List Int} (h:w.ownsRow base 3 1 v L.length (L.map (Value.int .i64))):∃ A c,v=.slice A L.length c∧PlTy w A c L∧NewA base A:=by
 obtain ⟨A,c,rfl,hP⟩:=plty_own h
 refine ⟨A,c,rfl,hP,fun b o e=>?_⟩
 subst e
 rcases h.2 with ⟨h1,-⟩ | ⟨g,cap,cur,h1,hb,-⟩
 ·cases h1
 ·cases h1;exact hb
set_option maxHeartbeats 2000000 in
theorem clone_own (A:Option Addr) (c:Nat) (L:List Int) (w:World) (hL:L.length≤4) (hP:PlAt w A c L):Calls Tryz.prog 22 #[.slice A L.length c] w fun e w'=>(∃ v,e=.returned v∧w'.ownsRow w.heap.size 3 1 v L.length (L.map (Value.int .i64)))∧Below w.heap.size w w':=by
 have hq:∀ (w:World) (a:Option Addr) (n c n' c':Nat),(binOp .eql 27 (.slice a n c) (.slice none n' c')).run Tryz.prog w=.ok (.bool a.isNone) w:=fun w a n c n' c'=>Lib.run_eql_slice_nil w _ _ a n c n' c' Tryz.underlying27
 cases A with
 | none =>
  obtain ⟨-,h0 | ⟨b,o,h0,-⟩⟩:=hP
  ·subst h0
   simp only [List.length_nil]
   go_enter Tryz.func22,Tryz.ntmps22
   go_wp2_with fail
   go_ret
   exact ⟨⟨_,rfl,World.ownsRow_nil _ _ _ _⟩,Below.refl _ _⟩
  ·cases h0
 | some a =>
  obtain ⟨i0,hi0,hz0,hz1,hz2⟩:=info_parts Tryz.infoIntP
  have HC:Hid (∀ j u,(L.map (Value.int .i64))[j]?=some u→w.cell? (a.add j)=some u):=by
   intro j u hj
   obtain ⟨-,h0 | ⟨b,o,h0,-,hcell⟩⟩:=hP
   ·subst h0;simp at hj
   ·cases h0
    have hlt:j<L.length:=by have:=(List.getElem?_eq_some_iff.1 hj).1;simpa using this
    rw [plain_add,hcell j hlt]
    simp only [List.getElem?_map,List.getElem?_eq_getElem hlt,Option.map_some,Option.some.injEq] at hj
    rw [←hj,List.getD_eq_getElem?_getD,List.getElem?_eq_getElem hlt]
    rfl
  have hl:(L.map (Value.int .i64)).length=L.length*1:=by simp
  have h1:∀ u∈L.map (Value.int .i64),u.oneCell'=true:=by intro u hu;simp at hu;obtain ⟨x,-,rfl⟩:=hu;rfl
  have hm:L.length≤4:=hL
  clear hP hL
  go_enter Tryz.func22,Tryz.ntmps22
  go_wp2_with (at_builtin;refine wpList_append_own _ rfl _ _ 27 rfl w.heap.size 3 i0 (.int .i64 0) 1 8 Tryz.underlying27 hi0 hz0 hz1 hz2 rfl (by decide) _ _ _ rfl (World.ownsRow_made w #[] 0 (Nat.le_refl _) (Nat.zero_le _) (by simp)) a L.length c (L.map (Value.int .i64)) rfl ?qc1 ?qc2 ?qc3 ?qc4 ?qc5 ?qc6 ?_)
  case qc1=>exact hl
  case qc2=>exact fun j u hj=>Lib.cell?_alloc_some _ (HC.out j u hj)
  case qc3=>exact h1
  case qc4=>simp only [maxLen];omega
  case qc5=>omega
  case qc6=>simp
  intro v' w1 hown hgrow hnil
  have HT:Hid (w1.ownsRow w.heap.size 3 1 v' L.length (L.map (Value.int .i64))):=hown
  have HB:Hid (Below w.heap.size w w1):=((Below.refl _ w).alloc (Nat.le_refl _) _).grown hgrow (by simp) (by intro k hk;simp [Value.ownBlock] at hk;omega)
  clear hown hgrow hnil
  go_wp2_with fail
  go_ret
  exact ⟨⟨_,rfl,HT.out⟩,HB.out⟩
theorem clone_new (A:Option Addr) (c:Nat) (L:List Int) (w:World) (hL:L.length≤4) (hP:PlAt w A c L):Calls Tryz.prog 22 #[.slice A L.length c] w fun e w'=>(∃ A' c',e=.returned (.slice A' L.length c')∧PlTy w' A' c' L∧NewA w.heap.size A')∧Below w.heap.size w w' :=
 (clone_own A c L w hL hP).mono fun _ _ ⟨⟨_,h1,h2⟩,h3⟩=>by
  obtain ⟨A',c',rfl,h4,h5⟩:=plty_new h2
  exact ⟨⟨A',c',h1,h4,h5⟩,h3⟩
theorem drop_at {L:List Int} {k:Nat} (h:k<L.length):L.drop k=L.getD k 0 :: L.drop (k+1):=by
 rw [List.drop_eq_getElem_cons h];simp [List.getD,List.getElem?_eq_getElem h]
theorem getD_mem {L:List Int} {k:Nat} (h:k<L.length):L.getD k 0∈L:=by
 simp [List.getD,List.getElem?_eq_getElem h]
set_option maxHeartbeats 2000000 in
theorem weight_any (b o n cap j:Nat) (i:Int) (M:Nat→Mem) (w:World) (hn:n≤12) (hj:j<n) (ht:Tr M n) (hs:Sg M n) (hM:MemsAt w b o n M):Calls Tryz.prog 135 #[.slice (some ⟨b,o,none⟩) n cap,.int .i64 i,.int .i64 j] w fun e w'=>e=.returned (.int .i64 (weightOf M i j))∧Below w.heap.size w w':=by
 have hpl:=path_any b o n cap j M w hn hj ht hM
 have HM:Hid (MemsAt w b o n M):=hM
 have HS:Hid (Sg M n):=hs
 have hln:(pathOf M j).length≤12:=by have:=pathOf_len ht n j (by omega) (by omega);omega
 have HI:Hid (∀ x∈pathOf M j,0≤x∧x<n):=fun x hx=>by have:=pathOf_mem ht n j (by omega) (by omega) x hx;omega
 have HW:Hid (wgt M i (pathOf M j) 1=weightOf M i j):=rfl
 generalize pathOf M j=L at hpl hln HI HW
 clear hM ht hs
 go_enter Tryz.func135,Tryz.ntmps135
 go_wp2_with fail
 refine hpl.mono ?_
 rintro e w1 ⟨⟨A,c,rfl,hI⟩,hb1⟩
 have HB1:Hid (Below w.heap.size w w1):=hb1
 have hM1:=HM.out.later hb1
 have hbw:=hM1.1
 have HMs:Hid (MemsAt w1 b o n M):=hM1
 have HL:Hid (IntsAt w1 A c L):=hI
 clear hb1 hpl hM1 hI
 go_wp2_with fail
 go_loopg [7,14] L.length (fun g s7 s14 wr => ∃ (k:Nat) (a:Int),k≤L.length∧g=L.length-k∧s14=.int .i64 k∧s7=.int .i64 a∧(-1≤a∧a≤1)∧wgt M i (L.drop k) a=wgt M i L 1∧wr=w1)
 case atStart=>exact ⟨0,1,Nat.zero_le _,rfl,rfl,rfl,by omega,rfl,rfl⟩
 case round =>
  obtain ⟨k,a,hk,rfl,rfl,rfl,ha,hf,rfl⟩:=hrel
  have HF:Hid (wgt M i (L.drop k) a=wgt M i L 1):=hf
  clear hf
  by_cases hlt:k<L.length
  ·obtain ⟨hc,h0 | ⟨g,rfl,hg,hcell⟩⟩:=HL.out
   ·rw [h0] at hlt;cases hlt
   have hx:=HI.out _ (getD_mem hlt)
   have HD:Hid (L.drop k=L.getD k 0 :: L.drop (k+1)):=drop_at hlt
   have hcx:=hcell k hlt
   generalize L.getD k 0=x at hx HD hcx
   obtain ⟨m,rfl⟩:∃ m:Nat,x=m:=⟨x.toNat,by omega⟩
   have hmn:m<n:=by omega
   have hki:(k:Int)<(L.length:Int):=by omega
   have hln':(L.length:Int)≤12:=by omega
   have hn':(n:Int)≤12:=by omega
   have hmi:(m:Int)<(n:Int):=by omega
   clear hcell hx
   by_cases hq:(m:Int)=i
   ·subst hq
    have HR:Hid (a=weightOf M m j):=by show _=_;rw [←HW.out,←HF.out,HD.out,wgt_hit]
    go_wp2_with fail
    go_ret
    exact ⟨by rw [←HR.out];rfl,HB1.out⟩
   ·have hq':((m:Int) == i)=false:=by simpa using hq
    obtain ⟨-,-,h2,-⟩:=HMs.out.2 m hmn
    have hsm:=HS.out m hmn
    have hmul:=small_mul ha hsm
    have HR:Hid (wgt M i (L.drop (k+1)) (a*(M m).sign)=wgt M i L 1):=by show _=_;rw [←HF.out,HD.out,wgt_miss hq];rfl
    have HMul:Hid (-1≤a*(M m).sign∧a*(M m).sign≤1):=hmul
    clear hq
    go_wp2_with fail
    go_roundg (L.length-(k+1))
    case measure=>omega
    case rel=>exact ⟨k+1,a*(M m).sign,by omega,rfl,by go_num,by go_num,HMul.out,HR.out,rfl⟩
  ·have hke:k=L.length:=by omega
   have HR:Hid (0=weightOf M i j):=by show _=_;rw [←HW.out,←HF.out,hke,List.drop_length];rfl
   subst hke
   go_wp2_with fail
   go_ret
   exact ⟨by rw [←HR.out];rfl,HB1.out⟩
end Go.Proofs.YtnegjdcedhnjdaaGreatDoor
namespace Go.Proofs.YtnegjdcedhnjdaaGreatDoor
open Go.ChangeShapes Go.WideShapes Go.ChangeAt Go.RowKit Go.Lib
set_option maxRecDepth 100000
theorem Tryz.infoEnt:(Tryz.prog.info? 54).map (fun i=>(i.zero,i.size,i.bytes))=some (some (.agg #[.slice none 0 0,.int .i64 0]),2,32):=by kernel_rfl
def OneE (w:World) (vb:Nat) (x:EnL):Prop:=w.heap[vb]?=some (.cells #[.slice x.A x.e.pl.length x.c,.int .i64 x.e.n] 54 (0,0))
theorem OneE.cells {w:World} {vb:Nat} {x:EnL} (h:OneE w vb x):∀ j u,(cellsE [x])[j]?=some u→w.cell? ⟨vb,j,none⟩=some u:=by
 intro j u hj
 rw [Lib.cell_of_heap h]
 simpa [cellsE] using hj
def Inserted (w:World) (g i:Nat) (xs:List EnL) (x:EnL) (e:Ending) (w':World):Prop := ∃ g' cap',e=.returned (.slice (some ⟨g',0,none⟩) (xs.length+1) cap')∧RowE w' g' cap' (xs.take i ++ x :: xs.drop i)∧g≤g'∧w.grownBy w' (some g)
set_option maxHeartbeats 4000000 in
theorem insert_end (g cap vb:Nat) (xs:List EnL) (x:EnL) (w:World) (hn:xs.length≤3000) (hR:RowE w g cap xs) (hx:PlTy w x.A x.c x.e.pl) (hv:OneE w vb x) :
  Calls Tryz.prog 77 #[.slice (some ⟨g,0,none⟩) xs.length cap,.int .i64 xs.length,.slice (some ⟨vb,0,none⟩) 1 1] w fun e w'=>Inserted w g xs.length xs x e w':=by
 obtain ⟨i0,hi0,hz0,hz1,hz2⟩:=info_parts Tryz.infoEnt
 have hown:=hR.own (Nat.le_refl g)
 have hgs:g≤w.heap.size:=Nat.le_of_lt hR.lt
 have hcap:=hR.2.1
 have hcm:=hR.2.2.1
 have HR:Hid (RowE w g cap xs):=hR
 have HX:Hid (PlTy w x.A x.c x.e.pl):=hx
 have HV:Hid (∀ j u,(cellsE [x])[j]?=some u→w.cell? ⟨vb,j,none⟩=some u):=hv.cells
 have HE:Hid (cellsE (xs ++ [x])=cellsE xs ++ cellsE [x]):=cellsE_append ..
 have HL:Hid ((cellsE [x]).length=1*2):=cellsE_len [x]
 have H1:Hid (∀ v∈cellsE [x],v.oneCell'=true):=cellsE_one [x]
 have HT:Hid (xs.take xs.length ++ x :: xs.drop xs.length=xs ++ [x]∧(xs ++ [x]).length=xs.length+1):=⟨by simp,by simp⟩
 obtain ⟨n,hnn⟩:∃ n,xs.length=n:=⟨_,rfl⟩
 have HN:Hid (xs.length=n):=hnn
 rw [hnn] at hown hn hcap HT
 unfold Inserted
 rw [hnn]
 generalize hcx:cellsE xs=CX at hown HE
 generalize hc1:cellsE [x]=C1 at HV HE HL H1
 unfold maxLen at hcm
 clear hR hx hv hnn hcx hc1
 have hn':(n:Int)≤3000:=by omega
 by_cases hce:cap=n
 ·subst hce
  go_enter Tryz.func77,Tryz.ntmps77
  go_wp2_with (at_builtin;refine wpList_append_own _ rfl _ _ 25 rfl g 54 i0 (.agg #[.slice none 0 0,.int .i64 0]) 2 32 Tryz.underlying25 hi0 hz0 hz1 hz2 rfl (by decide) _ _ _ rfl hown ⟨vb,0,none⟩ 1 1 C1 rfl ?qc1 ?qc2 ?qc3 ?qc4 ?qc5 ?qc6 ?_)
  case qc1=>exact HL.out
  case qc2=>exact fun j u hj=>by rw [plain_add,Nat.zero_add];exact HV.out j u hj
  case qc3=>exact H1.out
  case qc4=>simp only [maxLen];omega
  case qc5=>omega
  case qc6=>exact hgs
  intro v' w1 hown1 hgrow hnil
  rw [←HE.out,←HT.out.2] at hown1
  have hg1:w.grownBy w1 (some g):=hgrow
  obtain ⟨⟨cur,hcur,-,-⟩,-⟩:=HR.out
  have hpl:∀ y∈xs ++ [x],PlTy w1 y.A y.c y.e.pl:=fun y hy=>by
   rcases List.mem_append.1 hy with hy | hy
   ·exact (HR.out.2.2.2 y hy).grown hcur hg1
   ·rw [List.mem_singleton.1 hy];exact HX.out.grown hcur hg1
  obtain ⟨g',cap',rfl,hgg,hRow⟩:=row_own hown1 (by simpa using hnil) hpl
  have HRow:Hid (RowE w1 g' cap' (xs ++ [x])):=hRow
  have HG:Hid (w.grownBy w1 (some g)):=hg1
  rw [HT.out.2]
  clear hown1 hgrow hnil hcur hpl hRow hg1
  go_wp2_with fail
  go_ret
  refine ⟨g',cap',rfl,?_,hgg,HG.out⟩
  rw [HT.out.1]
  exact HRow.out
 ·have hce' : ¬ ((cap:Int)=(n:Int)):=by omega
  go_enter Tryz.func77,Tryz.ntmps77
  go_wp2_with (at_builtin;refine wpList_append_own _ rfl _ _ 25 rfl g 54 i0 (.agg #[.slice none 0 0,.int .i64 0]) 2 32 Tryz.underlying25 hi0 hz0 hz1 hz2 rfl (by decide) _ _ _ rfl hown ⟨vb,0,none⟩ 1 1 C1 rfl ?qc1 ?qc2 ?qc3 ?qc4 ?qc5 ?qc6 ?_)
  case qc1=>exact HL.out
  case qc2=>exact fun j u hj=>by rw [plain_add,Nat.zero_add];exact HV.out j u hj
  case qc3=>exact H1.out
  case qc4=>simp only [maxLen];omega
  case qc5=>omega
  case qc6=>exact hgs
  intro v' w1 hown1 hgrow hnil
  rw [←HE.out,←HT.out.2] at hown1
  have hg1:w.grownBy w1 (some g):=hgrow
  obtain ⟨⟨cur,hcur,-,-⟩,-⟩:=HR.out
  have hpl:∀ y∈xs ++ [x],PlTy w1 y.A y.c y.e.pl:=fun y hy=>by
   rcases List.mem_append.1 hy with hy | hy
   ·exact (HR.out.2.2.2 y hy).grown hcur hg1
   ·rw [List.mem_singleton.1 hy];exact HX.out.grown hcur hg1
  obtain ⟨g',cap',rfl,hgg,hRow⟩:=row_own hown1 (by simpa using hnil) hpl
  have HRow:Hid (RowE w1 g' cap' (xs ++ [x])):=hRow
  have HG:Hid (w.grownBy w1 (some g)):=hg1
  rw [HT.out.2]
  clear hown1 hgrow hnil hcur hpl hRow hg1
  go_wp2_with fail
  go_ret
  refine ⟨g',cap',rfl,?_,hgg,HG.out⟩
  rw [HT.out.1]
  exact HRow.out
theorem ent_over (w:World) (g vb o lb cb kB:Nat) (x:EnL) (cur:Array Value) (hvb:vb≠g) (hv:OneE w vb x) (hg:w.heap[g]?=some (.cells cur 54 (0,0))) (hk:cur.size=kB) (hk0:kB≠0) :
  (callFunc 106 #[.slice (some ⟨vb,0,none⟩) 1 1,.slice (some ⟨g,o,none⟩) lb cb]).run Tryz.prog w=.ok (.value (.bool false)) w:=by
 rw [run_callFunc_extern Tryz.func106 (by kernel_rfl) (by kernel_rfl) (by kernel_rfl) (e:=Extern.SlicesOverlaps.overlaps #[25,25] #[4]) (by kernel_rfl),
  Lib.run_overlaps_apart w 25 4 54 Tryz.underlying25 2 Tryz.sizeOf54 ⟨vb,0,none⟩ ⟨g,o,none⟩ 1 1 lb cb hvb 54 54 2 kB (by simp [World.shape?,show w.heap[vb]?=_ from hv]) (by simp [World.shape?,hg,hk]) hk0 (Lib.frozen_of_heap hv 0) (Lib.frozen_of_heap hv 2)]
 rfl
set_option maxHeartbeats 4000000 in
theorem insert_shift (g cap i vb:Nat) (xs:List EnL) (x:EnL) (w:World) (hn:xs.length≤3000) (hi:i<xs.length) (hroom:xs.length+1≤cap) (hvb:vb≠g) (hR:RowE w g cap xs) (hx:PlTy w x.A x.c x.e.pl) (hv:OneE w vb x) :
  Calls Tryz.prog 77 #[.slice (some ⟨g,0,none⟩) xs.length cap,.int .i64 i,.slice (some ⟨vb,0,none⟩) 1 1] w fun e w'=>Inserted w g i xs x e w':=by
 obtain ⟨i0,hi0,hz0,hz1,hz2⟩:=info_parts Tryz.infoEnt
 have hsz:(Tryz.prog.info? 54).map (·.size)=some 2:=by rw [hi0];simp [hz1]
 have hcm:=hR.2.2.1
 unfold maxLen at hcm
 obtain ⟨⟨cur,hcur,hcs,hct⟩,-,-,hpl⟩:=id hR
 have hov:∀ o lb cb,(callFunc 106 #[.slice (some ⟨vb,0,none⟩) 1 1,.slice (some ⟨g,o,none⟩) lb cb]).run Tryz.prog w=.ok (.value (.bool false)) w:=fun o lb cb=>ent_over w g vb o lb cb (cap*2) x cur hvb hv hcur hcs (by omega)
 obtain ⟨n,hnn⟩:∃ n,xs.length=n:=⟨_,rfl⟩
 have hdl:(cellsE (xs.drop i)).length=(n-i)*2:=by rw [cellsE_len,List.length_drop,hnn]
 obtain ⟨C1,hC1⟩:∃ C1,C1=cur.toList.take ((i+1)*2) ++ cellsE (xs.drop i) ++ cur.toList.drop ((i+1)*2+(cellsE (xs.drop i)).length):=⟨_,rfl⟩
 obtain ⟨C2,hC2⟩:∃ C2,C2=C1.take (i*2) ++ cellsE [x] ++ C1.drop (i*2+(cellsE [x]).length):=⟨_,rfl⟩
 have hlen:(xs.length+1)*2≤cur.toList.length:=by
  have h1:cur.toList.length=cap*2:=by simpa using hcs
  omega
 obtain ⟨hl2,ht2⟩:=ins_cells hct hlen (Nat.le_of_lt hi) hC1 hC2
 have hl1:C1.length=cur.size:=by
  rw [hC1]
  simp only [List.length_append,List.length_take,List.length_drop,hdl,Array.length_toList,hcs]
  omega
 have hcp1:∀ ty dc sc,(Builtin.copy_ #[25,25] ty #[.slice (some ⟨g,(i+1)*2,none⟩) (n-i) dc,.slice (some ⟨g,i*2,none⟩) (n+1-i) sc]).run Tryz.prog w.drew=.ok (goInt (Nat.min (n+1-i) (n-i))) (w.drew.setRow g C1.toArray):=fun ty dc sc=>by
  rw [hC1]
  exact run_copy_k 2 w.drew _ _ ty 54 g ((i+1)*2) (n-i) dc ⟨g,i*2,none⟩ (n+1-i) sc cur 54 (cellsE (xs.drop i)) Tryz.underlying25 hsz hcur (by rw [hdl];simp only [Nat.min_def];split <;> omega)
   (fun j v hj=>by
    rw [plain_add]
    refine hR.cells (i*2+j) v ?_
    rw [←cellsE_drop,List.getElem?_drop] at hj
    exact hj)
   (by rw [hdl];omega) (cellsE_one _)
 have hW1:(w.drew.setRow g C1.toArray).heap[g]?=some (.cells C1.toArray 54 (0,0)):=setRow_heap w.drew g cur _ _ _ hcur
 have hcp2:∀ (W:World),W.heap=(w.drew.setRow g C1.toArray).heap→∀ ty dc,(Builtin.copy_ #[25,25] ty #[.slice (some ⟨g,i*2,none⟩) (n+1-i) dc,.slice (some ⟨vb,0,none⟩) 1 1]).run Tryz.prog W=.ok (goInt (Nat.min 1 (n+1-i))) (W.setRow g C2.toArray):=fun W hW ty dc=>by
  have h:=run_copy_k (P:=Tryz.prog) 2 W _ 25 ty 54 g (i*2) (n+1-i) dc ⟨vb,0,none⟩ 1 1 C1.toArray 54 (cellsE [x]) Tryz.underlying25 hsz (by rw [hW];exact hW1) (by rw [cellsE_len];simp only [Nat.min_def];split <;> simp <;> omega)
   (fun j v hj=>by
    rw [plain_add,Nat.zero_add]
    have hb:W.heap[vb]?=w.heap[vb]?:=by rw [hW,setRow_other _ _ _ _ hvb];rfl
    exact (World.cell?_of_block (a:=⟨vb,j,none⟩) hb).trans (hv.cells j v hj))
   (by rw [cellsE_len];simp [hl1,hcs];omega) (cellsE_one _)
  rw [h,hC2]
 have HFin:Hid (∀ w',w'.heap=((w.drew.setRow g C1.toArray).setRow g C2.toArray).heap→w'.os=w.os→w'.tape=w.tape→w'.output=w.output→RowE w' g cap (xs.take i ++ x :: xs.drop i)∧w.grownBy w' (some g)):=by
  intro w' hw' h1 h2 h3
  rw [setRow_setRow] at hw'
  have hg':w.grownBy w' (some g):=⟨h1,h2,h3,by rw [hw',setRow_size];exact Nat.le_refl _,fun k hk hne=>by rw [hw',setRow_other _ _ _ _ fun e=>hne (by rw [e])];rfl⟩
  refine ⟨⟨⟨C2.toArray,by rw [hw'];exact setRow_heap w.drew g cur _ _ _ hcur,by rw [List.size_toArray,hl2,Array.length_toList,hcs],ht2⟩,by simp;omega,hR.2.2.1,fun y hy=>?_⟩,hg'⟩
  refine PlTy.grown ?_ hcur hg'
  rcases List.mem_append.1 hy with hy | hy
  ·exact hpl y (List.mem_of_mem_take hy)
  ·rcases List.mem_cons.1 hy with rfl | hy
   ·exact hx
   ·exact hpl y (List.mem_of_mem_drop hy)
 unfold Inserted
 rw [hnn] at hn hi hroom ⊢
 have hn':(n:Int)≤3000:=by omega
 have hi':(i:Int)<(n:Int):=by omega
 have hr':(n:Int)+1≤(cap:Int):=by omega
 have hz2 : ¬ ((i:Int)=(n:Int)):=by omega
 have hb2 : ¬ (cap=i+1):=by omega
 have hb4 : ¬ (cap=i):=by omega
 have hw1:IntKind.i64.wrap ((i:Int)+1)=(i:Int)+1:=by rw [IntKind.wrap_i64];omega
 have hb1:(0:Int)≤(i:Int)+1:=by omega
 have htn:((i:Int)+1).toNat=i+1:=by omega
 have hin:i≤n:=by omega
 have hb3:(i:Int)≤(n:Int)+1:=by omega
 clear hcm hpl hnn hl1 hl2 ht2 hC1 hC2 hlen hdl hW1 hcur hcs hct hR hx hv
 go_enter Tryz.func77,Tryz.ntmps77
 go_wp2_with (simp only [hov])
 go_region_law (refine step_copy_runI rfl _ _ 25 25 rfl _ _ (by simp [Act.eval,Act.put]) (by simp [Act.eval,Act.put]) (hcp1 _ _ _) ?_)
 go_wp2_with (at_builtin;refine wpList_copy_runI _ rfl _ _ 25 25 rfl _ _ rfl rfl (hcp2 _ rfl _ _) ?_)
 go_ret
 obtain ⟨h1,h2⟩:=HFin.out _ rfl rfl rfl rfl
 exact ⟨g,cap,rfl,h1,Nat.le_refl _,h2⟩
theorem zero_size (k:Nat):(Builtin.zeroCells (Value.agg #[.slice none 0 0,.int .i64 0]).cells k).size=k*2:=by
 simp [Builtin.zeroCells,Value.cells]
set_option maxHeartbeats 4000000 in
theorem insert_grow (g cap i vb:Nat) (xs:List EnL) (x:EnL) (w:World) (hn:xs.length≤3000) (hi:i<xs.length) (hroom:cap<xs.length+1) (hR:RowE w g cap xs) (hx:PlTy w x.A x.c x.e.pl) (hv:OneE w vb x) :
  Calls Tryz.prog 77 #[.slice (some ⟨g,0,none⟩) xs.length cap,.int .i64 i,.slice (some ⟨vb,0,none⟩) 1 1] w fun e w'=>Inserted w g i xs x e w':=by
 obtain ⟨i0,hi0,hz0,hz1,hz2⟩:=info_parts Tryz.infoEnt
 have hsz:(Tryz.prog.info? 54).map (·.size)=some 2:=by rw [hi0];simp [hz1]
 have hcm:=hR.2.2.1
 unfold maxLen at hcm
 have hnc:=hR.2.1
 have hgw:g<w.heap.size:=hR.lt
 have hvw:vb<w.heap.size:=(Array.getElem?_eq_some_iff.1 hv).1
 obtain ⟨n,hnn⟩:∃ n,xs.length=n:=⟨_,rfl⟩
 rw [hnn] at hn hi hroom hnc
 have hdl:(cellsE (xs.drop i)).length=(n-i)*2:=by rw [cellsE_len,List.length_drop,hnn]
 have htl:(cellsE (xs.take i)).length=i*2:=by rw [cellsE_len,List.length_take,hnn,Nat.min_eq_left (by omega)]
 have hkk:(n:Int)+1-(i:Int)=((n+1-i:Nat):Int):=by omega
 have hik:i+(n+1-i)=n+1:=by omega
 have hold:(Builtin.firstCells i0.size i (.slice (some ⟨g,0,none⟩) i cap)).run Tryz.prog w.drew=.ok (cellsE (xs.take i)).toArray w.drew:=by
  rw [hz1]
  exact run_firstCells_some w.drew 2 i ⟨g,0,none⟩ i cap (cellsE (xs.take i)) htl (fun j v hj=>by
   rw [plain_add,Nat.zero_add]
   rw [←cellsE_take,List.getElem?_take] at hj
   split at hj
   ·exact hR.cells j v hj
   ·cases hj)
 obtain ⟨G,hG⟩:∃ G,G=grownCap w (n+1) cap 54:=⟨_,rfl⟩
 obtain ⟨ROW,hROW⟩:∃ ROW:Array Value,ROW=(cellsE (xs.take i)).toArray ++ Builtin.zeroCells (Value.agg #[.slice none 0 0,.int .i64 0]).cells (n+1-i) ++ Builtin.zeroCells (Value.agg #[.slice none 0 0,.int .i64 0]).cells (G-(n+1)):=⟨_,rfl⟩
 have hrz:∀ ty,(Builtin.append_ #[25,3] ty #[.slice (some ⟨g,0,none⟩) i cap,.int .i64 ((n:Int)+1-(i:Int))]).run Tryz.prog w=.ok (.slice (some ⟨w.heap.size,0,none⟩) (n+1) G) (w.drew.alloc (.cells ROW 54)):=fun ty=>by
  have h:=Lib.run_append_grow_zeros w 25 3 ty 54 i0 _ .i64 .i64 Tryz.underlying25 Tryz.underlying3 hi0 hz0 (some ⟨g,0,none⟩) i cap (cellsE (xs.take i)) hold (n+1-i) (by omega) (by omega) (by omega) (by omega) (by rw [hz2];omega) (by rw [hz2,hik];exact growslice_fits hroom (by omega))
  rw [hik] at h
  rw [hkk,hROW,hG]
  exact h
 have hGn:n+1≤G:=by rw [hG];exact grownCap_ge w _ _ _
 have hG63:G≤maxLen:=by
  rw [hG]
  exact grownCap_le_maxLen w (n+1) cap 54 (by unfold maxLen;omega)
 have hRs:ROW.size=G*2:=by
  rw [hROW,Array.size_append,Array.size_append,zero_size,zero_size,List.size_toArray,htl]
  omega
 obtain ⟨C1,hC1⟩:∃ C1,C1=ROW.toList.take (i*2) ++ cellsE [x] ++ ROW.toList.drop (i*2+(cellsE [x]).length):=⟨_,rfl⟩
 obtain ⟨C2,hC2⟩:∃ C2,C2=C1.take ((i+1)*2) ++ cellsE (xs.drop i) ++ C1.drop ((i+1)*2+(cellsE (xs.drop i)).length):=⟨_,rfl⟩
 have hRl:ROW.toList.length=G*2:=by simpa using hRs
 have hRt:ROW.toList.take (i*2)=cellsE (xs.take i):=by
  rw [hROW,Array.toList_append,Array.toList_append,List.append_assoc]
  exact take_join htl
 obtain ⟨hl2,ht2⟩:=grow_cells (xs:=xs) (x:=x) (i:=i) hRt (by rw [hRl,hnn];omega) (by omega) hC1 hC2
 have hx2:(cellsE [x]).length=2:=by rw [cellsE_len];rfl
 have hl1:C1.length=G*2:=by
  rw [hC1]
  simp only [List.length_append,List.length_take,List.length_drop,hx2,hRl]
  omega
 have hW1:(w.drew.alloc (.cells ROW 54)).heap[w.heap.size]?=some (.cells ROW 54 (0,0)):=heap_alloc_new w.drew _
 have hOld:∀ k,k<w.heap.size→(w.drew.alloc (.cells ROW 54)).heap[k]?=w.heap[k]?:=fun k hk=>Below.heap_alloc w.drew _ k hk
 have hcpA:∀ (W:World),W.heap=(w.drew.alloc (.cells ROW 54)).heap→∀ ty dc,(Builtin.copy_ #[25,25] ty #[.slice (some ⟨w.heap.size,i*2,none⟩) (n+1-i) dc,.slice (some ⟨vb,0,none⟩) 1 1]).run Tryz.prog W=.ok (goInt (Nat.min 1 (n+1-i))) (W.setRow w.heap.size C1.toArray):=fun W hW ty dc=>by
  have h:=run_copy_k (P:=Tryz.prog) 2 W _ 25 ty 54 w.heap.size (i*2) (n+1-i) dc ⟨vb,0,none⟩ 1 1 ROW 54 (cellsE [x]) Tryz.underlying25 hsz (by rw [hW];exact hW1) (by rw [hx2];simp only [Nat.min_def];split <;> omega)
   (fun j v hj=>by
    rw [plain_add,Nat.zero_add]
    have hb:W.heap[vb]?=w.heap[vb]?:=by rw [hW];exact hOld vb hvw
    exact (World.cell?_of_block (a:=⟨vb,j,none⟩) hb).trans (hv.cells j v hj))
   (by rw [hx2,hRs];omega) (cellsE_one _)
  rw [h,hC1]
 have hW2:((w.drew.alloc (.cells ROW 54)).setRow w.heap.size C1.toArray).heap[w.heap.size]?=some (.cells C1.toArray 54 (0,0)):=setRow_heap _ _ ROW _ _ _ hW1
 have hcpB:∀ (W:World),W.heap=((w.drew.alloc (.cells ROW 54)).setRow w.heap.size C1.toArray).heap→∀ ty dc sc,(Builtin.copy_ #[25,25] ty #[.slice (some ⟨w.heap.size,(i+1)*2,none⟩) (n-i) dc,.slice (some ⟨g,i*2,none⟩) (n-i) sc]).run Tryz.prog W=.ok (goInt (Nat.min (n-i) (n-i))) (W.setRow w.heap.size C2.toArray):=fun W hW ty dc sc=>by
  have h:=run_copy_k (P:=Tryz.prog) 2 W _ 25 ty 54 w.heap.size ((i+1)*2) (n-i) dc ⟨g,i*2,none⟩ (n-i) sc C1.toArray 54 (cellsE (xs.drop i)) Tryz.underlying25 hsz (by rw [hW];exact hW2) (by rw [hdl];simp only [Nat.min_def];split <;> omega)
   (fun j v hj=>by
    rw [plain_add]
    have hb:W.heap[g]?=w.heap[g]?:=by rw [hW,setRow_other _ _ _ _ (Nat.ne_of_lt hgw)];exact hOld g hgw
    refine (World.cell?_of_block (a:=⟨g,i*2+j,none⟩) hb).trans (hR.cells (i*2+j) v ?_)
    rw [←cellsE_drop,List.getElem?_drop] at hj
    exact hj)
   (by rw [hdl,List.size_toArray,hl1];omega) (cellsE_one _)
  rw [h,hC2]
 have HFin:Hid (∀ w',w'.heap=(((w.drew.alloc (.cells ROW 54)).setRow w.heap.size C1.toArray).setRow w.heap.size C2.toArray).heap→w'.os=w.os→w'.tape=w.tape→w'.output=w.output→RowE w' w.heap.size G (xs.take i ++ x :: xs.drop i)∧w.grownBy w' (some g)):=by
  intro w' hw' h1 h2 h3
  rw [setRow_setRow] at hw'
  have hB:Below w.heap.size w w':=⟨h1,h2,h3,by rw [hw',setRow_size];show w.heap.size≤(w.alloc _).heap.size;simp,fun k hk=>by rw [hw',setRow_other _ _ _ _ (Nat.ne_of_lt hk)];exact hOld k hk⟩
  refine ⟨⟨⟨C2.toArray,by rw [hw'];exact setRow_heap _ _ ROW _ _ _ hW1,by rw [List.size_toArray,hl2,hRl],ht2⟩,by simp;omega,hG63,fun y hy=>?_⟩,grown_below hB⟩
  refine PlTy.later ?_ hB
  rcases List.mem_append.1 hy with hy | hy
  ·exact hR.2.2.2 y (List.mem_of_mem_take hy)
  ·rcases List.mem_cons.1 hy with rfl | hy
   ·exact hx
   ·exact hR.2.2.2 y (List.mem_of_mem_drop hy)
 have hE1:((w.alloc (.cells ROW 54)).drew).heap=(w.drew.alloc (.cells ROW 54)).heap:=rfl
 have hF1:(((w.alloc (.cells ROW 54)).drew.setRow w.heap.size C1.toArray).drew).heap=((w.drew.alloc (.cells ROW 54)).setRow w.heap.size C1.toArray).heap:=rfl
 unfold Inserted
 rw [hnn]
 unfold maxLen at hG63
 have hn':(n:Int)≤3000:=by omega
 have hi':(i:Int)<(n:Int):=by omega
 have hr':(cap:Int)<(n:Int)+1:=by omega
 have hne : ¬ ((i:Int)=(n:Int)):=by omega
 have hGi : ¬ (G=i):=by omega
 have hGim : ¬ (G=i+1):=by omega
 have hci : ¬ (cap=i):=by omega
 have hw1:IntKind.i64.wrap ((i:Int)+1)=(i:Int)+1:=by rw [IntKind.wrap_i64];omega
 have hb1:(0:Int)≤(i:Int)+1:=by omega
 have htn:((i:Int)+1).toNat=i+1:=by omega
 have hin:i≤n:=by omega
 have hb3:(i:Int)≤(n:Int)+1:=by omega
 have hgl:g≤w.heap.size:=Nat.le_of_lt hgw
 clear hnn hl1 hl2 ht2 hC1 hC2 hdl htl hW1 hW2 hR hx hv hkk hik hold hROW hG hRs hRl hRt hx2 hOld
 go_enter Tryz.func77,Tryz.ntmps77
 go_wp2_with (first
  | (at_builtin;refine Lib.wpList_append_run _ rfl _ _ _ _ rfl _ _ rfl rfl _ _ (hrz _) ?_)
  | (at_builtin;refine wpList_copy_runI _ rfl _ _ 25 25 rfl _ _ rfl rfl (hcpA _ hE1 _ _) ?_))
 go_region_law (refine step_copy_runI rfl _ _ 25 25 rfl (.slice (some ⟨w.heap.size,(i+1)*2,none⟩) (n-i) (G-(i+1))) (.slice (some ⟨g,i*2,none⟩) (n-i) (cap-i)) (by simp [Act.eval,Act.put]) (by simp [Act.eval,Act.put]) (hcpB _ hF1 3 (G-(i+1)) (cap-i)) ?_)
 go_wp2_with fail
 go_ret
 obtain ⟨h1,h2⟩:=HFin.out (((w.alloc (.cells ROW 54)).drew.setRow w.heap.size C1.toArray).drew.setRow w.heap.size C2.toArray) rfl rfl rfl rfl
 exact ⟨w.heap.size,G,rfl,h1,hgl,h2⟩
theorem insert_any (g cap i vb:Nat) (xs:List EnL) (x:EnL) (w:World) (hn:xs.length≤3000) (hi:i≤xs.length) (hvb:vb≠g) (hR:RowE w g cap xs) (hx:PlTy w x.A x.c x.e.pl) (hv:OneE w vb x) :
  Calls Tryz.prog 77 #[.slice (some ⟨g,0,none⟩) xs.length cap,.int .i64 i,.slice (some ⟨vb,0,none⟩) 1 1] w fun e w'=>Inserted w g i xs x e w':=by
 rcases Nat.eq_or_lt_of_le hi with rfl | hlt
 ·exact insert_end g cap vb xs x w hn hR hx hv
 ·rcases Nat.lt_or_ge cap (xs.length+1) with hc | hc
  ·exact insert_grow g cap i vb xs x w hn hlt hc hR hx hv
  ·exact insert_shift g cap i vb xs x w hn hlt hc hvb hR hx hv
set_option maxHeartbeats 4000000 in
theorem delete_any (g cap i:Nat) (xs:List EnL) (w:World) (hn:xs.length≤3000) (hi:i<xs.length) (hR:RowE w g cap xs) :
  Calls Tryz.prog 76 #[.slice (some ⟨g,0,none⟩) xs.length cap,.int .i64 i,.int .i64 ((i:Int)+1)] w fun e w'=>e=.returned (.slice (some ⟨g,0,none⟩) (xs.length-1) cap)∧RowE w' g cap (xs.take i ++ xs.drop (i+1))∧w.grownBy w' (some g):=by
 obtain ⟨i0,hi0,hz0,hz1,hz2⟩:=info_parts Tryz.infoEnt
 have hcm:=hR.2.2.1
 unfold maxLen at hcm
 have hnc:=hR.2.1
 obtain ⟨⟨cur,hcur,hcs,hct⟩,-,-,hpl⟩:=id hR
 obtain ⟨n,hnn⟩:∃ n,xs.length=n:=⟨_,rfl⟩
 obtain ⟨news,hnews⟩:∃ news,news=cellsE (xs.drop (i+1)):=⟨_,rfl⟩
 have hdl:news.length=(n-(i+1))*2:=by rw [hnews,cellsE_len,List.length_drop,hnn]
 have hcl0:cur.toList.length=cap*2:=by simpa using hcs
 rw [hnn] at hn hi hnc
 obtain ⟨C1,hC1⟩:∃ C1,C1=cur.toList.take (i*2) ++ cellsE (xs.drop (i+1)) ++ cur.toList.drop (i*2+(cellsE (xs.drop (i+1))).length):=⟨_,rfl⟩
 obtain ⟨C2,hC2⟩:∃ C2,C2=C1.take ((xs.length-1)*2) ++ [.slice none 0 0,.int .i64 0] ++ C1.drop ((xs.length-1)*2+2):=⟨_,rfl⟩
 obtain ⟨hl2,ht2⟩:=del_cells hct (by rw [hcl0,hnn];omega) (by rw [hnn];exact hi) hC1 hC2
 have hl1:C1.length=cap*2:=by
  rw [hC1,←hnews]
  simp only [List.length_append,List.length_take,List.length_drop,hdl,hcl0]
  omega
 obtain ⟨A,hA,hsrc⟩:∃ A:Addr,(if cap=i+1 then some (⟨g,0,none⟩:Addr) else some ⟨g,(i+1)*2,none⟩)=some A∧Hid (∀ t u,news[t]?=some u→w.drew.cell? (A.add t)=some u):=by
  by_cases h:cap=i+1
  ·refine ⟨⟨g,0,none⟩,by simp [h],fun t u hu=>?_⟩
   have h0:news.length=0:=by rw [hdl];omega
   rw [List.length_eq_zero_iff.1 h0] at hu
   simp at hu
  ·refine ⟨⟨g,(i+1)*2,none⟩,by simp [h],fun t u hu=>?_⟩
   rw [hnews,←cellsE_drop,List.getElem?_drop] at hu
   rw [plain_add]
   exact hR.cells _ u hu
 have s1:Hid (news.length=(n-(i+1))*2):=hdl
 have s2:Hid (∀ u∈news,u.oneCell'=true):=by rw [hnews];exact cellsE_one _
 have s3:Hid (∀ t,t<news.length→(w.drew.cell? ⟨g,0+i*2+t,none⟩).isSome=true∧w.drew.frozen? ⟨g,0+i*2+t,none⟩=false):=by
  intro t ht
  rw [hdl] at ht
  exact ⟨hR.full (by omega),hR.frozen _⟩
 obtain ⟨W1,hW1⟩:∃ W1,W1=w.drew.setRow g C1.toArray:=⟨_,rfl⟩
 have HW:Hid (W1=w.drew.setCells g (0+i*2) news):=by
  show _=_
  rw [setCells_row g 54 news (0+i*2) cur w.drew hcur (by rw [hdl];omega),hW1,hC1,Nat.zero_add,hnews]
 have hW1h:W1.heap[g]?=some (.cells C1.toArray 54 (0,0)):=by rw [hW1];exact setRow_heap w.drew g cur _ _ _ hcur
 have hcl:∀ ty c,(Builtin.clear_ #[25] ty #[.slice (some ⟨g,(i+(n-(i+1)))*2,none⟩) (n-(i+(n-(i+1)))) c]).run Tryz.prog W1=.ok (.tuple #[]) (W1.setRow g C2.toArray):=fun ty c=>by
  rw [show n-(i+(n-(i+1)))=1 by omega,show i+(n-(i+1))=n-1 by omega]
  rw [run_clear_one W1 25 54 ty (.agg #[.slice none 0 0,.int .i64 0]) (.slice none 0 0) (.int .i64 0) Tryz.underlying25 Tryz.zeroValue54 rfl rfl rfl g ((n-1)*2) c C1.toArray 54 hW1h (by rw [List.size_toArray,hl1];omega),hC2,hnn]
 have HFin:Hid (RowE (W1.setRow g C2.toArray) g cap (xs.take i ++ xs.drop (i+1))∧w.grownBy (W1.setRow g C2.toArray) (some g)):=by
  rw [hW1,setRow_setRow]
  have hg':w.grownBy (w.drew.setRow g C2.toArray) (some g):=grown_trans (grown_drew (grown_refl w _)) (grown_setRow ..)
  refine ⟨⟨⟨C2.toArray,setRow_heap w.drew g cur _ _ _ hcur,by rw [List.size_toArray,hl2,hcl0],ht2⟩,by simp;omega,hR.2.2.1,fun y hy=>?_⟩,hg'⟩
  refine PlTy.grown ?_ hcur hg'
  rcases List.mem_append.1 hy with hy | hy
  ·exact hpl y (List.mem_of_mem_take hy)
  ·exact hpl y (List.mem_of_mem_drop hy)
 rw [hnn]
 have hn':(n:Int)≤3000:=by omega
 have hi':(i:Int)<(n:Int):=by omega
 have hc':(n:Int)≤(cap:Int):=by omega
 have htn:((i:Int)+1).toNat=i+1:=by omega
 have hb1:(0:Int)≤(i:Int)+1:=by omega
 have hb2:(i:Int)+1≤(n:Int):=by omega
 have hb3:(i:Int)+1≤(cap:Int):=by omega
 have hb4:(i:Int)≤(cap:Int):=by omega
 have hic:i≤cap:=by omega
 have hjc:i+1≤cap:=by omega
 have hRn:Hid (n-1=i+(n-(i+1))):=by show _=_;omega
 clear hnn hl1 hl2 ht2 hC1 hC2 hdl hW1 hW1h hR hcur hcs hct hcl0 hpl hnews
 go_enter Tryz.func76,Tryz.ntmps76
 go_wp2_with fail
 go_region_law (refine step_append_room rfl (.tmp 22) (.tmp 25) 25 rfl 54 i0 2 Tryz.underlying25 hi0 hz1 g 0 i cap (by simp [Act.eval,Act.put]) A (n-(i+1)) (cap-(i+1)) news (by simp [Act.eval,Act.put]) s1.out hsrc.out s2.out (by omega) s3.out ?_;rw [←HW.out])
 go_wp2_with fail
 go_ret
 rw [hRn.out]
 exact ⟨rfl,HFin.out⟩
end Go.Proofs.YtnegjdcedhnjdaaGreatDoor
namespace Go.Proofs.YtnegjdcedhnjdaaGreatDoor
open Go.ChangeShapes Go.WideShapes Go.ChangeAt Go.RowKit Go.Lib
set_option maxRecDepth 20000
theorem RowE.put {w:World} {g cap:Nat} {zs:List EnL} (h:RowE w g cap zs) (hk:zs.length<cap) {x:EnL} (hx:PlTy w x.A x.c x.e.pl):RowE ((w.setCell ⟨g,zs.length*2,none⟩ (.slice x.A x.e.pl.length x.c)).setCell ⟨g,zs.length*2+1,none⟩ (.int .i64 x.e.n)) g cap (zs ++ [x])∧w.grownBy ((w.setCell ⟨g,zs.length*2,none⟩ (.slice x.A x.e.pl.length x.c)).setCell ⟨g,zs.length*2+1,none⟩ (.int .i64 x.e.n)) (some g):=by
 obtain ⟨⟨cur,h1,h2,h3⟩,h4,h5,h6⟩:=id h
 have e:(w.setCell ⟨g,zs.length*2,none⟩ (.slice x.A x.e.pl.length x.c)).setCell ⟨g,zs.length*2+1,none⟩ (.int .i64 x.e.n)=w.setCells g (zs.length*2) (cellsE [x]):=rfl
 have hx2:(cellsE [x]).length=2:=by rw [cellsE_len];rfl
 have hl:cur.toList.length=cap*2:=by simpa using h2
 rw [e,setCells_row g 54 (cellsE [x]) (zs.length*2) cur w h1 (by rw [hx2];omega)]
 refine ⟨h.lay ?_ ?_ (by simp;omega) fun y hy=>?_,grown_setRow ..⟩
 ·simp only [List.length_append,List.length_take,List.length_drop,hx2,hl]
  omega
 ·rw [cellsE_append,h3]
  exact take_join (by simp only [List.length_append,cellsE_len,List.length_cons,List.length_nil];omega)
 ·rcases List.mem_append.1 hy with hy | hy
  ·exact h6 y hy
  ·rw [List.mem_singleton.1 hy];exact hx
theorem grown_set {w w':World} {g:Nat} (h:w.grownBy w' (some g)) (o:Nat) (v:Value):w.grownBy (w'.setCell ⟨g,o,none⟩ v) (some g) :=
 ⟨h.os,h.tape,h.output,by simpa using h.size,fun i hi hr=>(Below.heap_setCell w' ⟨g,o,none⟩ v i fun e=>hr (by rw [e])).trans (h.block i hi hr)⟩
theorem grown_new {w w':World} {r:Option Nat} (h:w.grownBy w' r) (o:Obj):w.grownBy (w'.alloc o) r :=
 ⟨h.os,h.tape,h.output,by have:=h.size;simp;omega,fun i hi hr=>(Below.heap_alloc w' o i (Nat.lt_of_lt_of_le hi h.size)).trans (h.block i hi hr)⟩
theorem keepG {W w':World} {g q:Nat} {u v:Value} (h:q<W.heap.size∧q≠g∧W.cell? ⟨q,0,none⟩=some u∧W.cell? ⟨q,1,none⟩=some v) (hG:W.grownBy w' (some g)):W.grownBy w' (some g)∧w'.cell? ⟨q,0,none⟩=some u∧w'.cell? ⟨q,1,none⟩=some v:=by
 have hb:w'.heap[q]?=W.heap[q]?:=hG.block q h.1 fun e=>h.2.1 (by simpa using e)
 exact ⟨hG,(World.cell?_of_block (a:=⟨q,0,none⟩) hb).trans h.2.2.1,(World.cell?_of_block (a:=⟨q,1,none⟩) hb).trans h.2.2.2⟩
set_option maxHeartbeats 8000000 in
theorem fresh_new (AE:Option Addr) (ce:Nat) (xs:List EnL) (w:World) (hn:xs.length≤3000) (hS:∀ k,k<xs.length→(xs.getD k noL).e.pl.length≤4) (hE:EnsV w AE ce xs) :
  Calls Tryz.prog 17 #[.slice AE xs.length ce] w fun e w'=>(∃ ys,e=.returned (.slice (some ⟨w.heap.size,0,none⟩) xs.length xs.length)∧RowE w' w.heap.size xs.length ys∧lE ys=lE xs∧NewE w.heap.size ys)∧Below w.heap.size w w':=by
 obtain ⟨i0,hi0,hz0,hz1,hz2⟩:=info_parts Tryz.infoEnt
 have HE:Hid (EnsV w AE ce xs):=hE
 have HS:Hid (∀ k,k<xs.length→(xs.getD k noL).e.pl.length≤4):=hS
 obtain ⟨n,hnn⟩:∃ n,xs.length=n:=⟨_,rfl⟩
 have HN:Hid (xs.length=n):=hnn
 rw [hnn] at hn ⊢
 have hmk:∀ w',(Instr.makeSlice 25 (.int .i64 n) (.int .i64 n)).run Tryz.prog w'=.ok (.slice (some ⟨w'.heap.size,0,none⟩) n n) (w'.alloc (.cells (madeCells (Value.agg #[.slice none 0 0,.int .i64 0]).cells (n*2)) 54)):=fun w'=>by
  have h:=run_make (P:=Tryz.prog) w' 25 54 i0 _ Tryz.underlying25 hi0 hz0 .i64 .i64 n n (by omega) (Int.le_refl _) (by rw [hz2];omega) (by omega)
  rw [hz1] at h
  simpa using h
 have HR0:Hid (RowE (w.alloc (.cells (madeCells (Value.agg #[.slice none 0 0,.int .i64 0]).cells (n*2)) 54)) w.heap.size n []):=⟨⟨_,heap_alloc_new w _,size_madeCells _ _,by simp [cellsE]⟩,Nat.zero_le _,by unfold maxLen;omega,fun x hx=>by cases hx⟩
 have hn':(n:Int)≤3000:=by omega
 clear hE hS hnn
 go_enter Tryz.func17,Tryz.ntmps17
 go_wp2_with fail
 clear hmk
 go_loopg [11] n (fun g s11 wr => ∃ (k:Nat) (zs:List EnL),k≤n∧g=n-k∧s11=.int .i64 k∧zs.length=k∧Hid (lE zs=(lE xs).take k∧NewE w.heap.size zs)∧RowE wr w.heap.size n zs∧Below w.heap.size w wr)
 case atStart=>exact ⟨0,[],Nat.zero_le _,rfl,rfl,rfl,(⟨by simp [lE],fun _ h=>by cases h⟩:lE []=(lE xs).take 0∧NewE w.heap.size []),HR0.out,by go_grown⟩
 case round =>
  obtain ⟨k,zs,hk,rfl,rfl,hzl,HZ,hRow,hBw⟩:=hrel
  have HRow:Hid (RowE wr w.heap.size n zs):=hRow
  have HBw:Hid (Below w.heap.size w wr):=hBw
  have HZL:Hid (zs.length=k):=hzl
  by_cases hlt:k<n
  ·have hkx:k<xs.length:=by rw [HN.out];exact hlt
   have hki:(k:Int)<(n:Int):=by omega
   obtain ⟨-,-,h0 | ⟨b,o,rfl,hEs⟩⟩:=HE.out.later hBw
   ·have:=HN.out;rw [h0] at this;simp at this;omega
   obtain ⟨c1,c2⟩:=hEs.at hkx
   have HCl:Hid (∀ w',Below wr.heap.size wr w'→Calls Tryz.prog 22 #[.slice (xs.getD k noL).A (xs.getD k noL).e.pl.length (xs.getD k noL).c] w' fun e w''=>(∃ A' c',e=.returned (.slice A' (xs.getD k noL).e.pl.length c')∧PlTy w'' A' c' (xs.getD k noL).e.pl∧NewA w.heap.size A')∧Below w'.heap.size w' w''):=fun w' hw'=>(clone_new _ _ _ w' (HS.out k hkx) ((hEs.pl hkx).later hw')).mono fun _ _ ⟨⟨A',c',h1,h2,h3⟩,h4⟩=>⟨⟨A',c',h1,h2,h3.le (Nat.le_trans HBw.out.size hw'.size)⟩,h4⟩
   have hBo:=ownEn_below wr (xs.getD k noL).A (xs.getD k noL).e.pl.length (xs.getD k noL).c (xs.getD k noL).e.n 54
   have HBo:Hid (Below wr.heap.size wr (ownEn wr (xs.getD k noL).A (xs.getD k noL).e.pl.length (xs.getD k noL).c (xs.getD k noL).e.n 54)):=hBo
   have hzo:=ownEn_size wr (xs.getD k noL).A (xs.getD k noL).e.pl.length (xs.getD k noL).c (xs.getD k noL).e.n 54
   have ho0:=ownEn_0 wr (xs.getD k noL).A (xs.getD k noL).e.pl.length (xs.getD k noL).c (xs.getD k noL).e.n 54
   have ho1:=ownEn_1 wr (xs.getD k noL).A (xs.getD k noL).e.pl.length (xs.getD k noL).c (xs.getD k noL).e.n 54
   have HLE:Hid ((lE xs).take (k+1)=(lE xs).take k ++ [(xs.getD k noL).e]):=by
    show _=_
    rw [List.take_succ_eq_append_getElem (by rw [lE_len];exact hkx),←lE_at,List.getD_eq_getElem?_getD,List.getElem?_eq_getElem (by rw [lE_len];exact hkx)]
    rfl
   have hwg:w.heap.size<wr.heap.size:=hRow.lt
   generalize xs.getD k noL=x at c1 c2 HCl HBo hzo ho0 ho1 HLE
   clear hEs hBo hRow hBw hzl
   have HPut:Hid (∀ (w3:World) (A':Option Addr) (c':Nat),RowE w3 w.heap.size n zs→PlTy w3 A' c' x.e.pl→RowE ((w3.setCell ⟨w.heap.size,k*2,none⟩ (.slice A' x.e.pl.length c')).setCell ⟨w.heap.size,k*2+1,none⟩ (.int .i64 x.e.n)) w.heap.size n (zs ++ [⟨x.e,A',c'⟩])∧w3.grownBy ((w3.setCell ⟨w.heap.size,k*2,none⟩ (.slice A' x.e.pl.length c')).setCell ⟨w.heap.size,k*2+1,none⟩ (.int .i64 x.e.n)) (some w.heap.size)):=fun w3 A' c' h1 h2=>by
    have h3:=h1.put (by rw [HZL.out];exact hlt) (x:=⟨x.e,A',c'⟩) h2
    rw [HZL.out] at h3
    exact h3
   have HLN:Hid (∀ A' c',NewA w.heap.size A'→lE (zs ++ [⟨x.e,A',c'⟩])=(lE xs).take (k+1)∧NewE w.heap.size (zs ++ [⟨x.e,A',c'⟩])):=fun A' c' hn'=>⟨by rw [lE_append,HZ.out.1,HLE.out];rfl,fun y hy=>by
    rcases List.mem_append.1 hy with hy | hy
    ·exact HZ.out.2 y hy
    ·rw [List.mem_singleton.1 hy];exact hn'⟩
   generalize hxl:x.e.pl.length=m at c1 HCl HBo hzo ho0 ho1 HPut
   generalize x.e.n=N at c2 HBo hzo ho0 ho1 HPut
   clear hxl HLE
   go_wp2_with fail
   obtain ⟨W2,hW2⟩:∃ W2,wr.alloc (.cells #[.slice x.A m x.c,.int .i64 N] 54)=W2:=⟨_,rfl⟩
   have hBo:Below wr.heap.size wr W2:=by rw [←hW2];exact HBo.out
   have hz2:wr.heap.size<W2.heap.size:=by rw [←hW2];show _<(ownEn wr x.A m x.c N 54).heap.size;rw [hzo];omega
   have HBox:Hid (wr.heap.size<W2.heap.size∧wr.heap.size≠w.heap.size∧W2.cell? ⟨wr.heap.size,0,none⟩=some (.slice x.A m x.c)∧W2.cell? ⟨wr.heap.size,1,none⟩=some (.int .i64 N)):=by rw [←hW2];exact ⟨by rw [hW2];exact hz2,by omega,ho0,ho1⟩
   have HB2:Hid (Below wr.heap.size wr W2):=hBo
   have HRow2:Hid (RowE W2 w.heap.size n zs):=HRow.out.later hBo
   rw [hW2]
   clear hW2 hBo hzo ho0 ho1 HBo c1 c2
   go_region_held3 (fun w'=>W2.grownBy w' (some w.heap.size)∧w'.cell? ⟨wr.heap.size,0,none⟩=some (.slice x.A m x.c)∧w'.cell? ⟨wr.heap.size,1,none⟩=some (.int .i64 N))
    ((refine keepG HBox.out ?_;(repeat (first | exact grown_refl _ _ | assumption | refine grown_drew ?_ | refine grown_set ?_ _ _));done))
    (first | (go_at_call 22;refine (HCl.out _ (onB HB2.out (by go_grown))).mono ?_;rintro e w3 ⟨⟨A',c',rfl,hPT,hNw⟩,hb3⟩;have hN3:=onB (W0:=W2) (by go_grown) hb3;have HNw:Hid (NewA w.heap.size A'):=hNw;clear hNw;have hG3:W2.grownBy w3 (some w.heap.size):=grown_below hN3;have HB3:Hid (Below W2.heap.size W2 w3):=hN3;have HPT:Hid (PlTy w3 A' c' x.e.pl):=hPT;obtain ⟨u0,d0⟩:=Option.isSome_iff_exists.1 ((HRow2.out.later hN3).full (j:=k*2) (by omega));obtain ⟨u1,d1⟩:=Option.isSome_iff_exists.1 ((HRow2.out.later hN3).full (j:=k*2+1) (by omega));have f0:=(HRow2.out.later hN3).frozen (k*2);have f1:=(HRow2.out.later hN3).frozen (k*2+1);clear hb3 hN3 hPT))
   clear d0 d1 f0 f1 hG3
   go_wp2_with fail
   go_roundg (n-(k+1))
   case measure=>omega
   case rel =>
    obtain ⟨h1,h2⟩:=HPut.out w3 A' c' (HRow2.out.later HB3.out) HPT.out
    refine ⟨k+1,_,by omega,rfl,by go_num,?_,HLN.out A' c' HNw.out,h1,?_⟩
    ·rw [List.length_append,HZL.out];rfl
    ·exact below_grown (onB HBw.out (onB HB2.out HB3.out)) h2 (onB HBw.out (onB HB2.out HB3.out)).size (Nat.le_refl _)
  ·have hke:k=n:=by omega
   subst hke
   have HFin:Hid (lE zs=lE xs∧NewE w.heap.size zs):=⟨by rw [HZ.out.1,List.take_of_length_le (by rw [lE_len,HN.out];exact Nat.le_refl _)],HZ.out.2⟩
   clear hRow hBw hzl
   go_wp2_with fail
   go_ret
   exact ⟨⟨zs,rfl,HRow.out,HFin.out⟩,HBw.out⟩
def Edited (M:Nat) (w:World) (g:Nat) (E:Int) (l:List En) (e:Ending) (w':World):Prop :=
 (∃ B c ys,e=.returned (.tuple #[.slice B ys.length c,errV E])∧((E≠0∧B=none∧c=0∧ys=[])∨(E=0∧∃ g',B=some ⟨g',0,none⟩∧g≤g'∧RowE w' g' c ys∧lE ys=l∧NewE M ys)))∧w.grownBy w' (some g)
theorem edit_set (D:Nat→Dm) (n:Nat) (l:List En) (p:List Int) (N:Int):editErr D n l ⟨p,N,false⟩=entOne D n ⟨p,N⟩:=by
 unfold editErr entOne
 rfl
set_option maxHeartbeats 8000000 in
theorem iset1_any {M:Nat} (A0:Option Addr) (cap n:Nat) (D:Nat→Dm) (A:Nat→Option Addr) (C:Nat→Nat) (g cg:Nat) (xs:List EnL) (Ap:Option Addr) (cp:Nat) (p:List Int) (N:Int) (w:World) (hM:DimsV w A0 cap n D A C) (hP:PlAt w Ap cp p) (hR:RowE w g cg xs) (hEs:Ens D n (lE xs)) (hMx:NewE M xs) (hMw:M≤w.heap.size) :
  Calls Tryz.prog 44 #[.agg #[.slice A0 n cap],.slice (some ⟨g,0,none⟩) xs.length cg,.agg #[.slice Ap p.length cp,.int .i64 N]] w fun e w'=>Edited M w g (editErr D n (lE xs) ⟨p,N,false⟩) (setL (lE xs) p N) e w':=by
 rw [edit_set]
 have hB0:=ownOE_below w A0 n cap Ap p.length cp N
 have h:=icheck1_any A0 cap n D A C Ap cp ⟨p,N⟩ (ownOE w A0 n cap Ap p.length cp N) hEs.right (hM.later hB0) (hP.later hB0)
 have HB0:Hid (Below w.heap.size w (ownOE w A0 n cap Ap p.length cp N)):=hB0
 have hS0:=ownOE_size w A0 n cap Ap p.length cp N
 have h00:=ownOE_0 w A0 n cap Ap p.length cp N
 have h01:=ownOE_1 w A0 n cap Ap p.length cp N
 have HP:Hid (PlAt w Ap cp p):=hP
 have HR:Hid (RowE w g cg xs):=hR
 have HEs:Hid (Ens D n (lE xs)):=hEs
 have hgw:g<w.heap.size:=hR.lt
 have hfew:=few_of hEs
 unfold Edited
 clear hM hP hB0 hR
 by_cases he:entOne D n ⟨p,N⟩=0
 ·obtain ⟨hI,-,-⟩:=entOne_right hEs.right he
  have HF:Hid (∀ w',Below w.heap.size w w'→Calls Tryz.prog 75 #[.slice (some ⟨g,0,none⟩) xs.length cg,.slice Ap p.length cp] w' fun e w''=>e=.returned (.tuple #[.int .i64 (cntE (lE xs) p:Nat),.bool (hasE (lE xs) p)])∧Below w'.heap.size w' w''):=fun w' hw'=>ifind_any _ _ xs Ap cp p w' hfew ((HR.out.later hw').ensV) HEs.out.rise (short_of HEs.out hI) (HP.out.later hw')
  have HCl:Hid (∀ w',Below w.heap.size w w'→Calls Tryz.prog 22 #[.slice Ap p.length cp] w' fun e w''=>(∃ A' c',e=.returned (.slice A' p.length c')∧PlTy w'' A' c' p∧NewA M A')∧Below w'.heap.size w' w''):=fun w' hw'=>(clone_new _ _ _ w' (inO_short hI) (HP.out.later hw')).mono fun _ _ ⟨⟨A',c',h1,h2,h3⟩,h4⟩=>⟨⟨A',c',h1,h2,h3.le (Nat.le_trans hMw hw'.size)⟩,h4⟩
  have hcl:=cnt_le (lE xs) p
  rw [lE_len] at hcl
  rw [he,errV_zero] at h ⊢
  clear he hI
  cases hh:hasE (lE xs) p
  ·-- nothing stood there
   have HIn:Hid (∀ (w3:World) (A':Option Addr) (c':Nat),Below w.heap.size w w3→PlTy w3 A' c' p∧NewA M A'→Calls Tryz.prog 77 #[.slice (some ⟨g,0,none⟩) xs.length cg,.int .i64 (cntE (lE xs) p:Nat),.slice (some ⟨w3.heap.size,0,none⟩) 1 1] (ownEn w3 A' p.length c' N 54) fun e w' => ∃ g' cap' ys,e=.returned (.slice (some ⟨g',0,none⟩) (xs.length+1) cap')∧ys.length=xs.length+1∧RowE w' g' cap' ys∧lE ys=setL (lE xs) p N∧NewE M ys∧g≤g'∧(ownEn w3 A' p.length c' N 54).grownBy w' (some g)):=fun w3 A' c' hw' hT=>by
    have hb:=ownEn_below w3 A' p.length c' N 54
    have h1:=insert_any g cg (cntE (lE xs) p) w3.heap.size xs ⟨⟨p,N⟩,A',c'⟩ (ownEn w3 A' p.length c' N 54) hfew hcl (by have:=hw'.size;omega) ((HR.out.later hw').later hb) (hT.1.later hb) (heap_alloc_new w3 _)
    refine h1.mono ?_
    rintro e w' ⟨g',cap',rfl,hRow,hgg,hgr⟩
    exact ⟨g',cap',_,rfl,by simp;omega,hRow,by rw [lE_ins,set_new hh],hMx.put hT.2,hgg,hgr⟩
   have HFF:Hid (∀ w',Below w.heap.size w w'→Calls Tryz.prog 75 #[.slice (some ⟨g,0,none⟩) xs.length cg,.slice Ap p.length cp] w' fun e w''=>e=.returned (.tuple #[.int .i64 (cntE (lE xs) p:Nat),.bool false])∧Below w'.heap.size w' w''):=fun w' hw'=>by have h1:=HF.out w' hw';rw [hh] at h1;exact h1
   clear HF hh
   generalize cntE (lE xs) p=i at HFF HIn hcl
   obtain ⟨m,hm⟩:∃ m,p.length=m:=⟨_,rfl⟩
   obtain ⟨nx,hnx⟩:∃ nx,xs.length=nx:=⟨_,rfl⟩
   rw [hm] at h HB0 hS0 h00 h01 HCl HFF HIn ⊢
   rw [hnx] at HFF HIn hfew hcl ⊢
   clear hm hnx
   go_enter Tryz.func44,Tryz.ntmps44
   go_wp2_with fail
   refine h.mono ?_
   rintro e w1 ⟨rfl,hb1⟩
   have hB1:Below w.heap.size w w1:=onB HB0.out hb1
   have HB1:Hid (Below w.heap.size w w1):=hB1
   have c0:w1.cell? ⟨w.heap.size+1,0,none⟩=some (.slice Ap m cp):=(hb1.cell (p:=⟨w.heap.size+1,0,none⟩) (by show w.heap.size+1<_;omega)).trans h00
   have c1:w1.cell? ⟨w.heap.size+1,1,none⟩=some (.int .i64 N):=(hb1.cell (p:=⟨w.heap.size+1,1,none⟩) (by show w.heap.size+1<_;omega)).trans h01
   have hz1:w.heap.size+1<w1.heap.size:=by have:=hb1.size;omega
   have h2:=HFF.out w1 hB1
   clear hb1 h hB1 h00 h01 hS0
   go_wp2_with fail
   refine h2.mono ?_
   rintro e w2 ⟨rfl,hb2⟩
   have HB2:Hid (Below w.heap.size w w2):=onB HB1.out hb2
   have d0:w2.cell? ⟨w.heap.size+1,0,none⟩=some (.slice Ap m cp):=(hb2.cell (p:=⟨w.heap.size+1,0,none⟩) hz1).trans c0
   have d1:w2.cell? ⟨w.heap.size+1,1,none⟩=some (.int .i64 N):=(hb2.cell (p:=⟨w.heap.size+1,1,none⟩) hz1).trans c1
   have HBox:Hid (w.heap.size+1<w2.heap.size∧w.heap.size+1≠g∧w2.cell? ⟨w.heap.size+1,0,none⟩=some (.slice Ap m cp)∧w2.cell? ⟨w.heap.size+1,1,none⟩=some (.int .i64 N)):=⟨Nat.lt_of_lt_of_le hz1 hb2.size,by omega,d0,d1⟩
   clear hb2 c0 c1 h2 d0 d1
   go_wp2_with fail
   go_region_held3 (fun w'=>w2.grownBy w' (some g)∧w'.cell? ⟨w.heap.size+1,0,none⟩=some (.slice Ap m cp)∧w'.cell? ⟨w.heap.size+1,1,none⟩=some (.int .i64 N))
    ((refine keepG HBox.out ?_;(repeat (first | exact grown_refl _ _ | assumption | refine grown_drew ?_ | refine grown_set ?_ _ _ | refine grown_new ?_ _));done))
    (first | (go_at_call 22;refine (HCl.out _ (onB HB2.out (by go_grown))).mono ?_;rintro e w3 ⟨⟨A',c',rfl,hPT,hNw⟩,hb3⟩;have hN3:=onB (W0:=w2) (by go_grown) hb3;have hG3:w2.grownBy w3 (some g):=grown_below hN3;have HB3:Hid (Below w2.heap.size w2 w3):=hN3;have HPT:Hid (PlTy w3 A' c' p∧NewA M A'):=⟨hPT,hNw⟩;clear hb3 hN3 hPT hNw) | (go_at_call 77;refine (HIn.out w3 A' c' (onB HB2.out HB3.out) HPT.out).mono ?_;rintro e w4 ⟨g',cap',ys,rfl,hyl,hRow,hle,hnw,hgg,hgr⟩;have hG4:w2.grownBy w4 (some g):=grown_trans (grown_trans hG3 (grown_below (ownEn_below ..))) hgr;have HRow:Hid (RowE w4 g' cap' ys):=hRow;have HLE:Hid (lE ys=setL (lE xs) p N∧NewE M ys):=⟨hle,hnw⟩;have HYL:Hid (ys.length=nx+1):=hyl;clear hRow hle hgr hyl hnw))
   go_wp2_with fail
   go_ret2
   exact ⟨⟨some ⟨g',0,none⟩,cap',ys,by rw [HYL.out];rfl,Or.inr ⟨by trivial,g',rfl,hgg,HRow.out,HLE.out⟩⟩,grown_trans (grown_below HB2.out) hG4⟩
  ·-- something stood there
   obtain ⟨hso,hil,-⟩:=set_old hh N
   have HSN:Hid (∀ w',Below w.heap.size w w'→RowE (w'.setCell ⟨g,cntE (lE xs) p*2+1,none⟩ (.int .i64 N)) g cg (xs.set (cntE (lE xs) p) ⟨⟨(xs.getD (cntE (lE xs) p) noL).e.pl,N⟩,(xs.getD (cntE (lE xs) p) noL).A,(xs.getD (cntE (lE xs) p) noL).c⟩)∧w'.grownBy (w'.setCell ⟨g,cntE (lE xs) p*2+1,none⟩ (.int .i64 N)) (some g)):=fun w' hw'=>(HR.out.later hw').setN (by rw [lE_len] at hil;exact hil) N
   have HLE:Hid (lE (xs.set (cntE (lE xs) p) ⟨⟨(xs.getD (cntE (lE xs) p) noL).e.pl,N⟩,(xs.getD (cntE (lE xs) p) noL).A,(xs.getD (cntE (lE xs) p) noL).c⟩)=setL (lE xs) p N∧NewE M (xs.set (cntE (lE xs) p) ⟨⟨(xs.getD (cntE (lE xs) p) noL).e.pl,N⟩,(xs.getD (cntE (lE xs) p) noL).A,(xs.getD (cntE (lE xs) p) noL).c⟩)):=⟨by rw [lE_set,hso,lE_at],hMx.set (by rw [lE_len] at hil;exact hil) _ _⟩
   have HFF:Hid (∀ w',Below w.heap.size w w'→Calls Tryz.prog 75 #[.slice (some ⟨g,0,none⟩) xs.length cg,.slice Ap p.length cp] w' fun e w''=>e=.returned (.tuple #[.int .i64 (cntE (lE xs) p:Nat),.bool true])∧Below w'.heap.size w' w''):=fun w' hw'=>by have h1:=HF.out w' hw';rw [hh] at h1;exact h1
   have HYL:Hid ((xs.set (cntE (lE xs) p) ⟨⟨(xs.getD (cntE (lE xs) p) noL).e.pl,N⟩,(xs.getD (cntE (lE xs) p) noL).A,(xs.getD (cntE (lE xs) p) noL).c⟩).length=xs.length):=List.length_set
   rw [lE_len] at hil
   clear HF hh hso
   generalize xs.set (cntE (lE xs) p) ⟨⟨(xs.getD (cntE (lE xs) p) noL).e.pl,N⟩,(xs.getD (cntE (lE xs) p) noL).A,(xs.getD (cntE (lE xs) p) noL).c⟩=ys at HSN HLE HYL
   generalize cntE (lE xs) p=i at HFF HSN hcl hil
   obtain ⟨m,hm⟩:∃ m,p.length=m:=⟨_,rfl⟩
   obtain ⟨nx,hnx⟩:∃ nx,xs.length=nx:=⟨_,rfl⟩
   rw [hm] at h HB0 hS0 h00 h01 HCl HFF ⊢
   rw [hnx] at HFF hfew hcl hil HYL ⊢
   have hil':(i:Int)<(nx:Int):=by omega
   have hcg:nx≤cg:=by rw [←hnx];exact HR.out.2.1
   clear hm hnx HCl
   go_enter Tryz.func44,Tryz.ntmps44
   go_wp2_with fail
   refine h.mono ?_
   rintro e w1 ⟨rfl,hb1⟩
   have hB1:Below w.heap.size w w1:=onB HB0.out hb1
   have HB1:Hid (Below w.heap.size w w1):=hB1
   have c0:w1.cell? ⟨w.heap.size+1,0,none⟩=some (.slice Ap m cp):=(hb1.cell (p:=⟨w.heap.size+1,0,none⟩) (by show w.heap.size+1<_;omega)).trans h00
   have c1:w1.cell? ⟨w.heap.size+1,1,none⟩=some (.int .i64 N):=(hb1.cell (p:=⟨w.heap.size+1,1,none⟩) (by show w.heap.size+1<_;omega)).trans h01
   have hz1:w.heap.size+1<w1.heap.size:=by have:=hb1.size;omega
   have h2:=HFF.out w1 hB1
   clear hb1 h hB1 h00 h01 hS0
   go_wp2_with fail
   refine h2.mono ?_
   rintro e w2 ⟨rfl,hb2⟩
   have hB2:Below w.heap.size w w2:=onB HB1.out hb2
   have HB2:Hid (Below w.heap.size w w2):=hB2
   have d1:w2.cell? ⟨w.heap.size+1,1,none⟩=some (.int .i64 N):=(hb2.cell (p:=⟨w.heap.size+1,1,none⟩) hz1).trans c1
   obtain ⟨u,hu⟩:=Option.isSome_iff_exists.1 ((HR.out.later hB2).full (j:=i*2+1) (by omega))
   have hf:=(HR.out.later hB2).frozen (i*2+1)
   clear hb2 c0 c1 h2 hB2
   go_wp2_with fail
   go_ret2
   obtain ⟨r1,r2⟩:=HSN.out w2 HB2.out
   exact ⟨⟨some ⟨g,0,none⟩,cg,ys,by rw [HYL.out];rfl,Or.inr ⟨by trivial,g,rfl,Nat.le_refl _,r1,HLE.out⟩⟩,grown_trans (grown_below HB2.out) r2⟩
 ·have HV:Hid (errV (entOne D n ⟨p,N⟩)=.iface 66 (.int .i64 (entOne D n ⟨p,N⟩))):=errV_some he
  rw [errV_some he] at h
  have HE:Hid (entOne D n ⟨p,N⟩≠0):=he
  generalize entOne D n ⟨p,N⟩=E at h HV HE
  generalize p.length=m at h HB0
  generalize xs.length=nx
  clear he hS0 h00 h01 hfew
  go_enter Tryz.func44,Tryz.ntmps44
  go_wp2_with fail
  refine h.mono ?_
  rintro e w1 ⟨rfl,hb1⟩
  have HB1:Hid (Below w.heap.size w w1):=onB HB0.out hb1
  clear hb1
  go_wp2_with fail
  go_ret2
  rw [HV.out]
  exact ⟨⟨none,0,[],rfl,Or.inl ⟨HE.out,rfl,rfl,rfl⟩⟩,grown_below HB1.out⟩
theorem edit_clr {D:Nat→Dm} {n:Nat} {l:List En} (hR:(allErr D n).2.2=0) (p:List Int) (N:Int):editErr D n l ⟨p,N,true⟩=if placeErr D n p≠0 then placeErr D n p else if hasE l p=true then 0 else 5:=by
 rw [pe1 hR]
 unfold editErr
 rfl
theorem clr_in {l:List En} {p:List Int} (h:hasE l p=true):cntE l p<l.length:=(set_old h 0).2.1
set_option maxHeartbeats 8000000 in
theorem without_any {M:Nat} (A0:Option Addr) (cap n:Nat) (D:Nat→Dm) (A:Nat→Option Addr) (C:Nat→Nat) (g cg:Nat) (xs:List EnL) (Ap:Option Addr) (cp:Nat) (p:List Int) (N:Int) (w:World) (hM:DimsV w A0 cap n D A C) (hP:PlAt w Ap cp p) (hR:RowE w g cg xs) (hEs:Ens D n (lE xs)) (hMx:NewE M xs) :
  Calls Tryz.prog 43 #[.agg #[.slice A0 n cap],.slice (some ⟨g,0,none⟩) xs.length cg,.slice Ap p.length cp] w fun e w'=>Edited M w g (editErr D n (lE xs) ⟨p,N,true⟩) (clrL (lE xs) p) e w':=by
 have hV:=edit_clr (l:=lE xs) hEs.right p N
 have hB0:=ownOut_below w A0 n cap 24
 have h:=pcheck_any A0 cap n D A C Ap cp p (ownOut w A0 n cap 24) (hM.later hB0) (hP.later hB0)
 have HB0:Hid (Below w.heap.size w (ownOut w A0 n cap 24)):=hB0
 have HP:Hid (PlAt w Ap cp p):=hP
 have HR:Hid (RowE w g cg xs):=hR
 have HEs:Hid (Ens D n (lE xs)):=hEs
 have hfew:=few_of hEs
 unfold Edited
 clear hM hP hB0 hR
 by_cases hp:placeErr D n p=0
 ·rw [if_neg (by simpa using hp)] at hV
  have hI:=inO_of hp
  have HF:Hid (∀ w',Below w.heap.size w w'→Calls Tryz.prog 75 #[.slice (some ⟨g,0,none⟩) xs.length cg,.slice Ap p.length cp] w' fun e w''=>e=.returned (.tuple #[.int .i64 (cntE (lE xs) p:Nat),.bool (hasE (lE xs) p)])∧Below w'.heap.size w' w''):=fun w' hw'=>ifind_any _ _ xs Ap cp p w' hfew ((HR.out.later hw').ensV) HEs.out.rise (short_of HEs.out hI) (HP.out.later hw')
  rw [hp,errV_zero] at h
  clear hp hI
  cases hh:hasE (lE xs) p
  ·rw [hh,if_neg (by simp)] at hV
   have HV:Hid (errV (editErr D n (lE xs) ⟨p,N,true⟩)=.iface 66 (.int .i64 5)∧editErr D n (lE xs) ⟨p,N,true⟩≠0):=by rw [hV];exact ⟨rfl,by decide⟩
   have HFF:Hid (∀ w',Below w.heap.size w w'→Calls Tryz.prog 75 #[.slice (some ⟨g,0,none⟩) xs.length cg,.slice Ap p.length cp] w' fun e w''=>e=.returned (.tuple #[.int .i64 (cntE (lE xs) p:Nat),.bool false])∧Below w'.heap.size w' w''):=fun w' hw'=>by have h1:=HF.out w' hw';rw [hh] at h1;exact h1
   clear HF hh hV
   generalize cntE (lE xs) p=i at HFF
   generalize editErr D n (lE xs) ⟨p,N,true⟩=E at HV
   obtain ⟨m,hm⟩:∃ m,p.length=m:=⟨_,rfl⟩
   obtain ⟨nx,hnx⟩:∃ nx,xs.length=nx:=⟨_,rfl⟩
   rw [hm] at h HFF ⊢
   rw [hnx] at HFF hfew ⊢
   clear hm hnx
   go_enter Tryz.func43,Tryz.ntmps43
   go_wp2_with fail
   refine h.mono ?_
   rintro e w1 ⟨rfl,hb1⟩
   have hB1:Below w.heap.size w w1:=onB HB0.out hb1
   have HB1:Hid (Below w.heap.size w w1):=hB1
   have h2:=HFF.out w1 hB1
   clear hb1 h hB1
   go_wp2_with fail
   refine h2.mono ?_
   rintro e w2 ⟨rfl,hb2⟩
   have HB2:Hid (Below w.heap.size w w2):=onB HB1.out hb2
   clear hb2 h2
   go_wp2_with fail
   go_ret2
   rw [HV.out.1]
   exact ⟨⟨none,0,[],rfl,Or.inl ⟨HV.out.2,rfl,rfl,rfl⟩⟩,grown_below HB2.out⟩
  ·rw [hh,if_pos rfl] at hV
   have hil:=clr_in hh
   rw [lE_len] at hil
   have HDel:Hid (∀ w',Below w.heap.size w w'→Calls Tryz.prog 76 #[.slice (some ⟨g,0,none⟩) xs.length cg,.int .i64 (cntE (lE xs) p:Nat),.int .i64 ((cntE (lE xs) p:Int)+1)] w' fun e w''=>e=.returned (.slice (some ⟨g,0,none⟩) (xs.length-1) cg)∧RowE w'' g cg (xs.take (cntE (lE xs) p) ++ xs.drop (cntE (lE xs) p+1))∧w'.grownBy w'' (some g)):=fun w' hw'=>delete_any g cg (cntE (lE xs) p) xs w' hfew hil (HR.out.later hw')
   have HLE:Hid (lE (xs.take (cntE (lE xs) p) ++ xs.drop (cntE (lE xs) p+1))=clrL (lE xs) p∧NewE M (xs.take (cntE (lE xs) p) ++ xs.drop (cntE (lE xs) p+1))):=⟨by unfold clrL;rw [lE_append,lE_take,lE_drop],hMx.cut⟩
   have HYL:Hid ((xs.take (cntE (lE xs) p) ++ xs.drop (cntE (lE xs) p+1)).length=xs.length-1):=by show _=_;simp;omega
   have HFF:Hid (∀ w',Below w.heap.size w w'→Calls Tryz.prog 75 #[.slice (some ⟨g,0,none⟩) xs.length cg,.slice Ap p.length cp] w' fun e w''=>e=.returned (.tuple #[.int .i64 (cntE (lE xs) p:Nat),.bool true])∧Below w'.heap.size w' w''):=fun w' hw'=>by have h1:=HF.out w' hw';rw [hh] at h1;exact h1
   rw [hV,errV_zero]
   clear HF hh hV
   generalize hys:xs.take (cntE (lE xs) p) ++ xs.drop (cntE (lE xs) p+1)=ys at HDel HLE HYL
   clear hys
   generalize cntE (lE xs) p=i at HFF HDel hil
   obtain ⟨m,hm⟩:∃ m,p.length=m:=⟨_,rfl⟩
   obtain ⟨nx,hnx⟩:∃ nx,xs.length=nx:=⟨_,rfl⟩
   rw [hm] at h HFF ⊢
   rw [hnx] at HFF HDel hfew hil HYL ⊢
   have hil':(i:Int)<(nx:Int):=by omega
   clear hm hnx
   go_enter Tryz.func43,Tryz.ntmps43
   go_wp2_with fail
   refine h.mono ?_
   rintro e w1 ⟨rfl,hb1⟩
   have hB1:Below w.heap.size w w1:=onB HB0.out hb1
   have HB1:Hid (Below w.heap.size w w1):=hB1
   have h2:=HFF.out w1 hB1
   clear hb1 h hB1
   go_wp2_with fail
   refine h2.mono ?_
   rintro e w2 ⟨rfl,hb2⟩
   have hB2:Below w.heap.size w w2:=onB HB1.out hb2
   have HB2:Hid (Below w.heap.size w w2):=hB2
   have h3:=HDel.out w2 hB2
   clear hb2 h2 hB2
   go_wp2_with fail
   refine h3.mono ?_
   rintro e w3 ⟨rfl,hRow,hgr⟩
   have HRow:Hid (RowE w3 g cg ys):=hRow
   have HG:Hid (w2.grownBy w3 (some g)):=hgr
   clear hRow hgr h3
   go_wp2_with fail
   go_ret2
   exact ⟨⟨some ⟨g,0,none⟩,cg,ys,by rw [HYL.out];rfl,Or.inr ⟨by trivial,g,rfl,Nat.le_refl _,HRow.out,HLE.out⟩⟩,grown_trans (grown_below HB2.out) HG.out⟩
 ·rw [if_pos (by simpa using hp)] at hV
  have HV:Hid (errV (editErr D n (lE xs) ⟨p,N,true⟩)=.iface 66 (.int .i64 (placeErr D n p))∧editErr D n (lE xs) ⟨p,N,true⟩≠0):=by rw [hV];exact ⟨errV_some hp,hp⟩
  rw [errV_some hp] at h
  clear hp hV
  generalize placeErr D n p=F at h HV
  generalize editErr D n (lE xs) ⟨p,N,true⟩=E at HV
  generalize p.length=m at h
  generalize xs.length=nx
  clear hfew
  go_enter Tryz.func43,Tryz.ntmps43
  go_wp2_with fail
  refine h.mono ?_
  rintro e w1 ⟨rfl,hb1⟩
  have HB1:Hid (Below w.heap.size w w1):=onB HB0.out hb1
  clear hb1
  go_wp2_with fail
  go_ret2
  rw [HV.out.1]
  exact ⟨⟨none,0,[],rfl,Or.inl ⟨HV.out.2,rfl,rfl,rfl⟩⟩,grown_below HB1.out⟩
theorem fresh_of {D:Nat→Dm} {n:Nat} {xs:List EnL} (hEs:Ens D n (lE xs)):∀ k,k<xs.length→(xs.getD k noL).e.pl.length≤4:=fun k hk=>by
 have h1:(xs.getD k noL).e∈lE xs:=List.mem_map.2 ⟨_,enl_mem hk,rfl⟩
 exact inO_short (hEs.each _ h1).1
theorem len_eq {xs ys:List EnL} (h:lE ys=lE xs):ys.length=xs.length:=by rw [←lE_len,h,lE_len]
end Go.Proofs.YtnegjdcedhnjdaaGreatDoor
namespace Go.Proofs.YtnegjdcedhnjdaaGreatDoor
open Go.ChangeShapes Go.WideShapes Go.ChangeAt Go.RowKit
set_option maxRecDepth 20000
theorem getD_set {L:List (Int×Int)} {x y:Nat} {c:Int×Int} (hx:x<L.length):(L.set x c).getD y (0,0)=if y=x then c else L.getD y (0,0):=by
 by_cases e:y=x
 ·subst e;rw [if_pos rfl];simp [List.getD,hx]
 ·rw [if_neg e];simp [List.getD,List.getElem?_set_ne (fun h=>e h.symm)]
theorem list_same {a b:List (Int×Int)} (hl:a.length=b.length) (h:∀ y,y<a.length→a.getD y (0,0)=b.getD y (0,0)):a=b:=by
 apply List.ext_getElem hl
 intro y h1 h2
 have:=h y h1
 simpa [List.getD,h1,h2] using this
section
variable {D:Nat→Dm} {n dim:Nat} (hp:∀ i,i<n→1≤(D i).n) (hd:dim<n) (ht:Tr (D dim).mem (D dim).n)
include hp hd ht
def FixAt (D:Nat→Dm) (n dim m:Nat) (L:List (Int×Int)):Prop := ∀ y,y<L.length→y / stepD D n dim % (D dim).n=m→partsOf (D dim).mem (D dim).n (m:Int)≠[]→L.getD y (0,0)=partsV (D dim).mem (atP D n dim m y L) (partsOf (D dim).mem (D dim).n m)
end
end Go.Proofs.YtnegjdcedhnjdaaGreatDoor
namespace Go.Proofs.YtnegjdcedhnjdaaGreatDoor
open Go.ChangeShapes Go.WideShapes Go.ChangeAt Go.RowKit
theorem eachO {w:World} {o:Obj} {k:Nat} {x:Obj} (h:w.heap[k]?=some x):(w.alloc o).heap[k]?=some x:=by
 rw [heap_alloc_old _ _ (Array.getElem?_eq_some_iff.1 h).1]
 exact h
theorem eachN {w:World} {cs:Array Value} {t k:Nat} (h:w.heap.size=k):(w.alloc (.cells cs t)).heap[k]?=some (.cells cs t (0,0)):=by
 subst h
 exact heap_alloc_new ..
end Go.Proofs.YtnegjdcedhnjdaaGreatDoor
