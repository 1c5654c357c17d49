/-
  What add, join and settle of package formula's builder do, in whatever memory.
-/
import Derived.Test.YtpoklbfffgpbiaaGreatDoorJXAU
namespace Go.Proofs.YtpoklbfffgpbiaaGreatDoor
open Go.ChangeShapes Go.WideShapes Go.ChangeAt Go.RowKit
set_option maxRecDepth 20000
theorem Tryz.infoIntF:(Tryz.prog.info? 3).map (fun i=>(i.zero,i.size,i.bytes))=some (some (.int .i64 0),1,8):=by kernel_rfl
theorem Tryz.infoNdF:(Tryz.prog.info? 186).map (fun i=>(i.zero,i.size,i.bytes))=some (some (.agg #[.int .i64 0,.int .i64 0,.string ⟨#[]⟩,.int .i64 0,.int .i64 0]),5,48):=by kernel_rfl
def ndV (x:Nd):Value:=.agg #[.int .i64 x.op,.int .i64 x.n,.string x.name,.int .i64 x.left,.int .i64 x.right]
theorem BldV.reach {N p cN cR cW:Nat} {AN AR AW:Option Addr} {b:Bld} {w W w2:World} {row:Option Nat} (h:BldV N p AN cN AR cR AW cW b w) (hb:Below w.heap.size w W) (hg:W.grownBy w2 row) (hr:∀ g,row=some g→N≤g):w2.heap[p]?=w.heap[p]?:=by
 have hlt:=h.lt
 have hlow:=h.low
 exact (hg.block p (Nat.lt_of_lt_of_le hlt hb.size) (fun e=>by have:=hr p e.symm;omega)).trans (hb.block p hlt)
theorem topF1 (w:World) (o o':Obj):((w.alloc o).alloc o').heap[w.heap.size+1]?=some o':=by
 have h:=heap_alloc_new (w.alloc o) o'
 simpa using h
theorem topF1d (w:World) (o o':Obj):((w.alloc o).alloc o').drew.heap[w.heap.size+1]?=some o':=topF1 w o o'
theorem topF0 (w:World) (o o':Obj):((w.alloc o).alloc o').heap[w.heap.size]?=some o:=by
 rw [heap_alloc_old _ _ (by simp)]
 exact heap_alloc_new w o
theorem topF0d (w:World) (o o':Obj):((w.alloc o).alloc o').drew.heap[w.heap.size]?=some o:=topF0 w o o'
theorem topFd (w:World) (o:Obj):(w.alloc o).drew.heap[w.heap.size]?=some o:=heap_alloc_new w o
set_option maxHeartbeats 4000000 in
theorem add_any (N p:Nat) (b:Bld) (x:Nd) (w:World) (hN:N≤w.heap.size) (h1:b.nodes.length≤200) (h2:b.ready.length≤200) (hB:BldAt N p b w) :
  Calls Tryz.prog 160 #[.pointer (some ⟨p,0,none⟩),ndV x] w fun e w'=>e=.returned (.tuple #[])∧BldAt N p (addB x b) w'∧Kept N (fun k=>k=p) w w':=by
 obtain ⟨AN,cN,AR,cR,AW,cW,hV⟩:=hB
 obtain ⟨i0,hi0,hz0,hz1,hz2⟩:=info_parts Tryz.infoIntF
 obtain ⟨i1,hj0,hj1,hj2,hj3⟩:=info_parts Tryz.infoNdF
 unfold ndV
 have c0:=hV.c0
 have c1:=hV.c1
 have f0:=hV.fr 0
 have f1:=hV.fr 1
 have hlt:=hV.lt
 have HV:Hid (BldV N p AN cN AR cR AW cW b w):=hV
 obtain ⟨m,hm⟩:∃ m,b.nodes.length=m:=⟨_,rfl⟩
 obtain ⟨k,hk⟩:∃ k,b.ready.length=k:=⟨_,rfl⟩
 have HO:Hid (∀ w',Below w.heap.size w w'→w'.ownsRow N 3 1 (.slice AR k cR) k (mapI b.ready)):=fun w' hb=>by have:=(hV.later hb).rdy;rw [hk] at this;exact this
 have HRch:Hid (∀ (W w2:World),Below w.heap.size w W→W.grownBy w2 (Value.slice AR k cR).ownBlock→w2.cell? ⟨p,1,none⟩=some (.slice AR k cR)∧w2.frozen? ⟨p,1,none⟩=false):=by
  intro W w2 hb hg
  have h:=hV.reach hb hg (fun g e=>(own_block hV.rdy (by rw [hk];exact e)).1)
  have hh:=h.trans hV.blk
  exact ⟨by simp [World.cell?,hh,hk],by simp [World.frozen?,hh]⟩
 have HSt:Hid (∀ (W w6:World) (gg cg:Nat),Below w.heap.size w W→W.heap.size=w.heap.size+2→W.heap[w.heap.size]?=some (.cells #[.int .i64 x.op,.int .i64 x.n,.string x.name,.int .i64 x.left,.int .i64 x.right] 186 (0,0))→W.grownBy w6 (Value.slice AR k cR).ownBlock→w6.ownsRow N 3 1 (.slice (some ⟨gg,0,none⟩) (k+1) cg) (k+1) (mapI b.ready ++ [.int .i64 m])→((Value.slice AR k cR).ownBlock=some gg∨gg=w.heap.size+2) →
   BldV N p AN cN (some ⟨gg,0,none⟩) cg AW cW ⟨b.nodes,b.ready ++ [(m:Int)],b.waiting⟩ (w6.setCell ⟨p,1,none⟩ (.slice (some ⟨gg,0,none⟩) (k+1) cg))∧Kept N (fun k=>k=p) w (w6.setCell ⟨p,1,none⟩ (.slice (some ⟨gg,0,none⟩) (k+1) cg))∧(w6.setCell ⟨p,1,none⟩ (.slice (some ⟨gg,0,none⟩) (k+1) cg)).heap[w.heap.size]?=some (.cells #[.int .i64 x.op,.int .i64 x.n,.string x.name,.int .i64 x.left,.int .i64 x.right] 186 (0,0))):=by
  intro W w6 gg cg hb hz hbox hg ho hat
  have hL:(b.ready ++ [(m:Int)]).length=k+1:=by simp [hk]
  have h:=hV.ready (L:=b.ready ++ [(m:Int)]) (g:=gg) (c:=cg) (w2:=w6) hN hb (by rw [hk];exact hg) (by rw [hL,mapI_snoc];exact ho) (by rw [hk,hz];exact hat)
  rw [hL] at h
  refine ⟨h.1,h.2,?_⟩
  rw [setCell_off _ _ _ _ _ (by omega),hg.block w.heap.size (by omega) (fun e=>by have:=(own_block hV.rdy (by rw [hk];exact e.symm)).2.1;omega)]
  exact hbox
 rw [hm] at c0
 rw [hk] at c1
 have hkm:(k:Int)≤200:=by omega
 clear hV
 go_enter Tryz.func160,Tryz.ntmps160
 go_wp2_with fail
 go_cut [] from 4 (fun wx => ∃ A c,BldV N p AN cN A c AW cW ⟨b.nodes,b.ready ++ [(m:Int)],b.waiting⟩ wx∧Kept N (fun k=>k=p) w wx∧wx.heap[w.heap.size]?=some (.cells #[.int .i64 x.op,.int .i64 x.n,.string x.name,.int .i64 x.left,.int .i64 x.right] 186 (0,0)))
 case first =>
  go_region_law (refine step_append_lies _ (by rfl) _ _ _ (by rfl) N 3 i0 _ 1 8 Tryz.underlying33 hi0 hz0 hz1 hz2 rfl (by omega) (.slice AR k cR) k (mapI b.ready) (by rfl) (HO.out _ (by go_grown)) ⟨w.heap.size+1,0,none⟩ 1 1 [.int .i64 m] (by rfl) (by rfl) (World.news_of_block (cs := #[.int .i64 m]) (t:=3) (fr:=(0,0)) (topF1d w _ _)) (by simp [Value.oneCell']) (by omega) (by unfold maxLen;omega) (by omega) (by simp;omega) (w.heap.size+2) (by simp) ?_;intro gg cg w6 hown6 hgrow hat hlt6;obtain ⟨y1,y2⟩:=HRch.out _ _ (by go_grown) hgrow)
  all_goals (have HS:=HSt.out _ _ _ _ (by go_grown) (by simp) (topF0d w _ _) hgrow hown6 hat)
  all_goals clear hgrow hown6 hat
  all_goals (go_wp2_with fail;go_meet;exact ⟨_,_,HS⟩)
 case rest =>
  obtain ⟨A1,c1',hV1,hK1,hbox⟩:=hcut
  obtain ⟨wx,rfl⟩:∃ wx:World,wx=wc:=⟨_,rfl⟩
  have d0:=hV1.c0
  have g0:=hV1.fr 0
  have hlt1:=hV1.lt
  have hsz1:=hK1.size
  have HV1:Hid (BldV N p AN cN A1 c1' AW cW ⟨b.nodes,b.ready ++ [(m:Int)],b.waiting⟩ wx):=hV1
  have HK1:Hid (Kept N (fun k=>k=p) w wx):=hK1
  have hbs:w.heap.size<wx.heap.size:=(Array.getElem?_eq_some_iff.1 hbox).1
  have b0:wx.cell? ⟨w.heap.size,0,none⟩=some (.int .i64 x.op):=by simp [World.cell?,hbox]
  have b1:wx.cell? ⟨w.heap.size,1,none⟩=some (.int .i64 x.n):=by simp [World.cell?,hbox]
  have b2:wx.cell? ⟨w.heap.size,2,none⟩=some (.string x.name):=by simp [World.cell?,hbox]
  have b3:wx.cell? ⟨w.heap.size,3,none⟩=some (.int .i64 x.left):=by simp [World.cell?,hbox]
  have b4:wx.cell? ⟨w.heap.size,4,none⟩=some (.int .i64 x.right):=by simp [World.cell?,hbox]
  rw [hm] at d0
  have HO1:Hid (∀ w',Below wx.heap.size wx w'→w'.ownsRow N 186 5 (.slice AN m cN) m (cellsN b.nodes)):=fun w' hb=>by have:=(hV1.later hb).nod;rw [hm] at this;exact this
  have HRch1:Hid (∀ (W w2:World),Below wx.heap.size wx W→W.grownBy w2 (Value.slice AN m cN).ownBlock→w2.cell? ⟨p,0,none⟩=some (.slice AN m cN)∧w2.frozen? ⟨p,0,none⟩=false):=by
   intro W w2 hb hg
   have h:=hV1.reach hb hg (fun g e=>(own_block hV1.nod (by rw [hm];exact e)).1)
   have hh:=h.trans hV1.blk
   exact ⟨by simp [World.cell?,hh,hm],by simp [World.frozen?,hh]⟩
  have HSt1:Hid (∀ (W w6:World) (gg cg:Nat),Below wx.heap.size wx W→W.grownBy w6 (Value.slice AN m cN).ownBlock→w6.ownsRow N 186 5 (.slice (some ⟨gg,0,none⟩) (m+1) cg) (m+1) (cellsN b.nodes ++ [.int .i64 x.op,.int .i64 x.n,.string x.name,.int .i64 x.left,.int .i64 x.right]) →
    BldAt N p (addB x b) (w6.setCell ⟨p,0,none⟩ (.slice (some ⟨gg,0,none⟩) (m+1) cg))∧Kept N (fun k=>k=p) w (w6.setCell ⟨p,0,none⟩ (.slice (some ⟨gg,0,none⟩) (m+1) cg))):=by
   intro W w6 gg cg hb hg ho
   have hL:(b.nodes ++ [x]).length=m+1:=by simp [hm]
   have h:=hV1.node (L:=b.nodes ++ [x]) (g:=gg) (c:=cg) (w2:=w6) (by omega) hb (by rw [hm];exact hg) (by rw [hL,cellsN_snoc];exact ho)
   rw [hL] at h
   refine ⟨?_,HK1.out.trans h.2⟩
   have h1:=h.1
   rw [←hm] at h1 ⊢
   exact ⟨_,_,_,_,_,_,h1⟩
  clear hV1 hK1 HV HO HRch HSt
  go_wp2_with fail
  go_region_law (refine step_append_lies _ (by rfl) _ _ _ (by rfl) N 186 i1 _ 5 48 Tryz.underlying156 hj0 hj1 hj2 hj3 rfl (by omega) (.slice AN m cN) m (cellsN b.nodes) (by rfl) (HO1.out _ (by go_grown)) ⟨wx.heap.size,0,none⟩ 1 1 [.int .i64 x.op,.int .i64 x.n,.string x.name,.int .i64 x.left,.int .i64 x.right] (by rfl) (by rfl) (World.news_of_block (cs := #[.int .i64 x.op,.int .i64 x.n,.string x.name,.int .i64 x.left,.int .i64 x.right]) (t:=186) (fr:=(0,0)) (topFd wx _)) (by simp [Value.oneCell']) (by omega) (by unfold maxLen;omega) (by omega) (by simp;omega) (wx.heap.size+1) (by simp) ?_;intro gg cg w6 hown6 hgrow hat hlt6;obtain ⟨y1,y2⟩:=HRch1.out _ _ (by go_grown) hgrow)
  all_goals (have HS:=HSt1.out _ _ _ _ (by go_grown) hgrow hown6)
  all_goals clear hgrow hown6 hat
  all_goals (go_wp2_with fail;go_end0;exact ⟨rfl,HS⟩)
end Go.Proofs.YtpoklbfffgpbiaaGreatDoor
