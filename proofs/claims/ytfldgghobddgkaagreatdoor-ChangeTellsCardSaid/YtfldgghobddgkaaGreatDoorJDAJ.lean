/-
  What add, join and settle of package formula's builder do, in whatever memory.
-/
import Derived.Test.YtfldgghobddgkaaGreatDoorJDAI
namespace Go.Proofs.YtfldgghobddgkaaGreatDoor
open Go.ChangeShapes Go.WideShapes Go.ChangeAt Go.RowKit
set_option maxRecDepth 20000
theorem Tryz.infoIntF:(Tryz.prog.info? 3).map (fun i=>(i.zero,i.size,i.bytes))=some (some (.int .i64 0),1,8):=by kernel_rfl
theorem Tryz.infoNdF:(Tryz.prog.info? 62).map (fun i=>(i.zero,i.size,i.bytes))=some (some (.agg #[.int .i64 0,.int .i64 0,.string ⟨#[]⟩,.int .i64 0,.int .i64 0]),5,48):=by kernel_rfl
def ndV (x:Nd):Value:=.agg #[.int .i64 x.op,.int .i64 x.n,.string x.name,.int .i64 x.left,.int .i64 x.right]
theorem BldV.reach {N p cN cR cW:Nat} {AN AR AW:Option Addr} {b:Bld} {w W w2:World} {row:Option Nat} (h:BldV N p AN cN AR cR AW cW b w) (hb:Below w.heap.size w W) (hg:W.grownBy w2 row) (hr:∀ g,row=some g→N≤g):w2.heap[p]?=w.heap[p]?:=by
 have hlt:=h.lt
 have hlow:=h.low
 exact (hg.block p (Nat.lt_of_lt_of_le hlt hb.size) (fun e=>by have:=hr p e.symm;omega)).trans (hb.block p hlt)
theorem topF1 (w:World) (o o':Obj):((w.alloc o).alloc o').heap[w.heap.size+1]?=some o':=by
 have h:=heap_alloc_new (w.alloc o) o'
 simpa using h
theorem topF1d (w:World) (o o':Obj):((w.alloc o).alloc o').drew.heap[w.heap.size+1]?=some o':=topF1 w o o'
theorem topF0 (w:World) (o o':Obj):((w.alloc o).alloc o').heap[w.heap.size]?=some o:=by
 rw [heap_alloc_old _ _ (by simp)]
 exact heap_alloc_new w o
theorem topF0d (w:World) (o o':Obj):((w.alloc o).alloc o').drew.heap[w.heap.size]?=some o:=topF0 w o o'
theorem topFd (w:World) (o:Obj):(w.alloc o).drew.heap[w.heap.size]?=some o:=heap_alloc_new w o
set_option maxHeartbeats 4000000 in
theorem add_any (N p:Nat) (b:Bld) (x:Nd) (w:World) (hN:N≤w.heap.size) (h1:b.nodes.length≤200) (h2:b.ready.length≤200) (hB:BldAt N p b w) :
  Calls Tryz.prog 140 #[.pointer (some ⟨p,0,none⟩),ndV x] w fun e w'=>e=.returned (.tuple #[])∧BldAt N p (addB x b) w'∧Kept N (fun k=>k=p) w w':=by
 obtain ⟨AN,cN,AR,cR,AW,cW,hV⟩:=hB
 obtain ⟨i0,hi0,hz0,hz1,hz2⟩:=info_parts Tryz.infoIntF
 obtain ⟨i1,hj0,hj1,hj2,hj3⟩:=info_parts Tryz.infoNdF
 unfold ndV
 have c0:=hV.c0
 have c1:=hV.c1
 have f0:=hV.fr 0
 have f1:=hV.fr 1
 have hlt:=hV.lt
 have HV:Hid (BldV N p AN cN AR cR AW cW b w):=hV
 obtain ⟨m,hm⟩:∃ m,b.nodes.length=m:=⟨_,rfl⟩
 obtain ⟨k,hk⟩:∃ k,b.ready.length=k:=⟨_,rfl⟩
 have HO:Hid (∀ w',Below w.heap.size w w'→w'.ownsRow N 3 1 (.slice AR k cR) k (mapI b.ready)):=fun w' hb=>by have:=(hV.later hb).rdy;rw [hk] at this;exact this
 have HRch:Hid (∀ (W w2:World),Below w.heap.size w W→W.grownBy w2 (Value.slice AR k cR).ownBlock→w2.cell? ⟨p,1,none⟩=some (.slice AR k cR)∧w2.frozen? ⟨p,1,none⟩=false):=by
  intro W w2 hb hg
  have h:=hV.reach hb hg (fun g e=>(own_block hV.rdy (by rw [hk];exact e)).1)
  have hh:=h.trans hV.blk
  exact ⟨by simp [World.cell?,hh,hk],by simp [World.frozen?,hh]⟩
 have HSt:Hid (∀ (W w6:World) (gg cg:Nat),Below w.heap.size w W→W.heap.size=w.heap.size+2→W.heap[w.heap.size]?=some (.cells #[.int .i64 x.op,.int .i64 x.n,.string x.name,.int .i64 x.left,.int .i64 x.right] 62 (0,0))→W.grownBy w6 (Value.slice AR k cR).ownBlock→w6.ownsRow N 3 1 (.slice (some ⟨gg,0,none⟩) (k+1) cg) (k+1) (mapI b.ready ++ [.int .i64 m])→((Value.slice AR k cR).ownBlock=some gg∨gg=w.heap.size+2) →
   BldV N p AN cN (some ⟨gg,0,none⟩) cg AW cW ⟨b.nodes,b.ready ++ [(m:Int)],b.waiting⟩ (w6.setCell ⟨p,1,none⟩ (.slice (some ⟨gg,0,none⟩) (k+1) cg))∧Kept N (fun k=>k=p) w (w6.setCell ⟨p,1,none⟩ (.slice (some ⟨gg,0,none⟩) (k+1) cg))∧(w6.setCell ⟨p,1,none⟩ (.slice (some ⟨gg,0,none⟩) (k+1) cg)).heap[w.heap.size]?=some (.cells #[.int .i64 x.op,.int .i64 x.n,.string x.name,.int .i64 x.left,.int .i64 x.right] 62 (0,0))):=by
  intro W w6 gg cg hb hz hbox hg ho hat
  have hL:(b.ready ++ [(m:Int)]).length=k+1:=by simp [hk]
  have h:=hV.ready (L:=b.ready ++ [(m:Int)]) (g:=gg) (c:=cg) (w2:=w6) hN hb (by rw [hk];exact hg) (by rw [hL,mapI_snoc];exact ho) (by rw [hk,hz];exact hat)
  rw [hL] at h
  refine ⟨h.1,h.2,?_⟩
  rw [setCell_off _ _ _ _ _ (by omega),hg.block w.heap.size (by omega) (fun e=>by have:=(own_block hV.rdy (by rw [hk];exact e.symm)).2.1;omega)]
  exact hbox
 rw [hm] at c0
 rw [hk] at c1
 have hkm:(k:Int)≤200:=by omega
 clear hV
 go_enter Tryz.func140,Tryz.ntmps140
 go_wp2_with fail
 go_cut [] from 4 (fun wx => ∃ A c,BldV N p AN cN A c AW cW ⟨b.nodes,b.ready ++ [(m:Int)],b.waiting⟩ wx∧Kept N (fun k=>k=p) w wx∧wx.heap[w.heap.size]?=some (.cells #[.int .i64 x.op,.int .i64 x.n,.string x.name,.int .i64 x.left,.int .i64 x.right] 62 (0,0)))
 case first =>
  go_region_law (refine step_append_lies _ (by rfl) _ _ _ (by rfl) N 3 i0 _ 1 8 Tryz.underlying47 hi0 hz0 hz1 hz2 rfl (by omega) (.slice AR k cR) k (mapI b.ready) (by rfl) (HO.out _ (by go_grown)) ⟨w.heap.size+1,0,none⟩ 1 1 [.int .i64 m] (by rfl) (by rfl) (World.news_of_block (cs := #[.int .i64 m]) (t:=3) (fr:=(0,0)) (topF1d w _ _)) (by simp [Value.oneCell']) (by omega) (by unfold maxLen;omega) (by omega) (by simp;omega) (w.heap.size+2) (by simp) ?_;intro gg cg w6 hown6 hgrow hat hlt6;obtain ⟨y1,y2⟩:=HRch.out _ _ (by go_grown) hgrow)
  all_goals (have HS:=HSt.out _ _ _ _ (by go_grown) (by simp) (topF0d w _ _) hgrow hown6 hat)
  all_goals clear hgrow hown6 hat
  all_goals (go_wp2_with fail;go_meet;exact ⟨_,_,HS⟩)
 case rest =>
  obtain ⟨A1,c1',hV1,hK1,hbox⟩:=hcut
  obtain ⟨wx,rfl⟩:∃ wx:World,wx=wc:=⟨_,rfl⟩
  have d0:=hV1.c0
  have g0:=hV1.fr 0
  have hlt1:=hV1.lt
  have hsz1:=hK1.size
  have HV1:Hid (BldV N p AN cN A1 c1' AW cW ⟨b.nodes,b.ready ++ [(m:Int)],b.waiting⟩ wx):=hV1
  have HK1:Hid (Kept N (fun k=>k=p) w wx):=hK1
  have hbs:w.heap.size<wx.heap.size:=(Array.getElem?_eq_some_iff.1 hbox).1
  have b0:wx.cell? ⟨w.heap.size,0,none⟩=some (.int .i64 x.op):=by simp [World.cell?,hbox]
  have b1:wx.cell? ⟨w.heap.size,1,none⟩=some (.int .i64 x.n):=by simp [World.cell?,hbox]
  have b2:wx.cell? ⟨w.heap.size,2,none⟩=some (.string x.name):=by simp [World.cell?,hbox]
  have b3:wx.cell? ⟨w.heap.size,3,none⟩=some (.int .i64 x.left):=by simp [World.cell?,hbox]
  have b4:wx.cell? ⟨w.heap.size,4,none⟩=some (.int .i64 x.right):=by simp [World.cell?,hbox]
  rw [hm] at d0
  have HO1:Hid (∀ w',Below wx.heap.size wx w'→w'.ownsRow N 62 5 (.slice AN m cN) m (cellsN b.nodes)):=fun w' hb=>by have:=(hV1.later hb).nod;rw [hm] at this;exact this
  have HRch1:Hid (∀ (W w2:World),Below wx.heap.size wx W→W.grownBy w2 (Value.slice AN m cN).ownBlock→w2.cell? ⟨p,0,none⟩=some (.slice AN m cN)∧w2.frozen? ⟨p,0,none⟩=false):=by
   intro W w2 hb hg
   have h:=hV1.reach hb hg (fun g e=>(own_block hV1.nod (by rw [hm];exact e)).1)
   have hh:=h.trans hV1.blk
   exact ⟨by simp [World.cell?,hh,hm],by simp [World.frozen?,hh]⟩
  have HSt1:Hid (∀ (W w6:World) (gg cg:Nat),Below wx.heap.size wx W→W.grownBy w6 (Value.slice AN m cN).ownBlock→w6.ownsRow N 62 5 (.slice (some ⟨gg,0,none⟩) (m+1) cg) (m+1) (cellsN b.nodes ++ [.int .i64 x.op,.int .i64 x.n,.string x.name,.int .i64 x.left,.int .i64 x.right]) →
    BldAt N p (addB x b) (w6.setCell ⟨p,0,none⟩ (.slice (some ⟨gg,0,none⟩) (m+1) cg))∧Kept N (fun k=>k=p) w (w6.setCell ⟨p,0,none⟩ (.slice (some ⟨gg,0,none⟩) (m+1) cg))):=by
   intro W w6 gg cg hb hg ho
   have hL:(b.nodes ++ [x]).length=m+1:=by simp [hm]
   have h:=hV1.node (L:=b.nodes ++ [x]) (g:=gg) (c:=cg) (w2:=w6) (by omega) hb (by rw [hm];exact hg) (by rw [hL,cellsN_snoc];exact ho)
   rw [hL] at h
   refine ⟨?_,HK1.out.trans h.2⟩
   have h1:=h.1
   rw [←hm] at h1 ⊢
   exact ⟨_,_,_,_,_,_,h1⟩
  clear hV1 hK1 HV HO HRch HSt
  go_wp2_with fail
  go_region_law (refine step_append_lies _ (by rfl) _ _ _ (by rfl) N 62 i1 _ 5 48 Tryz.underlying58 hj0 hj1 hj2 hj3 rfl (by omega) (.slice AN m cN) m (cellsN b.nodes) (by rfl) (HO1.out _ (by go_grown)) ⟨wx.heap.size,0,none⟩ 1 1 [.int .i64 x.op,.int .i64 x.n,.string x.name,.int .i64 x.left,.int .i64 x.right] (by rfl) (by rfl) (World.news_of_block (cs := #[.int .i64 x.op,.int .i64 x.n,.string x.name,.int .i64 x.left,.int .i64 x.right]) (t:=62) (fr:=(0,0)) (topFd wx _)) (by simp [Value.oneCell']) (by omega) (by unfold maxLen;omega) (by omega) (by simp;omega) (wx.heap.size+1) (by simp) ?_;intro gg cg w6 hown6 hgrow hat hlt6;obtain ⟨y1,y2⟩:=HRch1.out _ _ (by go_grown) hgrow)
  all_goals (have HS:=HSt1.out _ _ _ _ (by go_grown) hgrow hown6)
  all_goals clear hgrow hown6 hat
  all_goals (go_wp2_with fail;go_end0;exact ⟨rfl,HS⟩)
set_option maxHeartbeats 4000000 in
theorem join_any (N p:Nat) (b:Bld) (op:Int) (w:World) (hN:N≤w.heap.size) (h1:b.nodes.length≤200) (h2:b.ready.length≤200) (h3:2≤b.ready.length) (hB:BldAt N p b w) :
  Calls Tryz.prog 154 #[.pointer (some ⟨p,0,none⟩),.int .i64 op] w fun e w'=>e=.returned (.tuple #[])∧BldAt N p (joinBd op b) w'∧Kept N (fun k=>k=p) w w':=by
 obtain ⟨AN,cN,AR,cR,AW,cW,hV⟩:=hB
 obtain ⟨k,hk⟩:∃ k,b.ready.length=k+2:=⟨b.ready.length-2,by omega⟩
 obtain ⟨g,hA,e0⟩:=own_int (k:=k) hV.rdy (by omega)
 obtain ⟨g',hA',e1⟩:=own_int (k:=k+1) hV.rdy (by omega)
 rw [hA] at hA'
 simp only [Option.some.injEq,Addr.mk.injEq] at hA'
 obtain ⟨rfl,-⟩:=hA'
 subst hA
 have c1:=hV.c1
 have f1:=hV.fr 1
 have hlt:=hV.lt
 rw [hk] at c1
 have hcap:k+2≤cR:=by
  rcases hV.rdy.2 with ⟨h0,_⟩ | ⟨g,cap,cur,h0,_,_,h4,_⟩
  ·cases h0
  ·cases h0;omega
 have hj:joinBd op b=addB ⟨op,0,⟨#[]⟩,b.ready.getD k 0,b.ready.getD (k+1) 0⟩ ⟨b.nodes,b.ready.take k,b.waiting⟩:=by
  unfold joinBd
  rw [show b.ready.length-2=k by omega]
 rw [hj]
 have HC:Hid (∀ w',Below w.heap.size w w'→BldAt N p ⟨b.nodes,b.ready.take k,b.waiting⟩ (w'.setCell ⟨p,1,none⟩ (.slice (some ⟨g,0,none⟩) k cR))∧Kept N (fun k=>k=p) w (w'.setCell ⟨p,1,none⟩ (.slice (some ⟨g,0,none⟩) k cR))∧N≤(w'.setCell ⟨p,1,none⟩ (.slice (some ⟨g,0,none⟩) k cR)).heap.size):=by
  intro w' hb
  obtain ⟨h4,h5⟩:=(hV.later hb).readyCut (k:=k) (Nat.le_trans hN hb.size) (by omega)
  have h6:=(kept_below hb hN).trans h5
  exact ⟨⟨_,_,_,_,_,_,h4⟩,h6,Nat.le_trans hN h6.size⟩
 have hki:(k:Int)≤200:=by omega
 have hci:(k:Int)+2≤(cR:Int):=by omega
 have hgl:g<w.heap.size:=(own_block (g:=g) hV.rdy rfl).2.1
 generalize b.ready.getD k 0=x at *
 generalize b.ready.getD (k+1) 0=y at *
 clear hV hj
 go_enter Tryz.func154,Tryz.ntmps154
 go_wp2_with fail
 go_quiet (fail)
 go_wp2_with fail
 obtain ⟨q1,q2,q3⟩:=HC.out (w.drewN nq) (below_drewN (Below.refl _ _) nq)
 refine (add_any N p ⟨b.nodes,b.ready.take k,b.waiting⟩ ⟨op,0,⟨#[]⟩,x,y⟩ _ q3 h1 (by simp;omega) q1).mono ?_
 rintro e w2 ⟨rfl,q4,q5⟩
 have HK:Hid (Kept N (fun k=>k=p) w w2):=q2.trans q5
 have HB:Hid (BldAt N p (addB ⟨op,0,⟨#[]⟩,x,y⟩ ⟨b.nodes,b.ready.take k,b.waiting⟩) w2):=q4
 clear q1 q2 q3 q4 q5 HC
 go_wp2_with fail
 first | go_end0 | refine bodyPost_ret (results_none rfl _ _ _) rfl ?_
 exact ⟨rfl,HB.out,HK.out⟩
theorem join_len {op:Int} {b:Bld} (h:2≤b.ready.length):(joinBd op b).nodes.length=b.nodes.length+1∧(joinBd op b).ready.length+1=b.ready.length∧(joinBd op b).waiting=b.waiting:=by
 refine ⟨by simp [joinBd,addB],?_,rfl⟩
 simp [joinBd,addB]
 omega
theorem ops_last {l:List Int} {k:Nat} (h:l.length=k+1):opsN l=opsN (l.take k)+(if l.getD k 0≠0 then 1 else 0)∧zerosN l=zerosN (l.take k)+(if l.getD k 0=0 then 1 else 0):=by
 have hl:l=l.take k ++ [l.getD k 0]:=by
  have h1:l.getD k 0=l[k]'(by omega):=by simp [List.getD,List.getElem?_eq_getElem (show k<l.length by omega)]
  rw [h1]
  conv=>lhs;rw [←List.take_append_drop k l]
  congr 1
  rw [List.drop_eq_getElem_cons (by omega),List.drop_eq_nil_of_le (by omega)]
 constructor
 ·conv=>lhs;rw [hl]
  unfold opsN
  rw [List.countP_append]
  by_cases e:l.getD k 0=0 <;> simp
 ·conv=>lhs;rw [hl]
  unfold zerosN
  rw [List.countP_append]
  by_cases e:l.getD k 0=0 <;> simp
theorem settle_stop {least:Int} {b:Bld} {k:Nat} (h:b.waiting.getD k 0=0∨bindN (b.waiting.getD k 0)<least):settleTo least (k+1) b=b:=by rw [settleTo,if_pos h]
theorem settle_on {least:Int} {b:Bld} {k:Nat} (h : ¬ (b.waiting.getD k 0=0∨bindN (b.waiting.getD k 0)<least)):settleTo least (k+1) b=settleTo least k (joinBd (b.waiting.getD k 0) ⟨b.nodes,b.ready,b.waiting.take k⟩):=by rw [settleTo,if_neg h]
set_option maxHeartbeats 4000000 in
theorem settle_any (N p:Nat) (b:Bld) (least:Int) (w:World) (hN:N≤w.heap.size) (h1:b.nodes.length+opsN b.waiting≤200) (h2:b.ready.length≤200) (h3:opsN b.waiting+1≤b.ready.length) (h4:b.waiting.length≤200) (hB:BldAt N p b w) :
  Calls Tryz.prog 138 #[.pointer (some ⟨p,0,none⟩),.int .i64 least] w fun e w'=>e=.returned (.tuple #[])∧BldAt N p (settleB least b) w'∧Kept N (fun k=>k=p) w w':=by
 obtain ⟨AN,cN,AR,cR,AW,cW,hV⟩:=hB
 have c2:=hV.c2
 have hlt:=hV.lt
 have HV:Hid (BldV N p AN cN AR cR AW cW b w):=hV
 obtain ⟨n0,hn0⟩:∃ n,b.waiting.length=n:=⟨_,rfl⟩
 rw [hn0] at c2
 have hni:(n0:Int)≤200:=by omega
 unfold settleB
 have HN0:Hid (b.waiting.length=n0):=hn0
 rw [hn0]
 clear hV hn0
 go_enter Tryz.func138,Tryz.ntmps138
 go_wp2_with fail
 go_loopg [4] n0 (fun g s4 wr => ∃ (b':Bld),b'.waiting.length=g∧s4=.int .i64 ((g:Int)-1)∧settleTo least g b'=settleTo least n0 b∧g≤n0∧b'.nodes.length+opsN b'.waiting≤200∧b'.ready.length≤200∧opsN b'.waiting+1≤b'.ready.length∧BldAt N p b' wr∧Kept N (fun k=>k=p) w wr)
 case atStart=>exact ⟨b,HN0.out,rfl,rfl,Nat.le_refl _,h1,h2,h3,⟨_,_,_,_,_,_,HV.out⟩,Kept.refl _ _ _⟩
 case round =>
  obtain ⟨b',hg,rfl,hst,hgn,k1,k2,k3,⟨AN',cN',AR',cR',AW',cW',hV'⟩,hK⟩:=hrel
  have HV':Hid (BldV N p AN' cN' AR' cR' AW' cW' b' wr):=hV'
  have HK:Hid (Kept N (fun k=>k=p) w wr):=hK
  have HST:Hid (settleTo least gk b'=settleTo least n0 b):=hst
  have d2:=hV'.c2
  have df:=hV'.fr 2
  have hroom:N≤wr.heap.size:=Nat.le_trans hN hK.size
  cases gk with
  | zero =>
   have HE:Hid (b'=settleTo least n0 b):=hst
   clear hV' hK hst
   go_wp2_with fail
   first | go_end0 | refine bodyPost_ret (results_none rfl _ _ _) rfl ?_
   exact ⟨rfl,by rw [←HE.out];exact ⟨_,_,_,_,_,_,HV'.out⟩,HK.out⟩
  | succ k =>
   obtain ⟨ho1,-⟩:=ops_last hg
   obtain ⟨g,hA,e0⟩:=own_int (k:=k) hV'.wai (by omega)
   subst hA
   have hgl:g<wr.heap.size:=(own_block (g:=g) hV'.wai rfl).2.1
   have hcap:k+1≤cW':=by
    rcases hV'.wai.2 with ⟨h0,_⟩ | ⟨g,cap,cur,h0,_,_,h5,_⟩
    ·cases h0
    ·cases h0;omega
   rw [hg] at d2
   have hki:(k:Int)≤200:=by omega
   have hci:(k:Int)+1≤(cW':Int):=by omega
   have hsub:((k+1:Nat):Int)-1=(k:Int):=by omega
   obtain ⟨op,hop⟩:∃ op,b'.waiting.getD k 0=op:=⟨_,rfl⟩
   rw [hop] at e0 ho1
   have HG:Hid (b'.waiting.length=k+1):=hg
   have hbi:=binds_any op
   rw [hsub]
   clear hV' hK hst hg
   by_cases hop0:op=0
   ·have HE:Hid (b'=settleTo least n0 b):=by show _=_;rw [←HST.out];exact (settle_stop (Or.inl (by rw [hop];exact hop0))).symm
    subst hop0
    clear hbi
    go_wp2_with fail
    first | go_end0 | refine bodyPost_ret (results_none rfl _ _ _) rfl ?_
    exact ⟨rfl,by rw [←HE.out];exact ⟨_,_,_,_,_,_,HV'.out⟩,HK.out⟩
   ·have hopb:(op == 0)=false:=by simpa using hop0
    by_cases hlb:bindN op<least
    ·have HE:Hid (b'=settleTo least n0 b):=by show _=_;rw [←HST.out];exact (settle_stop (Or.inr (by rw [hop];exact hlb))).symm
     generalize bindN op=bn at *
     clear hop
     go_wp2_with fail
     refine (hbi _).mono ?_
     rintro e w1 ⟨rfl,hb1⟩
     have HV1:Hid (BldV N p AN' cN' AR' cR' (some ⟨g,0,none⟩) cW' b' w1):=HV'.out.later hb1
     have HK1:Hid (Kept N (fun k=>k=p) w w1):=HK.out.trans (kept_below hb1 hroom)
     clear hb1
     go_wp2_with fail
     first | go_end0 | refine bodyPost_ret (results_none rfl _ _ _) rfl ?_
     exact ⟨rfl,by rw [←HE.out];exact ⟨_,_,_,_,_,_,HV1.out⟩,HK1.out⟩
    ·have HE:Hid (settleTo least k (joinBd op ⟨b'.nodes,b'.ready,b'.waiting.take k⟩)=settleTo least n0 b):=by
      show _=_
      rw [←HST.out,settle_on (by rw [hop];omega),hop]
     rw [if_pos hop0] at ho1
     have hlb':least≤bindN op:=by omega
     generalize bindN op=bn at *
     clear hop hlb
     go_wp2_with fail
     refine (hbi _).mono ?_
     rintro e w1 ⟨rfl,hb1⟩
     have HV1:Hid (BldV N p AN' cN' AR' cR' (some ⟨g,0,none⟩) cW' b' w1):=HV'.out.later hb1
     have HK1:Hid (Kept N (fun k=>k=p) w w1):=HK.out.trans (kept_below hb1 hroom)
     have x2:=HV1.out.c2
     have xf:=HV1.out.fr 2
     rw [HG.out] at x2
     have hroom1:N≤w1.heap.size:=Nat.le_trans hroom hb1.size
     obtain ⟨y1,y2⟩:=HV1.out.waitCut (k:=k) hroom1 (by have:=HG.out;omega)
     have HY:Hid (BldAt N p ⟨b'.nodes,b'.ready,b'.waiting.take k⟩ (w1.setCell ⟨p,2,none⟩ (.slice (some ⟨g,0,none⟩) k cW'))∧Kept N (fun k=>k=p) w1 (w1.setCell ⟨p,2,none⟩ (.slice (some ⟨g,0,none⟩) k cW'))):=⟨⟨_,_,_,_,_,_,y1⟩,y2⟩
     clear hb1 hbi y1 y2
     go_wp2_with fail
     refine (join_any N p ⟨b'.nodes,b'.ready,b'.waiting.take k⟩ op _ (Nat.le_trans hroom1 HY.out.2.size) (by show b'.nodes.length≤200;omega) k2 (by show 2≤b'.ready.length;omega) HY.out.1).mono ?_
     rintro e w2 ⟨rfl,q4,q5⟩
     have HK2:Hid (Kept N (fun k=>k=p) w w2):=(HK1.out.trans HY.out.2).trans q5
     have HB2:Hid (BldAt N p (joinBd op ⟨b'.nodes,b'.ready,b'.waiting.take k⟩) w2):=q4
     obtain ⟨l1,l2,l3⟩:=join_len (op:=op) (b:=⟨b'.nodes,b'.ready,b'.waiting.take k⟩) (by show 2≤b'.ready.length;omega)
     have HL:Hid ((joinBd op ⟨b'.nodes,b'.ready,b'.waiting.take k⟩).nodes.length=b'.nodes.length+1∧(joinBd op ⟨b'.nodes,b'.ready,b'.waiting.take k⟩).ready.length+1=b'.ready.length∧(joinBd op ⟨b'.nodes,b'.ready,b'.waiting.take k⟩).waiting=b'.waiting.take k):=⟨l1,l2,l3⟩
     clear q4 q5 l1 l2 l3
     go_wp2_with fail
     go_roundg k
     case measure=>omega
     case rel =>
      obtain ⟨l1,l2,l3⟩:=HL.out
      refine ⟨_,?_,by go_num,HE.out,by omega,?_,?_,?_,HB2.out,HK2.out⟩
      ·rw [l3,List.length_take,HG.out];omega
      ·rw [l3,l1];omega
      ·omega
      ·rw [l3];omega
end Go.Proofs.YtfldgghobddgkaaGreatDoor
