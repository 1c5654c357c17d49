/-
  What add, join and settle of package formula's builder do, in whatever memory.
-/
import Derived.Lib.ItoaMem
import Derived.Lib.AtoiTie
import Derived.Test.YtfgegmpoejilnaaGreatDoorShelfF
import Derived.Lib.AtoiErrMem
import Derived.Test.YtfgegmpoejilnaaGreatDoorJGAJ
namespace Go.Proofs.YtfgegmpoejilnaaGreatDoor
open Go.ChangeShapes Go.WideShapes Go.ChangeAt Go.RowKit
set_option maxRecDepth 20000
theorem Tryz.infoIntF:(Tryz.prog.info? 3).map (fun i=>(i.zero,i.size,i.bytes))=some (some (.int .i64 0),1,8):=by kernel_rfl
theorem Tryz.infoNdF:(Tryz.prog.info? 212).map (fun i=>(i.zero,i.size,i.bytes))=some (some (.agg #[.int .i64 0,.int .i64 0,.string ⟨#[]⟩,.int .i64 0,.int .i64 0]),5,48):=by kernel_rfl
def ndV (x:Nd):Value:=.agg #[.int .i64 x.op,.int .i64 x.n,.string x.name,.int .i64 x.left,.int .i64 x.right]
theorem BldV.reach {N p cN cR cW:Nat} {AN AR AW:Option Addr} {b:Bld} {w W w2:World} {row:Option Nat} (h:BldV N p AN cN AR cR AW cW b w) (hb:Below w.heap.size w W) (hg:W.grownBy w2 row) (hr:∀ g,row=some g→N≤g):w2.heap[p]?=w.heap[p]?:=by
 have hlt:=h.lt
 have hlow:=h.low
 exact (hg.block p (Nat.lt_of_lt_of_le hlt hb.size) (fun e=>by have:=hr p e.symm;omega)).trans (hb.block p hlt)
theorem topF1 (w:World) (o o':Obj):((w.alloc o).alloc o').heap[w.heap.size+1]?=some o':=by
 have h:=heap_alloc_new (w.alloc o) o'
 simpa using h
theorem topF1d (w:World) (o o':Obj):((w.alloc o).alloc o').drew.heap[w.heap.size+1]?=some o':=topF1 w o o'
theorem topF0 (w:World) (o o':Obj):((w.alloc o).alloc o').heap[w.heap.size]?=some o:=by
 rw [heap_alloc_old _ _ (by simp)]
 exact heap_alloc_new w o
theorem topF0d (w:World) (o o':Obj):((w.alloc o).alloc o').drew.heap[w.heap.size]?=some o:=topF0 w o o'
theorem topFd (w:World) (o:Obj):(w.alloc o).drew.heap[w.heap.size]?=some o:=heap_alloc_new w o
set_option maxHeartbeats 4000000 in
theorem add_any (N p:Nat) (b:Bld) (x:Nd) (w:World) (hN:N≤w.heap.size) (h1:b.nodes.length≤200) (h2:b.ready.length≤200) (hB:BldAt N p b w) :
  Calls Tryz.prog 210 #[.pointer (some ⟨p,0,none⟩),ndV x] w fun e w'=>e=.returned (.tuple #[])∧BldAt N p (addB x b) w'∧Kept N (fun k=>k=p) w w':=by
 obtain ⟨AN,cN,AR,cR,AW,cW,hV⟩:=hB
 obtain ⟨i0,hi0,hz0,hz1,hz2⟩:=info_parts Tryz.infoIntF
 obtain ⟨i1,hj0,hj1,hj2,hj3⟩:=info_parts Tryz.infoNdF
 unfold ndV
 have c0:=hV.c0
 have c1:=hV.c1
 have f0:=hV.fr 0
 have f1:=hV.fr 1
 have hlt:=hV.lt
 have HV:Hid (BldV N p AN cN AR cR AW cW b w):=hV
 obtain ⟨m,hm⟩:∃ m,b.nodes.length=m:=⟨_,rfl⟩
 obtain ⟨k,hk⟩:∃ k,b.ready.length=k:=⟨_,rfl⟩
 have HO:Hid (∀ w',Below w.heap.size w w'→w'.ownsRow N 3 1 (.slice AR k cR) k (mapI b.ready)):=fun w' hb=>by have:=(hV.later hb).rdy;rw [hk] at this;exact this
 have HRch:Hid (∀ (W w2:World),Below w.heap.size w W→W.grownBy w2 (Value.slice AR k cR).ownBlock→w2.cell? ⟨p,1,none⟩=some (.slice AR k cR)∧w2.frozen? ⟨p,1,none⟩=false):=by
  intro W w2 hb hg
  have h:=hV.reach hb hg (fun g e=>(own_block hV.rdy (by rw [hk];exact e)).1)
  have hh:=h.trans hV.blk
  exact ⟨by simp [World.cell?,hh,hk],by simp [World.frozen?,hh]⟩
 have HSt:Hid (∀ (W w6:World) (gg cg:Nat),Below w.heap.size w W→W.heap.size=w.heap.size+2→W.heap[w.heap.size]?=some (.cells #[.int .i64 x.op,.int .i64 x.n,.string x.name,.int .i64 x.left,.int .i64 x.right] 212 (0,0))→W.grownBy w6 (Value.slice AR k cR).ownBlock→w6.ownsRow N 3 1 (.slice (some ⟨gg,0,none⟩) (k+1) cg) (k+1) (mapI b.ready ++ [.int .i64 m])→((Value.slice AR k cR).ownBlock=some gg∨gg=w.heap.size+2) →
   BldV N p AN cN (some ⟨gg,0,none⟩) cg AW cW ⟨b.nodes,b.ready ++ [(m:Int)],b.waiting⟩ (w6.setCell ⟨p,1,none⟩ (.slice (some ⟨gg,0,none⟩) (k+1) cg))∧Kept N (fun k=>k=p) w (w6.setCell ⟨p,1,none⟩ (.slice (some ⟨gg,0,none⟩) (k+1) cg))∧(w6.setCell ⟨p,1,none⟩ (.slice (some ⟨gg,0,none⟩) (k+1) cg)).heap[w.heap.size]?=some (.cells #[.int .i64 x.op,.int .i64 x.n,.string x.name,.int .i64 x.left,.int .i64 x.right] 212 (0,0))):=by
  intro W w6 gg cg hb hz hbox hg ho hat
  have hL:(b.ready ++ [(m:Int)]).length=k+1:=by simp [hk]
  have h:=hV.ready (L:=b.ready ++ [(m:Int)]) (g:=gg) (c:=cg) (w2:=w6) hN hb (by rw [hk];exact hg) (by rw [hL,mapI_snoc];exact ho) (by rw [hk,hz];exact hat)
  rw [hL] at h
  refine ⟨h.1,h.2,?_⟩
  rw [setCell_off _ _ _ _ _ (by omega),hg.block w.heap.size (by omega) (fun e=>by have:=(own_block hV.rdy (by rw [hk];exact e.symm)).2.1;omega)]
  exact hbox
 rw [hm] at c0
 rw [hk] at c1
 have hkm:(k:Int)≤200:=by omega
 clear hV
 go_enter Tryz.func210,Tryz.ntmps210
 go_wp2_with fail
 go_cut [] from 4 (fun wx => ∃ A c,BldV N p AN cN A c AW cW ⟨b.nodes,b.ready ++ [(m:Int)],b.waiting⟩ wx∧Kept N (fun k=>k=p) w wx∧wx.heap[w.heap.size]?=some (.cells #[.int .i64 x.op,.int .i64 x.n,.string x.name,.int .i64 x.left,.int .i64 x.right] 212 (0,0)))
 case first =>
  go_region_law (refine step_append_lies _ (by rfl) _ _ _ (by rfl) N 3 i0 _ 1 8 Tryz.underlying38 hi0 hz0 hz1 hz2 rfl (by omega) (.slice AR k cR) k (mapI b.ready) (by rfl) (HO.out _ (by go_grown)) ⟨w.heap.size+1,0,none⟩ 1 1 [.int .i64 m] (by rfl) (by rfl) (World.news_of_block (cs := #[.int .i64 m]) (t:=3) (fr:=(0,0)) (topF1d w _ _)) (by simp [Value.oneCell']) (by omega) (by unfold maxLen;omega) (by omega) (by simp;omega) (w.heap.size+2) (by simp) ?_;intro gg cg w6 hown6 hgrow hat hlt6;obtain ⟨y1,y2⟩:=HRch.out _ _ (by go_grown) hgrow)
  all_goals (have HS:=HSt.out _ _ _ _ (by go_grown) (by simp) (topF0d w _ _) hgrow hown6 hat)
  all_goals clear hgrow hown6 hat
  all_goals (go_wp2_with fail;go_meet;exact ⟨_,_,HS⟩)
 case rest =>
  obtain ⟨A1,c1',hV1,hK1,hbox⟩:=hcut
  obtain ⟨wx,rfl⟩:∃ wx:World,wx=wc:=⟨_,rfl⟩
  have d0:=hV1.c0
  have g0:=hV1.fr 0
  have hlt1:=hV1.lt
  have hsz1:=hK1.size
  have HV1:Hid (BldV N p AN cN A1 c1' AW cW ⟨b.nodes,b.ready ++ [(m:Int)],b.waiting⟩ wx):=hV1
  have HK1:Hid (Kept N (fun k=>k=p) w wx):=hK1
  have hbs:w.heap.size<wx.heap.size:=(Array.getElem?_eq_some_iff.1 hbox).1
  have b0:wx.cell? ⟨w.heap.size,0,none⟩=some (.int .i64 x.op):=by simp [World.cell?,hbox]
  have b1:wx.cell? ⟨w.heap.size,1,none⟩=some (.int .i64 x.n):=by simp [World.cell?,hbox]
  have b2:wx.cell? ⟨w.heap.size,2,none⟩=some (.string x.name):=by simp [World.cell?,hbox]
  have b3:wx.cell? ⟨w.heap.size,3,none⟩=some (.int .i64 x.left):=by simp [World.cell?,hbox]
  have b4:wx.cell? ⟨w.heap.size,4,none⟩=some (.int .i64 x.right):=by simp [World.cell?,hbox]
  rw [hm] at d0
  have HO1:Hid (∀ w',Below wx.heap.size wx w'→w'.ownsRow N 212 5 (.slice AN m cN) m (cellsN b.nodes)):=fun w' hb=>by have:=(hV1.later hb).nod;rw [hm] at this;exact this
  have HRch1:Hid (∀ (W w2:World),Below wx.heap.size wx W→W.grownBy w2 (Value.slice AN m cN).ownBlock→w2.cell? ⟨p,0,none⟩=some (.slice AN m cN)∧w2.frozen? ⟨p,0,none⟩=false):=by
   intro W w2 hb hg
   have h:=hV1.reach hb hg (fun g e=>(own_block hV1.nod (by rw [hm];exact e)).1)
   have hh:=h.trans hV1.blk
   exact ⟨by simp [World.cell?,hh,hm],by simp [World.frozen?,hh]⟩
  have HSt1:Hid (∀ (W w6:World) (gg cg:Nat),Below wx.heap.size wx W→W.grownBy w6 (Value.slice AN m cN).ownBlock→w6.ownsRow N 212 5 (.slice (some ⟨gg,0,none⟩) (m+1) cg) (m+1) (cellsN b.nodes ++ [.int .i64 x.op,.int .i64 x.n,.string x.name,.int .i64 x.left,.int .i64 x.right]) →
    BldAt N p (addB x b) (w6.setCell ⟨p,0,none⟩ (.slice (some ⟨gg,0,none⟩) (m+1) cg))∧Kept N (fun k=>k=p) w (w6.setCell ⟨p,0,none⟩ (.slice (some ⟨gg,0,none⟩) (m+1) cg))):=by
   intro W w6 gg cg hb hg ho
   have hL:(b.nodes ++ [x]).length=m+1:=by simp [hm]
   have h:=hV1.node (L:=b.nodes ++ [x]) (g:=gg) (c:=cg) (w2:=w6) (by omega) hb (by rw [hm];exact hg) (by rw [hL,cellsN_snoc];exact ho)
   rw [hL] at h
   refine ⟨?_,HK1.out.trans h.2⟩
   have h1:=h.1
   rw [←hm] at h1 ⊢
   exact ⟨_,_,_,_,_,_,h1⟩
  clear hV1 hK1 HV HO HRch HSt
  go_wp2_with fail
  go_region_law (refine step_append_lies _ (by rfl) _ _ _ (by rfl) N 212 i1 _ 5 48 Tryz.underlying127 hj0 hj1 hj2 hj3 rfl (by omega) (.slice AN m cN) m (cellsN b.nodes) (by rfl) (HO1.out _ (by go_grown)) ⟨wx.heap.size,0,none⟩ 1 1 [.int .i64 x.op,.int .i64 x.n,.string x.name,.int .i64 x.left,.int .i64 x.right] (by rfl) (by rfl) (World.news_of_block (cs := #[.int .i64 x.op,.int .i64 x.n,.string x.name,.int .i64 x.left,.int .i64 x.right]) (t:=212) (fr:=(0,0)) (topFd wx _)) (by simp [Value.oneCell']) (by omega) (by unfold maxLen;omega) (by omega) (by simp;omega) (wx.heap.size+1) (by simp) ?_;intro gg cg w6 hown6 hgrow hat hlt6;obtain ⟨y1,y2⟩:=HRch1.out _ _ (by go_grown) hgrow)
  all_goals (have HS:=HSt1.out _ _ _ _ (by go_grown) hgrow hown6)
  all_goals clear hgrow hown6 hat
  all_goals (go_wp2_with fail;go_end0;exact ⟨rfl,HS⟩)
set_option maxHeartbeats 4000000 in
theorem join_any (N p:Nat) (b:Bld) (op:Int) (w:World) (hN:N≤w.heap.size) (h1:b.nodes.length≤200) (h2:b.ready.length≤200) (h3:2≤b.ready.length) (hB:BldAt N p b w) :
  Calls Tryz.prog 222 #[.pointer (some ⟨p,0,none⟩),.int .i64 op] w fun e w'=>e=.returned (.tuple #[])∧BldAt N p (joinBd op b) w'∧Kept N (fun k=>k=p) w w':=by
 obtain ⟨AN,cN,AR,cR,AW,cW,hV⟩:=hB
 obtain ⟨k,hk⟩:∃ k,b.ready.length=k+2:=⟨b.ready.length-2,by omega⟩
 obtain ⟨g,hA,e0⟩:=own_int (k:=k) hV.rdy (by omega)
 obtain ⟨g',hA',e1⟩:=own_int (k:=k+1) hV.rdy (by omega)
 rw [hA] at hA'
 simp only [Option.some.injEq,Addr.mk.injEq] at hA'
 obtain ⟨rfl,-⟩:=hA'
 subst hA
 have c1:=hV.c1
 have f1:=hV.fr 1
 have hlt:=hV.lt
 rw [hk] at c1
 have hcap:k+2≤cR:=by
  rcases hV.rdy.2 with ⟨h0,_⟩ | ⟨g,cap,cur,h0,_,_,h4,_⟩
  ·cases h0
  ·cases h0;omega
 have hj:joinBd op b=addB ⟨op,0,⟨#[]⟩,b.ready.getD k 0,b.ready.getD (k+1) 0⟩ ⟨b.nodes,b.ready.take k,b.waiting⟩:=by
  unfold joinBd
  rw [show b.ready.length-2=k by omega]
 rw [hj]
 have HC:Hid (∀ w',Below w.heap.size w w'→BldAt N p ⟨b.nodes,b.ready.take k,b.waiting⟩ (w'.setCell ⟨p,1,none⟩ (.slice (some ⟨g,0,none⟩) k cR))∧Kept N (fun k=>k=p) w (w'.setCell ⟨p,1,none⟩ (.slice (some ⟨g,0,none⟩) k cR))∧N≤(w'.setCell ⟨p,1,none⟩ (.slice (some ⟨g,0,none⟩) k cR)).heap.size):=by
  intro w' hb
  obtain ⟨h4,h5⟩:=(hV.later hb).readyCut (k:=k) (Nat.le_trans hN hb.size) (by omega)
  have h6:=(kept_below hb hN).trans h5
  exact ⟨⟨_,_,_,_,_,_,h4⟩,h6,Nat.le_trans hN h6.size⟩
 have hki:(k:Int)≤200:=by omega
 have hci:(k:Int)+2≤(cR:Int):=by omega
 have hgl:g<w.heap.size:=(own_block (g:=g) hV.rdy rfl).2.1
 generalize b.ready.getD k 0=x at *
 generalize b.ready.getD (k+1) 0=y at *
 clear hV hj
 go_enter Tryz.func222,Tryz.ntmps222
 go_wp2_with fail
 go_quiet (fail)
 go_wp2_with fail
 obtain ⟨q1,q2,q3⟩:=HC.out (w.drewN nq) (below_drewN (Below.refl _ _) nq)
 refine (add_any N p ⟨b.nodes,b.ready.take k,b.waiting⟩ ⟨op,0,⟨#[]⟩,x,y⟩ _ q3 h1 (by simp;omega) q1).mono ?_
 rintro e w2 ⟨rfl,q4,q5⟩
 have HK:Hid (Kept N (fun k=>k=p) w w2):=q2.trans q5
 have HB:Hid (BldAt N p (addB ⟨op,0,⟨#[]⟩,x,y⟩ ⟨b.nodes,b.ready.take k,b.waiting⟩) w2):=q4
 clear q1 q2 q3 q4 q5 HC
 go_wp2_with fail
 first | go_end0 | refine bodyPost_ret (results_none rfl _ _ _) rfl ?_
 exact ⟨rfl,HB.out,HK.out⟩
theorem join_len {op:Int} {b:Bld} (h:2≤b.ready.length):(joinBd op b).nodes.length=b.nodes.length+1∧(joinBd op b).ready.length+1=b.ready.length∧(joinBd op b).waiting=b.waiting:=by
 refine ⟨by simp [joinBd,addB],?_,rfl⟩
 simp [joinBd,addB]
 omega
theorem ops_last {l:List Int} {k:Nat} (h:l.length=k+1):opsN l=opsN (l.take k)+(if l.getD k 0≠0 then 1 else 0)∧zerosN l=zerosN (l.take k)+(if l.getD k 0=0 then 1 else 0):=by
 have hl:l=l.take k ++ [l.getD k 0]:=by
  have h1:l.getD k 0=l[k]'(by omega):=by simp [List.getD,List.getElem?_eq_getElem (show k<l.length by omega)]
  rw [h1]
  conv=>lhs;rw [←List.take_append_drop k l]
  congr 1
  rw [List.drop_eq_getElem_cons (by omega),List.drop_eq_nil_of_le (by omega)]
 constructor
 ·conv=>lhs;rw [hl]
  unfold opsN
  rw [List.countP_append]
  by_cases e:l.getD k 0=0 <;> simp
 ·conv=>lhs;rw [hl]
  unfold zerosN
  rw [List.countP_append]
  by_cases e:l.getD k 0=0 <;> simp
theorem settle_stop {least:Int} {b:Bld} {k:Nat} (h:b.waiting.getD k 0=0∨bindN (b.waiting.getD k 0)<least):settleTo least (k+1) b=b:=by rw [settleTo,if_pos h]
theorem settle_on {least:Int} {b:Bld} {k:Nat} (h : ¬ (b.waiting.getD k 0=0∨bindN (b.waiting.getD k 0)<least)):settleTo least (k+1) b=settleTo least k (joinBd (b.waiting.getD k 0) ⟨b.nodes,b.ready,b.waiting.take k⟩):=by rw [settleTo,if_neg h]
set_option maxHeartbeats 4000000 in
theorem settle_any (N p:Nat) (b:Bld) (least:Int) (w:World) (hN:N≤w.heap.size) (h1:b.nodes.length+opsN b.waiting≤200) (h2:b.ready.length≤200) (h3:opsN b.waiting+1≤b.ready.length) (h4:b.waiting.length≤200) (hB:BldAt N p b w) :
  Calls Tryz.prog 207 #[.pointer (some ⟨p,0,none⟩),.int .i64 least] w fun e w'=>e=.returned (.tuple #[])∧BldAt N p (settleB least b) w'∧Kept N (fun k=>k=p) w w':=by
 obtain ⟨AN,cN,AR,cR,AW,cW,hV⟩:=hB
 have c2:=hV.c2
 have hlt:=hV.lt
 have HV:Hid (BldV N p AN cN AR cR AW cW b w):=hV
 obtain ⟨n0,hn0⟩:∃ n,b.waiting.length=n:=⟨_,rfl⟩
 rw [hn0] at c2
 have hni:(n0:Int)≤200:=by omega
 unfold settleB
 have HN0:Hid (b.waiting.length=n0):=hn0
 rw [hn0]
 clear hV hn0
 go_enter Tryz.func207,Tryz.ntmps207
 go_wp2_with fail
 go_loopg [4] n0 (fun g s4 wr => ∃ (b':Bld),b'.waiting.length=g∧s4=.int .i64 ((g:Int)-1)∧settleTo least g b'=settleTo least n0 b∧g≤n0∧b'.nodes.length+opsN b'.waiting≤200∧b'.ready.length≤200∧opsN b'.waiting+1≤b'.ready.length∧BldAt N p b' wr∧Kept N (fun k=>k=p) w wr)
 case atStart=>exact ⟨b,HN0.out,rfl,rfl,Nat.le_refl _,h1,h2,h3,⟨_,_,_,_,_,_,HV.out⟩,Kept.refl _ _ _⟩
 case round =>
  obtain ⟨b',hg,rfl,hst,hgn,k1,k2,k3,⟨AN',cN',AR',cR',AW',cW',hV'⟩,hK⟩:=hrel
  have HV':Hid (BldV N p AN' cN' AR' cR' AW' cW' b' wr):=hV'
  have HK:Hid (Kept N (fun k=>k=p) w wr):=hK
  have HST:Hid (settleTo least gk b'=settleTo least n0 b):=hst
  have d2:=hV'.c2
  have df:=hV'.fr 2
  have hroom:N≤wr.heap.size:=Nat.le_trans hN hK.size
  cases gk with
  | zero =>
   have HE:Hid (b'=settleTo least n0 b):=hst
   clear hV' hK hst
   go_wp2_with fail
   first | go_end0 | refine bodyPost_ret (results_none rfl _ _ _) rfl ?_
   exact ⟨rfl,by rw [←HE.out];exact ⟨_,_,_,_,_,_,HV'.out⟩,HK.out⟩
  | succ k =>
   obtain ⟨ho1,-⟩:=ops_last hg
   obtain ⟨g,hA,e0⟩:=own_int (k:=k) hV'.wai (by omega)
   subst hA
   have hgl:g<wr.heap.size:=(own_block (g:=g) hV'.wai rfl).2.1
   have hcap:k+1≤cW':=by
    rcases hV'.wai.2 with ⟨h0,_⟩ | ⟨g,cap,cur,h0,_,_,h5,_⟩
    ·cases h0
    ·cases h0;omega
   rw [hg] at d2
   have hki:(k:Int)≤200:=by omega
   have hci:(k:Int)+1≤(cW':Int):=by omega
   have hsub:((k+1:Nat):Int)-1=(k:Int):=by omega
   obtain ⟨op,hop⟩:∃ op,b'.waiting.getD k 0=op:=⟨_,rfl⟩
   rw [hop] at e0 ho1
   have HG:Hid (b'.waiting.length=k+1):=hg
   have hbi:=binds_any op
   rw [hsub]
   clear hV' hK hst hg
   by_cases hop0:op=0
   ·have HE:Hid (b'=settleTo least n0 b):=by show _=_;rw [←HST.out];exact (settle_stop (Or.inl (by rw [hop];exact hop0))).symm
    subst hop0
    clear hbi
    go_wp2_with fail
    first | go_end0 | refine bodyPost_ret (results_none rfl _ _ _) rfl ?_
    exact ⟨rfl,by rw [←HE.out];exact ⟨_,_,_,_,_,_,HV'.out⟩,HK.out⟩
   ·have hopb:(op == 0)=false:=by simpa using hop0
    by_cases hlb:bindN op<least
    ·have HE:Hid (b'=settleTo least n0 b):=by show _=_;rw [←HST.out];exact (settle_stop (Or.inr (by rw [hop];exact hlb))).symm
     generalize bindN op=bn at *
     clear hop
     go_wp2_with fail
     refine (hbi _).mono ?_
     rintro e w1 ⟨rfl,hb1⟩
     have HV1:Hid (BldV N p AN' cN' AR' cR' (some ⟨g,0,none⟩) cW' b' w1):=HV'.out.later hb1
     have HK1:Hid (Kept N (fun k=>k=p) w w1):=HK.out.trans (kept_below hb1 hroom)
     clear hb1
     go_wp2_with fail
     first | go_end0 | refine bodyPost_ret (results_none rfl _ _ _) rfl ?_
     exact ⟨rfl,by rw [←HE.out];exact ⟨_,_,_,_,_,_,HV1.out⟩,HK1.out⟩
    ·have HE:Hid (settleTo least k (joinBd op ⟨b'.nodes,b'.ready,b'.waiting.take k⟩)=settleTo least n0 b):=by
      show _=_
      rw [←HST.out,settle_on (by rw [hop];omega),hop]
     rw [if_pos hop0] at ho1
     have hlb':least≤bindN op:=by omega
     generalize bindN op=bn at *
     clear hop hlb
     go_wp2_with fail
     refine (hbi _).mono ?_
     rintro e w1 ⟨rfl,hb1⟩
     have HV1:Hid (BldV N p AN' cN' AR' cR' (some ⟨g,0,none⟩) cW' b' w1):=HV'.out.later hb1
     have HK1:Hid (Kept N (fun k=>k=p) w w1):=HK.out.trans (kept_below hb1 hroom)
     have x2:=HV1.out.c2
     have xf:=HV1.out.fr 2
     rw [HG.out] at x2
     have hroom1:N≤w1.heap.size:=Nat.le_trans hroom hb1.size
     obtain ⟨y1,y2⟩:=HV1.out.waitCut (k:=k) hroom1 (by have:=HG.out;omega)
     have HY:Hid (BldAt N p ⟨b'.nodes,b'.ready,b'.waiting.take k⟩ (w1.setCell ⟨p,2,none⟩ (.slice (some ⟨g,0,none⟩) k cW'))∧Kept N (fun k=>k=p) w1 (w1.setCell ⟨p,2,none⟩ (.slice (some ⟨g,0,none⟩) k cW'))):=⟨⟨_,_,_,_,_,_,y1⟩,y2⟩
     clear hb1 hbi y1 y2
     go_wp2_with fail
     refine (join_any N p ⟨b'.nodes,b'.ready,b'.waiting.take k⟩ op _ (Nat.le_trans hroom1 HY.out.2.size) (by show b'.nodes.length≤200;omega) k2 (by show 2≤b'.ready.length;omega) HY.out.1).mono ?_
     rintro e w2 ⟨rfl,q4,q5⟩
     have HK2:Hid (Kept N (fun k=>k=p) w w2):=(HK1.out.trans HY.out.2).trans q5
     have HB2:Hid (BldAt N p (joinBd op ⟨b'.nodes,b'.ready,b'.waiting.take k⟩) w2):=q4
     obtain ⟨l1,l2,l3⟩:=join_len (op:=op) (b:=⟨b'.nodes,b'.ready,b'.waiting.take k⟩) (by show 2≤b'.ready.length;omega)
     have HL:Hid ((joinBd op ⟨b'.nodes,b'.ready,b'.waiting.take k⟩).nodes.length=b'.nodes.length+1∧(joinBd op ⟨b'.nodes,b'.ready,b'.waiting.take k⟩).ready.length+1=b'.ready.length∧(joinBd op ⟨b'.nodes,b'.ready,b'.waiting.take k⟩).waiting=b'.waiting.take k):=⟨l1,l2,l3⟩
     clear q4 q5 l1 l2 l3
     go_wp2_with fail
     go_roundg k
     case measure=>omega
     case rel =>
      obtain ⟨l1,l2,l3⟩:=HL.out
      refine ⟨_,?_,by go_num,HE.out,by omega,?_,?_,?_,HB2.out,HK2.out⟩
      ·rw [l3,List.length_take,HG.out];omega
      ·rw [l3,l1];omega
      ·omega
      ·rw [l3];omega
theorem dec_fold:∀ (l:List UInt8) (acc:Nat),(∀ b∈l,48≤b.toNat∧b.toNat≤57)→∃ m:Nat,Lib.decFrom acc l=some m∧l.foldl (fun n c=>n*10+((c.toNat:Int)-48)) (acc:Int)=(m:Int)
 | [],acc,_=>⟨acc,rfl,rfl⟩
 | b :: r,acc,h=>by
  have hb:=h b (List.mem_cons_self ..)
  have hd:Lib.digitVal b=some (b.toNat-48):=by unfold Lib.digitVal;rw [if_pos hb]
  obtain ⟨m,h1,h2⟩:=dec_fold r (acc*10+(b.toNat-48)) (fun c hc=>h c (List.mem_cons_of_mem _ hc))
  refine ⟨m,?_,?_⟩
  ·simp only [Lib.decFrom,hd];exact h1
  ·rw [List.foldl_cons,←h2]
   congr 1
   omega
theorem digits_all {t:ByteArray} (h:∀ i,i<t.size→digB (byteN t i)=true):∀ b∈t.data.toList,48≤b.toNat∧b.toNat≤57:=by
 intro b hb
 obtain ⟨i,hi,rfl⟩:=List.getElem_of_mem hb
 have h1:=h i (by simpa using hi)
 unfold byteN digB at h1
 rw [List.getD,List.getElem?_eq_getElem hi] at h1
 simp only [Option.getD_some,Bool.and_eq_true,decide_eq_true_eq] at h1
 omega
theorem atoi_num {t:ByteArray} (h1:1≤t.size) (h:∀ i,i<t.size→digB (byteN t i)=true):Lib.atoi t.data.toList=some (numW t):=by
 have hall:=digits_all h
 obtain ⟨m,hm,hn⟩:=dec_fold t.data.toList 0 hall
 unfold numW
 have hz:((0:Nat):Int)=0:=rfl
 rw [hz] at hn
 rw [hn]
 have hne:t.data.toList≠[]:=by
  intro e
  have:t.data.toList.length=0:=by rw [e];rfl
  have h2:t.size=t.data.toList.length:=by simp
  omega
 cases hl:t.data.toList with
 | nil=>exact absurd hl hne
 | cons b r =>
  rw [hl] at hall hm
  have hb:=hall b (List.mem_cons_self ..)
  have e1:(b == 45)=false:=by
   apply Bool.eq_false_iff.2;intro e;rw [beq_iff_eq] at e;subst e;revert hb;decide
  have e2:(b == 43)=false:=by
   apply Bool.eq_false_iff.2;intro e;rw [beq_iff_eq] at e;subst e;revert hb;decide
  simp only [Lib.atoi,e1,e2,Bool.false_eq_true,if_false]
  unfold Lib.decNat
  rw [if_neg (by simp),hm]
  rfl
theorem atoin_any (t:ByteArray) (w:World) (h1:1≤t.size) (h7:t.size≤7) (h:∀ i,i<t.size→digB (byteN t i)=true):Calls Tryz.prog 225 #[.string t] w fun e w'=>e=.returned (.tuple #[.int .i64 (numW t),.nilIface])∧Below w.heap.size w w' :=
 (Any.strconv_Atoi Tryz.lays172 t (numW t) (by omega) (atoi_num h1 h) w).mono fun e w' ⟨he,x,hw⟩=>⟨he,by rw [hw];exact Lib.bytesWorld_below _ _ _⟩
theorem ndV_def (x:Nd):ndV x=.agg #[.int .i64 x.op,.int .i64 x.n,.string x.name,.int .i64 x.left,.int .i64 x.right]:=rfl
theorem zero_box {w w1 w2:World} (h1:Below (w.alloc (.cells #[.int .i64 0,.int .i64 0,.string ⟨#[]⟩,.int .i64 0,.int .i64 0] 212)).heap.size (w.alloc (.cells #[.int .i64 0,.int .i64 0,.string ⟨#[]⟩,.int .i64 0,.int .i64 0] 212)) w1) (h2:Below w1.heap.size w1 w2) :
  Below w.heap.size w w2∧(∀ j,w2.frozen? ⟨w.heap.size,j,none⟩=false)∧w2.cell? ⟨w.heap.size,0,none⟩=some (.int .i64 0)∧w2.cell? ⟨w.heap.size,1,none⟩=some (.int .i64 0)∧w2.cell? ⟨w.heap.size,2,none⟩=some (.string ⟨#[]⟩)∧w2.cell? ⟨w.heap.size,3,none⟩=some (.int .i64 0)∧w2.cell? ⟨w.heap.size,4,none⟩=some (.int .i64 0):=by
 have hb:=onB h1 h2
 have hz:w.heap.size<(w.alloc (.cells #[.int .i64 0,.int .i64 0,.string ⟨#[]⟩,.int .i64 0,.int .i64 0] 212)).heap.size:=by simp
 have h:=(hb.block _ hz).trans (heap_alloc_new w _)
 exact ⟨onB (by go_grown) hb,fun j=>by simp [World.frozen?,h],by simp [World.cell?,h],by simp [World.cell?,h],by simp [World.cell?,h],by simp [World.cell?,h],by simp [World.cell?,h]⟩
set_option maxHeartbeats 1000000 in
theorem opnd_any (t:ByteArray) (w:World) (h1:1≤t.size) (h9:t.size≤1000) (h:letB (byteN t 0)=true∨(t.size≤7∧∀ i,i<t.size→digB (byteN t i)=true)):Calls Tryz.prog 211 #[.string t] w fun e w'=>e=.returned (ndV (opndN t))∧Below w.heap.size w w':=by
 have hil:=islet_any (byteN t 0)
 have hby:=byteN_get t 0 (by omega)
 have h1':0<(t.size:Int):=by omega
 by_cases hl:letB (byteN t 0)=true
 ·have hO:opndN t=⟨2,0,t,0,0⟩:=by
   unfold opndN letB at *
   simp at hl
   rw [if_pos (by omega)]
  have hcl:=fun w=>sclone_any t w (by omega)
  rw [hO,ndV_def]
  rw [hl] at hil
  clear h hl hO
  generalize byteN t 0=c at *
  go_enter Tryz.func211,Tryz.ntmps211
  go_wp2_with fail
  refine (hil _).mono ?_
  rintro e w1 ⟨rfl,hb1⟩
  go_wp2_with fail
  refine (hcl _).mono ?_
  rintro e w2 ⟨rfl,hb2⟩
  obtain ⟨hB,hf,z0,z1,z2,z3,z4⟩:=zero_box hb1 hb2
  have HB:Hid (Below w.heap.size w w2):=hB
  have y0:=hf 0
  have y1:=hf 1
  have y2:=hf 2
  have y3:=hf 3
  have y4:=hf 4
  clear hb1 hb2 hB hf
  go_wp2_with fail
  refine bodyPost_ret (v:=.agg #[.int .i64 2,.int .i64 0,.string t,.int .i64 0,.int .i64 0]) (by simp [results,Tryz.results211,go_sem,z0,z1,z2,z3,z4]) rfl ⟨rfl,?_⟩
  exact ((((HB.out.setCell (Nat.le_refl _) _).setCell (Nat.le_refl _) _).setCell (Nat.le_refl _) _).setCell (Nat.le_refl _) _).setCell (Nat.le_refl _) _
 ·have hl':letB (byteN t 0)=false:=by simpa using hl
  obtain ⟨h7,hd⟩:=h.resolve_left hl
  have hO:opndN t=⟨1,numW t,⟨#[]⟩,0,0⟩:=by
   unfold opndN letB at *
   simp at hl
   rw [if_neg (by omega)]
  have hat:=fun w=>atoin_any t w h1 h7 hd
  rw [hO,ndV_def]
  rw [hl'] at hil
  clear h hl hO hd hl'
  generalize byteN t 0=c at *
  generalize numW t=n at *
  go_enter Tryz.func211,Tryz.ntmps211
  go_wp2_with fail
  refine (hil _).mono ?_
  rintro e w1 ⟨rfl,hb1⟩
  go_wp2_with fail
  refine (hat _).mono ?_
  rintro e w2 ⟨rfl,hb2⟩
  obtain ⟨hB,hf,z0,z1,z2,z3,z4⟩:=zero_box hb1 hb2
  have HB:Hid (Below w.heap.size w w2):=hB
  have y0:=hf 0
  have y1:=hf 1
  have y2:=hf 2
  have y3:=hf 3
  have y4:=hf 4
  clear hb1 hb2 hB hf
  go_wp2_with fail
  refine bodyPost_ret (v:=.agg #[.int .i64 1,.int .i64 n,.string ⟨#[]⟩,.int .i64 0,.int .i64 0]) (by simp [results,Tryz.results211,go_sem,z0,z1,z2,z3,z4]) rfl ⟨rfl,?_⟩
  exact ((((HB.out.setCell (Nat.le_refl _) _).setCell (Nat.le_refl _) _).setCell (Nat.le_refl _) _).setCell (Nat.le_refl _) _).setCell (Nat.le_refl _) _
structure FitB (a o:Nat) (ph:Bool) (b:Bld):Prop where
 zero:zerosN b.waiting=o
 ops:opsN b.waiting+(if ph then 1 else 0)≤b.ready.length
 nodes:b.nodes.length+opsN b.waiting≤a
 wait:b.waiting.length≤a
 ready:b.ready.length≤a
theorem BldV.push {N p cN cR cW k g c:Nat} {AN AR AW:Option Addr} {b:Bld} {w W w6:World} {x:Int} (hV:BldV N p AN cN AR cR AW cW b w) (hN:N≤w.heap.size) (hk:b.waiting.length=k) (hb:Below w.heap.size w W) (hg:W.grownBy w6 (Value.slice AW k cW).ownBlock)
  (ho:w6.ownsRow N 3 1 (.slice (some ⟨g,0,none⟩) (k+1) c) (k+1) (mapI b.waiting ++ [.int .i64 x])) (hat:(Value.slice AW k cW).ownBlock=some g∨g=W.heap.size) :
  (w6.cell? ⟨p,2,none⟩=some (.slice AW k cW)∧w6.frozen? ⟨p,2,none⟩=false)∧BldAt N p ⟨b.nodes,b.ready,b.waiting ++ [x]⟩ (w6.setCell ⟨p,2,none⟩ (.slice (some ⟨g,0,none⟩) (k+1) c))∧Kept N (fun k=>k=p) w (w6.setCell ⟨p,2,none⟩ (.slice (some ⟨g,0,none⟩) (k+1) c)):=by
 subst hk
 have h:=hV.reach hb hg (fun g e=>(own_block hV.wai e).1)
 have hh:=h.trans hV.blk
 refine ⟨⟨by simp [World.cell?,hh],by simp [World.frozen?,hh]⟩,?_⟩
 have hL:(b.waiting ++ [x]).length=b.waiting.length+1:=by simp
 have h2:=hV.wait (L:=b.waiting ++ [x]) (g:=g) (c:=c) (w2:=w6) hN hb hg (by rw [hL,mapI_snoc];exact ho) hat
 rw [hL] at h2
 exact ⟨⟨_,_,_,_,_,_,h2.1⟩,h2.2⟩
theorem settle_inv (least:Int):∀ (k:Nat) (b:Bld),b.waiting.length=k→opsN b.waiting+1≤b.ready.length →
  zerosN (settleTo least k b).waiting=zerosN b.waiting∧(settleTo least k b).ready.length+opsN b.waiting=b.ready.length+opsN (settleTo least k b).waiting∧(settleTo least k b).nodes.length+opsN (settleTo least k b).waiting=b.nodes.length+opsN b.waiting∧(settleTo least k b).waiting.length≤b.waiting.length∧opsN (settleTo least k b).waiting≤opsN b.waiting
 | 0,b,_,_=>⟨rfl,rfl,rfl,Nat.le_refl _,Nat.le_refl _⟩
 | k+1,b,hk,hr=>by
  by_cases h:b.waiting.getD k 0=0∨bindN (b.waiting.getD k 0)<least
  ·rw [settle_stop h];exact ⟨rfl,rfl,rfl,Nat.le_refl _,Nat.le_refl _⟩
  ·rw [settle_on h]
   obtain ⟨o1,o2⟩:=ops_last hk
   have hne:b.waiting.getD k 0≠0:=fun e=>h (Or.inl e)
   rw [if_pos hne] at o1
   rw [if_neg hne] at o2
   obtain ⟨l1,l2,l3⟩:=join_len (op:=b.waiting.getD k 0) (b:=⟨b.nodes,b.ready,b.waiting.take k⟩) (by show 2≤b.ready.length;omega)
   have hl:(joinBd (b.waiting.getD k 0) ⟨b.nodes,b.ready,b.waiting.take k⟩).waiting.length=k:=by rw [l3];simp;omega
   simp only at l1 l2 l3
   obtain ⟨q1,q2,q3,q4,q5⟩:=settle_inv least k (joinBd (b.waiting.getD k 0) ⟨b.nodes,b.ready,b.waiting.take k⟩) hl (by rw [l3];omega)
   rw [l3] at q1 q2 q3 q5
   exact ⟨by omega,by omega,by omega,by omega,by omega⟩
theorem settleB_inv (least:Int) (b:Bld) (h:opsN b.waiting+1≤b.ready.length) :
  zerosN (settleB least b).waiting=zerosN b.waiting∧(settleB least b).ready.length+opsN b.waiting=b.ready.length+opsN (settleB least b).waiting∧(settleB least b).nodes.length+opsN (settleB least b).waiting=b.nodes.length+opsN b.waiting∧(settleB least b).waiting.length≤b.waiting.length∧opsN (settleB least b).waiting≤opsN b.waiting:=settle_inv least _ b rfl h
theorem settle_zero:∀ (k:Nat) (b:Bld),b.waiting.length=k→∀ j,(settleTo 0 k b).waiting.length=j+1→(settleTo 0 k b).waiting.getD j 0=0
 | 0,b,hk,j,h=>by rw [settleTo] at h;omega
 | k+1,b,hk,j,h=>by
  by_cases hz:b.waiting.getD k 0=0∨bindN (b.waiting.getD k 0)<0
  ·rw [settle_stop hz] at h ⊢
   have e:j=k:=by omega
   rw [e]
   exact hz.resolve_right (by have:=bindN_ge (b.waiting.getD k 0);omega)
  ·rw [settle_on hz] at h ⊢
   exact settle_zero k _ (by show (b.waiting.take k).length=k;simp;omega) j h
theorem sign_cases {c:Int} (h:0≤signI c):(c=43∧signI c=0)∨(c=45∧signI c=1)∨(c=42∧signI c=2)∨(c=47∧signI c=3):=by
 unfold signI at *
 by_cases h1:c=43
 ·left;exact ⟨h1,by rw [if_pos h1]⟩
 by_cases h2:c=45
 ·right;left;exact ⟨h2,by rw [if_neg h1,if_pos h2]⟩
 by_cases h3:c=42
 ·right;right;left;exact ⟨h3,by rw [if_neg h1,if_neg h2,if_pos h3]⟩
 by_cases h4:c=47
 ·right;right;right;exact ⟨h4,by rw [if_neg h1,if_neg h2,if_neg h3,if_pos h4]⟩
 ·rw [if_neg h1,if_neg h2,if_neg h3,if_neg h4] at h;omega
set_option maxHeartbeats 4000000 in
theorem take_opn (N p:Nat) (b:Bld) (t:ByteArray) (w:World) (hN:N≤w.heap.size) (h1:t.size=1) (h40:byteN t 0=40) (h4:b.waiting.length≤200) (hB:BldAt N p b w) :
  Calls Tryz.prog 182 #[.pointer (some ⟨p,0,none⟩),.string t] w fun e w'=>e=.returned (.tuple #[])∧BldAt N p ⟨b.nodes,b.ready,b.waiting ++ [0]⟩ w'∧Kept N (fun k=>k=p) w w':=by
 obtain ⟨i0,hi0,hz0,hz1,hz2⟩:=info_parts Tryz.infoIntF
 obtain ⟨AN,cN,AR,cR,AW,cW,hV⟩:=hB
 have hby:=byteN_get t 0 (by omega)
 rw [h40] at hby
 have h1':0<(t.size:Int):=by omega
 have c2:=hV.c2
 have hlt:=hV.lt
 obtain ⟨k,hk⟩:∃ k,b.waiting.length=k:=⟨_,rfl⟩
 rw [hk] at c2
 have hkm:(k:Int)≤200:=by omega
 have HO:Hid (∀ w',Below w.heap.size w w'→w'.ownsRow N 3 1 (.slice AW k cW) k (mapI b.waiting)):=fun w' hb=>by have:=(hV.later hb).wai;rw [hk] at this;exact this
 have HV:Hid (BldV N p AN cN AR cR AW cW b w):=hV
 clear hV h40
 go_enter Tryz.func182,Tryz.ntmps182
 go_wp2_with (at_builtin;refine wpList_append_lies _ rfl _ _ 38 rfl N 3 i0 (.int .i64 0) 1 8 Tryz.underlying38 hi0 hz0 hz1 hz2 rfl (by decide) _ _ _ rfl (HO.out _ (by go_grown)) ⟨w.heap.size,0,none⟩ 1 1 [.int .i64 0] rfl rfl one_cell one_one (by omega) (by unfold maxLen;omega) (by omega) (by simp;omega) (w.heap.size+1) (by simp) ?_)
 intro g cg w6 hown6 hgrow hat hlt6
 obtain ⟨⟨y1,y2⟩,hP⟩:=HV.out.push hN hk (by go_grown) hgrow hown6 (by rcases hat with hat | hat;exact Or.inl hat;exact Or.inr (by simp;omega))
 have HP:Hid (BldAt N p ⟨b.nodes,b.ready,b.waiting ++ [0]⟩ (w6.setCell ⟨p,2,none⟩ (.slice (some ⟨g,0,none⟩) (k+1) cg))∧Kept N (fun k=>k=p) w (w6.setCell ⟨p,2,none⟩ (.slice (some ⟨g,0,none⟩) (k+1) cg))):=hP
 clear hown6 hgrow hat hlt6 hP
 go_wp2_with fail
 first | go_end0 | refine bodyPost_ret (results_none rfl _ _ _) rfl ?_
 exact ⟨rfl,HP.out⟩
set_option maxHeartbeats 4000000 in
theorem take_cls (N p:Nat) (b:Bld) (t:ByteArray) (w:World) (hN:N≤w.heap.size) (h1:t.size=1) (h41:byteN t 0=41) (k1:b.nodes.length+opsN b.waiting≤200) (k2:b.ready.length≤200) (k3:opsN b.waiting+1≤b.ready.length) (k4:b.waiting.length≤200) (k5:1≤zerosN b.waiting) (hB:BldAt N p b w) :
  Calls Tryz.prog 182 #[.pointer (some ⟨p,0,none⟩),.string t] w fun e w'=>e=.returned (.tuple #[])∧BldAt N p ⟨(settleB 0 b).nodes,(settleB 0 b).ready,(settleB 0 b).waiting.take ((settleB 0 b).waiting.length-1)⟩ w'∧Kept N (fun k=>k=p) w w':=by
 have hby:=byteN_get t 0 (by omega)
 rw [h41] at hby
 have h1':0<(t.size:Int):=by omega
 have hst:=settle_any N p b 0 w hN k1 k2 k3 k4 hB
 obtain ⟨q1,q2,q3,q4,q5⟩:=settleB_inv 0 b k3
 have hpos:1≤(settleB 0 b).waiting.length:=by have:=zo_len (settleB 0 b).waiting;omega
 generalize settleB 0 b=b1 at *
 obtain ⟨k,hk⟩:∃ k,b1.waiting.length=k+1:=⟨b1.waiting.length-1,by omega⟩
 rw [hk,Nat.add_sub_cancel]
 have hki:(k:Int)≤200:=by omega
 clear h41 hB
 go_enter Tryz.func182,Tryz.ntmps182
 go_wp2_with fail
 refine hst.mono ?_
 rintro e w1 ⟨rfl,⟨AN,cN,AR,cR,AW,cW,hV⟩,hK⟩
 have HV:Hid (BldV N p AN cN AR cR AW cW b1 w1):=hV
 have HK:Hid (Kept N (fun k=>k=p) w w1):=hK
 obtain ⟨g,hA,e0⟩:=own_int (k:=k) hV.wai (by omega)
 subst hA
 have hcap:k+1≤cW:=by
  rcases hV.wai.2 with ⟨h0,_⟩ | ⟨g,cap,cur,h0,_,_,h5,_⟩
  ·cases h0
  ·cases h0;omega
 have hci:(k:Int)+1≤(cW:Int):=by omega
 have c2:=hV.c2
 have cf:=hV.fr 2
 have hlt:=hV.lt
 rw [hk] at c2
 have HC:Hid (∀ w',Below w1.heap.size w1 w'→BldAt N p ⟨b1.nodes,b1.ready,b1.waiting.take k⟩ (w'.setCell ⟨p,2,none⟩ (.slice (some ⟨g,0,none⟩) k cW))∧Kept N (fun k=>k=p) w (w'.setCell ⟨p,2,none⟩ (.slice (some ⟨g,0,none⟩) k cW))):=by
  intro w' hb
  have hN1:N≤w1.heap.size:=Nat.le_trans hN hK.size
  obtain ⟨h4,h5⟩:=(hV.later hb).waitCut (k:=k) (Nat.le_trans hN1 hb.size) (by omega)
  exact ⟨⟨_,_,_,_,_,_,h4⟩,(hK.trans (kept_below hb hN1)).trans h5⟩
 clear hV hK hst
 go_wp2_with fail
 go_region
 all_goals (go_wp2_with fail;first | go_end0 | refine bodyPost_ret (results_none rfl _ _ _) rfl ?_)
 all_goals exact ⟨rfl,HC.out w1.drew (by go_grown)⟩
set_option maxHeartbeats 4000000 in
theorem take_opd (N p:Nat) (b:Bld) (t:ByteArray) (w:World) (hN:N≤w.heap.size) (h1:1≤t.size) (h9:t.size≤1000) (h:letB (byteN t 0)=true∨(t.size≤7∧∀ i,i<t.size→digB (byteN t i)=true)) (k1:b.nodes.length≤200) (k2:b.ready.length≤200) (hB:BldAt N p b w) :
  Calls Tryz.prog 182 #[.pointer (some ⟨p,0,none⟩),.string t] w fun e w'=>e=.returned (.tuple #[])∧BldAt N p (addB (opndN t) b) w'∧Kept N (fun k=>k=p) w w':=by
 have hby:=byteN_get t 0 (by omega)
 have h1':0<(t.size:Int):=by omega
 have hr:48≤byteN t 0:=by
  rcases h with h | ⟨-,h⟩
  ·unfold letB at h;simp at h;omega
  ·have:=h 0 (by omega);unfold digB at this;simp at this;omega
 have hop:=opnd_any t
 have hcc:(byteN t 0 == 40)=false∧(byteN t 0 == 41)=false∧(byteN t 0 == 43)=false∧(byteN t 0 == 45)=false∧(byteN t 0 == 42)=false∧(byteN t 0 == 47)=false:=by
  refine ⟨?_,?_,?_,?_,?_,?_⟩ <;> (apply Bool.eq_false_iff.2;intro e;rw [beq_iff_eq] at e;omega)
 obtain ⟨e1,e2,e3,e4,e5,e6⟩:=hcc
 have HOP:Hid (∀ w,Calls Tryz.prog 211 #[.string t] w fun e w'=>e=.returned (ndV (opndN t))∧Below w.heap.size w w'):=fun w=>opnd_any t w h1 h9 h
 have HB:Hid (BldAt N p b w):=hB
 clear h hB hop
 generalize byteN t 0=c at *
 generalize opndN t=x at *
 go_enter Tryz.func182,Tryz.ntmps182
 go_wp2_with fail
 refine (HOP.out _).mono ?_
 rintro e w1 ⟨rfl,hb1⟩
 obtain ⟨AN,cN,AR,cR,AW,cW,hV⟩:=HB.out
 have HB1:Hid (BldAt N p b w1):=⟨_,_,_,_,_,_,hV.later hb1⟩
 have HK1:Hid (Kept N (fun k=>k=p) w w1):=kept_below hb1 hN
 have hN1:N≤w1.heap.size:=Nat.le_trans hN hb1.size
 clear hV hb1
 go_wp2_with fail
 refine (add_any N p b x w1 hN1 k1 k2 HB1.out).mono ?_
 rintro e w2 ⟨rfl,q1,q2⟩
 have HK2:Hid (Kept N (fun k=>k=p) w w2):=HK1.out.trans q2
 have HB2:Hid (BldAt N p (addB x b) w2):=q1
 clear q1 q2
 go_wp2_with fail
 first | go_end0 | refine bodyPost_ret (results_none rfl _ _ _) rfl ?_
 exact ⟨rfl,HB2.out,HK2.out⟩
set_option maxHeartbeats 4000000 in
theorem take_sgn (N p:Nat) (b:Bld) (t:ByteArray) (w:World) (hN:N≤w.heap.size) (h1:t.size=1) (c i:Int) (hc:byteN t 0=c) (hi:signI c=i) (h:(c=43∧i=0)∨(c=45∧i=1)∨(c=42∧i=2)∨(c=47∧i=3)) (k1:b.nodes.length+opsN b.waiting≤200) (k2:b.ready.length≤200) (k3:opsN b.waiting+1≤b.ready.length) (k4:b.waiting.length≤200) (hB:BldAt N p b w) :
  Calls Tryz.prog 182 #[.pointer (some ⟨p,0,none⟩),.string t] w fun e w'=>e=.returned (.tuple #[])∧BldAt N p ⟨(settleB (bindN (3+i)) b).nodes,(settleB (bindN (3+i)) b).ready,(settleB (bindN (3+i)) b).waiting ++ [3+i]⟩ w'∧Kept N (fun k=>k=p) w w':=by
 obtain ⟨i0,hi0,hz0,hz1,hz2⟩:=info_parts Tryz.infoIntF
 have hby:=byteN_get t 0 (by omega)
 rw [hc] at hby
 have h1':0<(t.size:Int):=by omega
 have hix:=signix_any c (by omega) (by omega)
 rw [hi] at hix
 have hbi:=binds_any (3+i)
 have hst:=fun w1 h=>settle_any N p b (bindN (3+i)) w1 h k1 k2 k3 k4
 obtain ⟨q1,q2,q3,q4,q5⟩:=settleB_inv (bindN (3+i)) b k3
 generalize settleB (bindN (3+i)) b=b1 at *
 generalize bindN (3+i)=bn at *
 have HST:Hid (∀ w1,N≤w1.heap.size→BldAt N p b w1→Calls Tryz.prog 207 #[.pointer (some ⟨p,0,none⟩),.int .i64 bn] w1 fun e w'=>e=.returned (.tuple #[])∧BldAt N p b1 w'∧Kept N (fun k=>k=p) w1 w'):=hst
 have HB:Hid (BldAt N p b w):=hB
 obtain ⟨op,hop⟩:∃ op:Int,3+i=op:=⟨_,rfl⟩
 rw [hop] at hbi ⊢
 have hopr:3≤op∧op≤6:=by omega
 clear hst hB hc hi
 rcases h with ⟨rfl,rfl⟩ | ⟨rfl,rfl⟩ | ⟨rfl,rfl⟩ | ⟨rfl,rfl⟩
 all_goals
  simp only [Int.add_zero,Int.reduceAdd] at hop
  subst hop
  go_enter Tryz.func182,Tryz.ntmps182
  go_wp2_with fail
  refine (hix _).mono ?_
  rintro e w1 ⟨rfl,hb1⟩
  go_wp2_with fail
  refine (hbi _).mono ?_
  rintro e w2 ⟨rfl,hb2⟩
  obtain ⟨AN0,cN0,AR0,cR0,AW0,cW0,hV0⟩:=HB.out
  have hN2:N≤w2.heap.size:=Nat.le_trans hN (Nat.le_trans hb1.size hb2.size)
  have HB2:Hid (BldAt N p b w2):=⟨_,_,_,_,_,_,(hV0.later hb1).later hb2⟩
  have HK2:Hid (Kept N (fun k=>k=p) w w2):=(kept_below hb1 hN).trans (kept_below hb2 (Nat.le_trans hN hb1.size))
  clear hV0 hb1 hb2
  go_wp2_with fail
  refine (HST.out w2 hN2 HB2.out).mono ?_
  rintro e w3 ⟨rfl,⟨AN,cN,AR,cR,AW,cW,hV⟩,hK⟩
  have HK3:Hid (Kept N (fun k=>k=p) w w3):=HK2.out.trans hK
  have HV:Hid (BldV N p AN cN AR cR AW cW b1 w3):=hV
  have hN3:N≤w3.heap.size:=Nat.le_trans hN2 hK.size
  have c2:=hV.c2
  have hlt:=hV.lt
  obtain ⟨k,hk⟩:∃ k,b1.waiting.length=k:=⟨_,rfl⟩
  rw [hk] at c2
  have hkm:(k:Int)≤200:=by omega
  have HO:Hid (∀ w',Below w3.heap.size w3 w'→w'.ownsRow N 3 1 (.slice AW k cW) k (mapI b1.waiting)):=fun w' hb=>by have:=(hV.later hb).wai;rw [hk] at this;exact this
  clear hV hK
  go_wp2_with (at_builtin;refine wpList_append_lies _ rfl _ _ 38 rfl N 3 i0 (.int .i64 0) 1 8 Tryz.underlying38 hi0 hz0 hz1 hz2 rfl (by decide) _ _ _ rfl (HO.out _ (by go_grown)) ⟨w3.heap.size,0,none⟩ 1 1 [.int .i64 _] rfl rfl one_cell one_one (by omega) (by unfold maxLen;omega) (by omega) (by simp;omega) (w3.heap.size+1) (by simp) ?_)
  intro g cg w6 hown6 hgrow hat hlt6
  obtain ⟨⟨y1,y2⟩,hP⟩:=HV.out.push hN3 hk (by go_grown) hgrow hown6 (by rcases hat with hat | hat;exact Or.inl hat;exact Or.inr (by simp;omega))
  have HP:=hid_of (HK3.out.trans hP.2)
  have HP1:=hid_of hP.1
  clear hown6 hgrow hat hlt6 hP
  go_wp2_with fail
  first | go_end0 | refine bodyPost_ret (results_none rfl _ _ _) rfl ?_
  exact ⟨rfl,HP1.out,HP.out⟩
end Go.Proofs.YtfgegmpoejilnaaGreatDoor
