/-
  A member taken out of a draft: what the method remove answers, and what it leaves.
-/
import Derived.Test.YtfldgghobddgkaaGreatDoorJDAP
namespace Go.Proofs.YtfldgghobddgkaaGreatDoor
open Go.ChangeShapes Go.WideShapes Go.ChangeAt Go.RowKit Go.Lib
set_option maxRecDepth 100000
def remTo (M:Nat→Mem) (i j:Nat):Nat→Mem:=fun x=>if x<j then ⟨(cutM M i x).name,wo i (cutM M i x).parent,(cutM M i x).sign,(cutM M i x).formula⟩ else cutM M i x
def remD (d:Dm) (i:Nat):Dm:=⟨d.name,d.solve,d.n-1,fun x=>⟨(cutM d.mem i x).name,wo i (cutM d.mem i x).parent,(cutM d.mem i x).sign,(cutM d.mem i x).formula⟩⟩
theorem remTo_zero (M:Nat→Mem) (i:Nat):remTo M i 0=cutM M i:=by funext x;unfold remTo;rw [if_neg (Nat.not_lt_zero _)]
theorem remTo_one (M:Nat→Mem) (i j:Nat):putM (remTo M i j) j ⟨(remTo M i j j).name,wo i (remTo M i j j).parent,(remTo M i j j).sign,(remTo M i j j).formula⟩=remTo M i (j+1):=by
 have hj:remTo M i j j=cutM M i j:=if_neg (Nat.lt_irrefl _)
 rw [hj]
 funext x
 unfold putM
 by_cases e:x=j
 ·subst e
  rw [if_pos rfl]
  unfold remTo
  rw [if_pos (Nat.lt_succ_self _)]
 ·rw [if_neg e]
  unfold remTo
  by_cases h:x<j
  ·rw [if_pos h,if_pos (by omega)]
  ·rw [if_neg h,if_neg (by omega)]
def keptL (l:List En) (k:Nat) (i:Int):List En:=l.filter fun e => !decide (e.pl.getD k 0=i)
def movE (k:Nat) (i:Int) (e:En):En:=⟨e.pl.set k (wo i (e.pl.getD k 0)),e.n⟩
def remL (l:List En) (k:Nat) (i:Int):List En:=(keptL l k i).map (movE k i)
theorem lE_kept (ys:List EnL) (k:Nat) (i:Int):lE (ys.filter fun x => !atM k i x)=keptL (lE ys) k i:=by
 unfold keptL lE
 rw [List.filter_map]
 rfl
def mapTo (f:En→En) (l:List En) (j:Nat):List En:=(l.take j).map f ++ l.drop j
theorem lE_setPl {zs:List EnL} {k j:Nat} {i:Int} {l:List En} (h:lE zs=mapTo (movE k i) l j) (hj:j<l.length):lE (setPl zs j k (wo i ((zs.getD j noL).e.pl.getD k 0)))=mapTo (movE k i) l (j+1)∧(zs.getD j noL).e=l.getD j noEn:=by
 have hl:(mapTo (movE k i) l j).length=l.length:=by unfold mapTo;simp;omega
 have e1:(zs.getD j noL).e=l.getD j noEn:=by
  rw [←lE_at,h]
  unfold mapTo
  rw [List.getD_eq_getElem?_getD,List.getElem?_append_right (by simp;omega),List.getElem?_drop,List.getD_eq_getElem?_getD]
  simp
  congr 2
  omega
 refine ⟨?_,e1⟩
 unfold setPl
 rw [lE_set,h,e1]
 refine List.ext_getElem? fun m=>?_
 rw [List.getElem?_set]
 unfold mapTo at hl ⊢
 by_cases hm:j=m
 ·subst hm
  rw [if_pos rfl,if_pos (by rw [hl];exact hj),List.getElem?_append_left (by simp;omega),List.getElem?_map,List.getElem?_take,if_pos (by omega),List.getD_eq_getElem?_getD,List.getElem?_eq_getElem hj]
  rfl
 ·rw [if_neg hm]
  by_cases h2:m<j
  ·rw [List.getElem?_append_left (by simp;omega),List.getElem?_append_left (by simp;omega),List.getElem?_map,List.getElem?_map,List.getElem?_take,List.getElem?_take,if_pos h2,if_pos (by omega)]
  ·rw [List.getElem?_append_right (by simp;omega),List.getElem?_append_right (by simp;omega),List.getElem?_drop,List.getElem?_drop]
   congr 1
   simp
   omega
def remE (d:Dm) (i:Nat):Int:=if d.n=1∨0≤findFrom (fun j=>decide ((d.mem j).parent=(i:Int))) d.n 0 then 6 else 0
theorem mapI_get {L:List Int} {k:Nat} (h:k<L.length):(mapI L)[k]?=some (.int .i64 (L.getD k 0)):=by
 rw [List.getD_eq_getElem?_getD,List.getElem?_eq_getElem h]
 simp [mapI,List.getElem?_eq_getElem h]
theorem DrA.cgM {w:World} {B q g cd n k ge ce:Nat} {D:Nat→Dm} {G C:Nat→Nat} {ys:List EnL} {nm:ByteArray} {sv:Int} {m:Nat} {M M':Nat→Mem} (h:DrA w B q g cd n k ge ce (putD D k ⟨nm,sv,m,M⟩) G C ys) (hM:∀ x,x<m→M x=M' x):DrA w B q g cd n k ge ce (putD D k ⟨nm,sv,m,M'⟩) G C ys:=by
 refine ⟨h.box,h.low,⟨?_,fun i hi=>?_,h.own.apart⟩,h.ents,h.kn,h.n4,h.few,h.len⟩
 ·have h1:=h.own.dims
  rwa [cellsDo_cg2 (D':=putD D k ⟨nm,sv,m,M'⟩) (A':=fun i=>some ⟨G i,0,none⟩) (C':=C) n fun i _=>by
   by_cases e:i=k
   ·subst e;rw [putD_at,putD_at];exact ⟨rfl,rfl,rfl,rfl,rfl⟩
   ·rw [putD_off D _ e,putD_off D _ e];exact ⟨rfl,rfl,rfl,rfl,rfl⟩] at h1
 ·by_cases e:i=k
  ·subst e
   have h1:=h.own.mems i hi
   rw [putD_at] at h1 ⊢
   simp only at h1 ⊢
   rwa [cellsMb_cgr m hM] at h1
  ·have h1:=h.own.mems i hi
   rw [putD_off D _ e] at h1 ⊢
   exact h1
def Bx2 (w:World) (b2 b3 q i:Nat):Prop:=w.heap[b2]?=some (.cells #[.pointer (some ⟨q,0,none⟩)] 96 (0,0))∧w.heap[b3]?=some (.cells #[.int .i64 i] 3 (0,0))
theorem Bx2.keep {w w':World} {b2 b3 q i:Nat} (h:Bx2 w b2 b3 q i) (h1:w'.heap[b2]?=w.heap[b2]?) (h2:w'.heap[b3]?=w.heap[b3]?):Bx2 w' b2 b3 q i:=⟨h1.trans h.1,h2.trans h.2⟩
theorem Bx2.later {w w':World} {b2 b3 q i:Nat} (h:Bx2 w b2 b3 q i) (hB:Below w.heap.size w w'):Bx2 w' b2 b3 q i:=h.keep (hB.block _ (Array.getElem?_eq_some_iff.1 h.1).1) (hB.block _ (Array.getElem?_eq_some_iff.1 h.2).1)
theorem Bx2.cells {w:World} {b2 b3 q i:Nat} (h:Bx2 w b2 b3 q i):w.cell? ⟨b2,0,none⟩=some (.pointer (some ⟨q,0,none⟩))∧w.cell? ⟨b3,0,none⟩=some (.int .i64 (i:Int)):=⟨(Lib.cell_of_heap h.1 0).trans rfl,(Lib.cell_of_heap h.2 0).trans rfl⟩
theorem Bx2.off {w:World} {b2 b3 q i g x e:Nat} {c:Array Value} {f:Nat×Nat} {v:Value} (h:Bx2 w b2 b3 q i) (hg:w.heap[g]?=some (.cells c e f)) (h1:e≠96) (h2:b3≠g):Bx2 (w.setCell ⟨g,x,none⟩ v) b2 b3 q i :=
 h.keep (setCell_off _ _ _ _ _ (blk_ty h.1 hg fun e'=>h1 e'.symm)) (setCell_off _ _ _ _ _ h2)
def LowP (ys:List EnL) (b:Nat):Prop := ∀ y∈ys,∀ a,y.A=some ⟨a,0,none⟩→a<b
structure RmS (W wx:World) (B q g cd n k ge ce:Nat) (D:Nat→Dm) (d':Dm) (l:List En) (ys:List EnL) (i b2 b3:Nat):Prop where
 dr:∃ G' C',DrA wx B q g cd n k ge ce (putD D k d') G' C' ys
 ents:lE ys=l
 low:LowP ys b2
 box:Bx2 wx b2 b3 q i
 bel:Lw B W wx
 size:W.heap.size≤wx.heap.size
structure RmL (W wx:World) (B q g cd n k ge ce:Nat) (D:Nat→Dm) (d':Dm) (ys:List EnL) (i b2 b3:Nat) (G C:Nat→Nat):Prop where
 dr:DrA wx B q g cd n k ge ce (putD D k d') G C ys
 box:Bx2 wx b2 b3 q i
 bel:Lw B W wx
 size:W.heap.size≤wx.heap.size
theorem RmL.later {W wx w':World} {B q g cd n k ge ce:Nat} {D:Nat→Dm} {d':Dm} {ys:List EnL} {i b2 b3:Nat} {G C:Nat→Nat} (h:RmL W wx B q g cd n k ge ce D d' ys i b2 b3 G C) (hB:Below wx.heap.size wx w') (hW:B≤wx.heap.size):RmL W w' B q g cd n k ge ce D d' ys i b2 b3 G C :=
 ⟨h.dr.later hB,h.box.later hB,h.bel.trans (Lw.of hW hB),Nat.le_trans h.size hB.size⟩
set_option maxHeartbeats 16000000 in
theorem remove_any (B q g cd n k ge ce:Nat) (D:Nat→Dm) (G C:Nat→Nat) (ys:List EnL) (i:Nat) (w:World) (hB:B≤w.heap.size) (hi:i<(D k).n) (hn:(D k).n≤12) (htr:Tr (D k).mem (D k).n) (hpl:∀ y∈ys,0≤y.e.pl.getD k 0∧y.e.pl.getD k 0≤12) (h:DrA w B q g cd n k ge ce D G C ys) :
  Calls Tryz.prog 45 #[.pointer (some ⟨q,0,none⟩),.int .i64 i] w (MPost w B q g cd n k ge ce D (remE (D k) i) (remD (D k) i) (remL (lE ys) k i)):=by
 obtain ⟨W,hW⟩:∃ W,(w.alloc (.cells #[.pointer (some ⟨q,0,none⟩)] 96)).alloc (.cells #[.int .i64 (i:Int)] 3)=W:=⟨_,rfl⟩
 have hBW:Below w.heap.size w W:=by rw [←hW];go_grown
 have hWs:W.heap.size=w.heap.size+2:=by rw [←hW];simp
 have k1:W.heap[w.heap.size]?=some (.cells #[.pointer (some ⟨q,0,none⟩)] 96 (0,0)):=by rw [←hW,Below.heap_alloc _ _ _ (by simp)];exact heap_alloc_new ..
 have k2:W.heap[w.heap.size+1]?=some (.cells #[.int .i64 (i:Int)] 3 (0,0)):=by
  have:=heap_alloc_new (w.alloc (.cells #[.pointer (some ⟨q,0,none⟩)] 96)) (.cells #[.int .i64 (i:Int)] 3)
  rw [show (w.alloc (.cells #[.pointer (some ⟨q,0,none⟩)] 96)).heap.size=w.heap.size+1 by simp] at this
  rw [←hW];exact this
 have hbx:Bx2 W w.heap.size (w.heap.size+1) q i:=⟨k1,k2⟩
 have hd:=h.later hBW
 obtain ⟨c0,c1,c2,cfz⟩:=hd.cells
 obtain ⟨-,-,d2,dfz⟩:=hd.dim
 obtain ⟨l0,l1⟩:=hbx.cells
 have hlow:LowP ys w.heap.size:=fun y hy a ha=>by
  obtain ⟨g1,e1,o1⟩:=h.ents.each y hy
  rw [e1] at ha
  cases ha
  exact (ow_blk o1).2.1
 have hBl:B≤W.heap.size:=by omega
 have hBad:∀ w',remE (D k) i=6→Below W.heap.size W w'→MPost w B q g cd n k ge ce D (remE (D k) i) (remD (D k) i) (remL (lE ys) k i) (.returned (errV 6)) w':=fun w' h1 hb=>by
  rw [h1]
  exact MPost.bad (by decide) hB (onB hBW hb)
 by_cases hn1:(D k).n=1
 ·have hE:remE (D k) i=6:=if_pos (Or.inl hn1)
  have hF:=hid_of (hBad W hE (Below.refl _ W))
  rw [hn1] at d2
  clear hBad hd h hbx k1 k2 hlow hE hn1 hn hi htr hpl hBW
  go_enter Tryz.func45,Tryz.ntmps45
  go_wp2_with fail
  go_ret
  exact hF.out
 have hany:=anyM_any 66 (w.heap.size+1) rm1_in B q g cd n k ge ce D G C ys (fun m=>decide (m.parent=(i:Int))) W hn hd fun j w' hj hb=>rm1_any ((D k).mem j) _ i w' (by have:=hb.size;omega) ((hb.cell (p:=⟨w.heap.size+1,0,none⟩) (by show w.heap.size+1<_;omega)).trans l1)
 have hne1:(((D k).n:Int) == 1)=false:=by
  have:((D k).n:Int)≠1:=by omega
  simp only [beq_eq_false_iff_ne];exact this
 cases hAB:decide (0≤findFrom (fun j=>decide (((D k).mem j).parent=(i:Int))) (D k).n 0)
 case true =>
  have hE:remE (D k) i=6:=if_pos (Or.inr (of_decide_eq_true hAB))
  rw [hAB] at hany
  have hF:=hid_of (fun w'=>hBad w' hE)
  generalize (D k).n=m at d2 hne1
  clear hBad hd h hbx k1 k2 hlow hE hAB hn1 hn hi htr hpl hBW
  go_enter Tryz.func45,Tryz.ntmps45
  go_wp2_with fail
  refine hany.mono ?_
  rintro e w1 ⟨rfl,hb1⟩
  have hG:=hid_of (hF.out w1 hb1)
  go_wp2_with fail
  go_ret
  exact hG.out
 rw [hAB] at hany
 have HE:Hid (remE (D k) i=0):=if_neg (by rintro (e | e);exact hn1 e;rw [decide_eq_true e] at hAB;cases hAB)
 have HDel:Hid (∀ w',Below W.heap.size W w'→Calls Tryz.prog 67 #[.slice (some ⟨G k,0,none⟩) (D k).n (C k),.int .i64 i,.int .i64 ((i:Int)+1)] w' fun e w''=>e=.returned (.slice (some ⟨G k,0,none⟩) ((D k).n-1) (C k))∧w''.ownsRow B 43 4 (.slice (some ⟨G k,0,none⟩) ((D k).n-1) (C k)) ((D k).n-1) (cellsMb (cutM (D k).mem i) ((D k).n-1))∧w'.grownBy w'' (some (G k))):=fun w' hb=>mdelete_any B (G k) (C k) i (D k).n (D k).mem w' hn hi (hd.later hb).row
 obtain ⟨-,-,-,-,cmm,hcmm⟩:=ow_blk hd.row
 obtain ⟨-,hgl,-,-,cdm,hcdm⟩:=ow_blk hd.own.dims
 have HPut:Hid (∀ w5,W.grownBy w5 (some (G k))→w5.ownsRow B 43 4 (.slice (some ⟨G k,0,none⟩) ((D k).n-1) (C k)) ((D k).n-1) (cellsMb (cutM (D k).mem i) ((D k).n-1))→RmS W (w5.setCell ⟨g,k*3+2,none⟩ (.slice (some ⟨G k,0,none⟩) ((D k).n-1) (C k))) B q g cd n k ge ce D ⟨(D k).name,(D k).solve,(D k).n-1,remTo (D k).mem i 0⟩ (lE ys) ys i w.heap.size (w.heap.size+1)):=fun w5 hg hr=>by
  obtain ⟨r1,r2⟩:=hd.newM hBl hg hr (Or.inl rfl)
  rw [remTo_zero]
  refine ⟨⟨_,_,r1⟩,rfl,hlow,?_,r2,by have:=hg.size;simpa using this⟩
  have h5:=hbx.keep (w':=w5) (hg.block _ (by omega) fun e=>blk_ty k1 hcmm (by decide) (Option.some.inj e)) (hg.block _ (by omega) fun e=>blk_ty k2 hcmm (by decide) (Option.some.inj e))
  have hg5:=(hg.block g hgl fun e=>blk_ty hcdm hcmm (by decide) (Option.some.inj e)).trans hcdm
  exact h5.off hg5 (by decide) (blk_ty h5.2 hg5 (by decide))
 have HC:Hid (∀ w',Below W.heap.size W w'→w'.cell? ⟨w.heap.size,0,none⟩=some (.pointer (some ⟨q,0,none⟩))∧w'.cell? ⟨w.heap.size+1,0,none⟩=some (.int .i64 (i:Int))∧w'.cell? ⟨q,0,none⟩=some (.pointer (some ⟨g,k*3,none⟩))∧w'.cell? ⟨g,k*3+2,none⟩=some (.slice (some ⟨G k,0,none⟩) (D k).n (C k))∧w'.frozen? ⟨g,k*3+2,none⟩=false):=fun w' hb=>⟨(hbx.later hb).cells.1,(hbx.later hb).cells.2,(hd.later hb).cells.1,(hd.later hb).dim.2.2.1,(hd.later hb).dim.2.2.2 _⟩
 have HNe:Hid (some w.heap.size≠some (G k)∧some q≠some (G k)∧some g≠some (G k)∧some (w.heap.size+1)≠some (G k)):=⟨fun e=>blk_ty k1 hcmm (by decide) (Option.some.inj e),fun e=>blk_ty hd.box hcmm (by decide) (Option.some.inj e),fun e=>blk_ty hcdm hcmm (by decide) (Option.some.inj e),fun e=>blk_ty k2 hcmm (by decide) (Option.some.inj e)⟩
 have HFin:Hid (∀ wx zs,RmS W wx B q g cd n k ge ce D (remD (D k) i) (remL (lE ys) k i) zs i w.heap.size (w.heap.size+1)→MPost w B q g cd n k ge ce D (remE (D k) i) (remD (D k) i) (remL (lE ys) k i) (.returned (errV 0)) wx):=fun wx zs hr=>by
  rw [HE.out]
  obtain ⟨⟨G',C',hdr⟩,hl,-,-,hbel,-⟩:=hr
  exact ⟨rfl,fun _=>⟨G',C',zs,hdr,hl⟩,(Lw.of hB hBW).trans hbel⟩
 have hlt:∀ j,j<(D k).n→-1≤((D k).mem j).parent∧((D k).mem j).parent≤12:=fun j hj=>by have:=htr j hj;omega
 have HTr:=hid_of hlt
 have HPl:=hid_of hpl
 have HHd:=hid_of hd
 have HWs:=hid_of hWs
 have hql:q<W.heap.size:=hd.lt
 have HG2:Hid (g≠w.heap.size):=blk_ty hcdm k1 (by decide)
 have HG3:Hid (g≠w.heap.size+1):=blk_ty hcdm k2 (by decide)
 have HGQ:Hid (g≠q):=blk_ty hcdm hd.box (by decide)
 have hb2l:w.heap.size<W.heap.size:=by omega
 have hb3l:w.heap.size+1<W.heap.size:=by omega
 have hwi:IntKind.i64.wrap ((i:Int)+1)=(i:Int)+1:=IntWalk.i64_in _ (by omega)
 have hiI:(i:Int)<((D k).n:Int):=by omega
 have hnI:((D k).n:Int)≤12:=by omega
 obtain ⟨dm,hdm⟩:∃ dm,(D k).n-1=dm:=⟨_,rfl⟩
 have HDm:=hid_of hdm
 have hdmn:dm≤12:=by omega
 rw [hdm] at HDel HPut
 obtain ⟨gk,hgk⟩:∃ gk,G k=gk:=⟨_,rfl⟩
 obtain ⟨ck,hck⟩:∃ ck,C k=ck:=⟨_,rfl⟩
 obtain ⟨dn,hdn⟩:∃ dn,(D k).n=dn:=⟨_,rfl⟩
 rw [hgk,hck] at HDel HPut HC d2
 rw [hgk] at HNe
 rw [hdn] at HDel HC d2 hiI hnI hne1
 have HDN:=hid_of hdn
 clear hBad hd h hbx k1 k2 hlow hAB hn1 hn hi htr hpl hBW hlt hdm hgk hck hdn hcmm hcdm hWs dfz cfz
 go_enter Tryz.func45,Tryz.ntmps45
 go_wp2_with fail
 refine hany.mono ?_
 rintro e w1 ⟨rfl,hb1⟩
 have HB1:=hid_of hb1
 have hs1:=hb1.size
 obtain ⟨p1,p2,p3,p4,p5⟩:=HC.out w1 hb1
 clear hb1 hany
 go_upto_region 3 with fail
 go_cut [] from 24 (fun wx=>Hid (RmS W wx B q g cd n k ge ce D ⟨(D k).name,(D k).solve,dm,remTo (D k).mem i 0⟩ (lE ys) ys i w.heap.size (w.heap.size+1)))
 case first =>
  have hg2:g≠w.heap.size:=fun e=>HG2.out e
  have hg3:g≠w.heap.size+1:=fun e=>HG3.out e
  have hgq:g≠q:=fun e=>HGQ.out e
  refine wp_region_noPanic ?_
  refine wp_region_held_drew (S:=fun w'=>w'.cell? ⟨w.heap.size,0,none⟩=some (.pointer (some ⟨q,0,none⟩))∧w'.cell? ⟨w.heap.size+1,0,none⟩=some (.int .i64 (i:Int))∧w'.cell? ⟨q,0,none⟩=some (.pointer (some ⟨g,k*3,none⟩))) (by kernel_rfl) (⟨p1,p2,p3⟩) (fun hHeld=>?_)
  refine wpAnyH_take (i := 0) (oi := { dst := some 24, op := Go.Op.load 96 (Go.Operand.tmp 2), type := 96, pos := "change.go:86", after := #[], guard := none }) (v := ?vq83x3x0) rfl (by kernel_rfl) (by kernel_rfl) (by kernel_rfl) (fun _ _ _ h => h) (Or.inl ⟨by rfl, ?yq83x3x0⟩) hHeld ?rq83x3x0
  case yq83x3x0=>(intro w hSw;(try dsimp only at hSw);go_simp;(try with_reducible rfl))
  (try simp only [Act.put,List.setIfInBounds_toArray,List.set_cons_zero,List.set_cons_succ])
  refine wpAnyH_take (i := 1) (oi := { dst := some 25, op := Go.Op.nilCheck (Go.Operand.tmp 24), type := 0, pos := "change.go:86", after := #[{ on := 0, ground := Go.Ground.data }], guard := none }) (v := ?vq83x3x1) rfl (by kernel_rfl) (by kernel_rfl) (by kernel_rfl) (fun _ _ _ h => h) (Or.inl ⟨by rfl, ?yq83x3x1⟩) hHeld ?rq83x3x1
  case yq83x3x1=>(intro w hSw;(try dsimp only at hSw);go_simp;(try with_reducible rfl))
  (try simp only [Act.put,List.setIfInBounds_toArray,List.set_cons_zero,List.set_cons_succ])
  refine wpAnyH_take (i := 2) (oi := { dst := some 26, op := Go.Op.fieldAddr 74 (Go.Operand.tmp 25) 0, type := 0, pos := "change.go:86", after := #[{ on := 1, ground := Go.Ground.data }], guard := none }) (v := ?vq83x3x2) rfl (by kernel_rfl) (by kernel_rfl) (by kernel_rfl) (fun _ _ _ h => h) (Or.inl ⟨by rfl, ?yq83x3x2⟩) hHeld ?rq83x3x2
  case yq83x3x2=>(intro w hSw;(try dsimp only at hSw);go_simp;(try with_reducible rfl))
  (try simp only [Act.put,List.setIfInBounds_toArray,List.set_cons_zero,List.set_cons_succ])
  refine wpAnyH_take (i := 3) (oi := { dst := some 27, op := Go.Op.load 71 (Go.Operand.tmp 26), type := 71, pos := "change.go:86", after := #[{ on := 2, ground := Go.Ground.data }], guard := none }) (v := ?vq83x3x3) rfl (by kernel_rfl) (by kernel_rfl) (by kernel_rfl) (fun _ _ _ h => h) (Or.inl ⟨by rfl, ?yq83x3x3⟩) hHeld ?rq83x3x3
  case yq83x3x3=>(intro w hSw;(try dsimp only at hSw);go_simp;(try with_reducible rfl))
  (try simp only [Act.put,List.setIfInBounds_toArray,List.set_cons_zero,List.set_cons_succ])
  refine wpAnyH_take (i := 4) (oi := { dst := some 28, op := Go.Op.load 96 (Go.Operand.tmp 2), type := 96, pos := "change.go:86", after := #[], guard := none }) (v := ?vq83x3x4) rfl (by kernel_rfl) (by kernel_rfl) (by kernel_rfl) (fun _ _ _ h => h) (Or.inl ⟨by rfl, ?yq83x3x4⟩) hHeld ?rq83x3x4
  case yq83x3x4=>(intro w hSw;(try dsimp only at hSw);go_simp;(try with_reducible rfl))
  (try simp only [Act.put,List.setIfInBounds_toArray,List.set_cons_zero,List.set_cons_succ])
  refine wpAnyH_take (i := 5) (oi := { dst := some 29, op := Go.Op.nilCheck (Go.Operand.tmp 28), type := 0, pos := "change.go:86", after := #[{ on := 4, ground := Go.Ground.data }], guard := none }) (v := ?vq83x3x5) rfl (by kernel_rfl) (by kernel_rfl) (by kernel_rfl) (fun _ _ _ h => h) (Or.inl ⟨by rfl, ?yq83x3x5⟩) hHeld ?rq83x3x5
  case yq83x3x5=>(intro w hSw;(try dsimp only at hSw);go_simp;(try with_reducible rfl))
  (try simp only [Act.put,List.setIfInBounds_toArray,List.set_cons_zero,List.set_cons_succ])
  refine wpAnyH_take (i := 6) (oi := { dst := some 30, op := Go.Op.fieldAddr 74 (Go.Operand.tmp 29) 0, type := 0, pos := "change.go:86", after := #[{ on := 5, ground := Go.Ground.data }], guard := none }) (v := ?vq83x3x6) rfl (by kernel_rfl) (by kernel_rfl) (by kernel_rfl) (fun _ _ _ h => h) (Or.inl ⟨by rfl, ?yq83x3x6⟩) hHeld ?rq83x3x6
  case yq83x3x6=>(intro w hSw;(try dsimp only at hSw);go_simp;(try with_reducible rfl))
  (try simp only [Act.put,List.setIfInBounds_toArray,List.set_cons_zero,List.set_cons_succ])
  refine wpAnyH_take (i := 7) (oi := { dst := some 31, op := Go.Op.load 71 (Go.Operand.tmp 30), type := 71, pos := "change.go:86", after := #[{ on := 6, ground := Go.Ground.data }], guard := none }) (v := ?vq83x3x7) rfl (by kernel_rfl) (by kernel_rfl) (by kernel_rfl) (fun _ _ _ h => h) (Or.inl ⟨by rfl, ?yq83x3x7⟩) hHeld ?rq83x3x7
  case yq83x3x7=>(intro w hSw;(try dsimp only at hSw);go_simp;(try with_reducible rfl))
  (try simp only [Act.put,List.setIfInBounds_toArray,List.set_cons_zero,List.set_cons_succ])
  refine wpAnyH_take (i := 8) (oi := { dst := some 32, op := Go.Op.nilCheck (Go.Operand.tmp 31), type := 0, pos := "change.go:86", after := #[{ on := 7, ground := Go.Ground.data }], guard := none }) (v := ?vq83x3x8) rfl (by kernel_rfl) (by kernel_rfl) (by kernel_rfl) (fun _ _ _ h => h) (Or.inl ⟨by rfl, ?yq83x3x8⟩) hHeld ?rq83x3x8
  case yq83x3x8=>(intro w hSw;(try dsimp only at hSw);go_simp;(try with_reducible rfl))
  (try simp only [Act.put,List.setIfInBounds_toArray,List.set_cons_zero,List.set_cons_succ])
  refine wpAnyH_take (i := 9) (oi := { dst := some 33, op := Go.Op.fieldAddr 41 (Go.Operand.tmp 32) 2, type := 0, pos := "change.go:86", after := #[{ on := 8, ground := Go.Ground.data }], guard := none }) (v := ?vq83x3x9) rfl (by kernel_rfl) (by kernel_rfl) (by kernel_rfl) (fun _ _ _ h => h) (Or.inl ⟨by rfl, ?yq83x3x9⟩) hHeld ?rq83x3x9
  case yq83x3x9=>(intro w hSw;(try dsimp only at hSw);go_simp;(try with_reducible rfl))
  (try simp only [Act.put,List.setIfInBounds_toArray,List.set_cons_zero,List.set_cons_succ])
  refine wpAnyH_take (i := 11) (oi := { dst := some 35, op := Go.Op.load 3 (Go.Operand.tmp 3), type := 3, pos := "change.go:86", after := #[], guard := none }) (v := ?vq83x3x11) rfl (by kernel_rfl) (by kernel_rfl) (by kernel_rfl) (fun _ _ _ h => h) (Or.inl ⟨by rfl, ?yq83x3x11⟩) hHeld ?rq83x3x11
  case yq83x3x11=>(intro w hSw;(try dsimp only at hSw);go_simp;(try with_reducible rfl))
  (try simp only [Act.put,List.setIfInBounds_toArray,List.set_cons_zero,List.set_cons_succ])
  refine wpAnyH_take (i := 12) (oi := { dst := some 36, op := Go.Op.load 3 (Go.Operand.tmp 3), type := 3, pos := "change.go:86", after := #[], guard := none }) (v := ?vq83x3x12) rfl (by kernel_rfl) (by kernel_rfl) (by kernel_rfl) (fun _ _ _ h => h) (Or.inl ⟨by rfl, ?yq83x3x12⟩) hHeld ?rq83x3x12
  case yq83x3x12=>(intro w hSw;(try dsimp only at hSw);go_simp;(try with_reducible rfl))
  (try simp only [Act.put,List.setIfInBounds_toArray,List.set_cons_zero,List.set_cons_succ])
  refine wpAnyH_take (i := 13) (oi := { dst := some 37, op := Go.Op.binOp Go.BinOp.add 3 (Go.Operand.tmp 36) (Go.Operand.const (Go.Value.int Go.IntKind.i64 1)) 3, type := 3, pos := "change.go:86", after := #[{ on := 12, ground := Go.Ground.data }], guard := none }) (v := ?vq83x3x13) rfl (by kernel_rfl) (by kernel_rfl) (by kernel_rfl) (fun _ _ _ h => h) (Or.inl ⟨by rfl, ?yq83x3x13⟩) hHeld ?rq83x3x13
  case yq83x3x13=>(intro w hSw;(try dsimp only at hSw);go_simp;(try with_reducible rfl))
  (try simp only [Act.put,List.setIfInBounds_toArray,List.set_cons_zero,List.set_cons_succ])
  refine wpAnyH_ready (rs:=[10]) (by kernel_rfl) (by simp) ?_
  refine AllReadyH.cons (o := { dst := some 34, op := Go.Op.load 39 (Go.Operand.tmp 33), type := 39, pos := "change.go:86", after := #[{ on := 9, ground := Go.Ground.data }], guard := none }) rfl (fun K hK => ?_) AllReadyH.nil
  (go_simp)
  refine hK.out _ _ (⟨p1,p2,p3⟩) (fun hHeld=>?_)
  clear hK K
  (try simp only [Act.put,List.setIfInBounds_toArray,List.set_cons_zero,List.set_cons_succ])
  refine wpAnyH_ready (rs:=[14]) (by kernel_rfl) (by simp) ?_
  refine AllReadyH.cons (o := { dst := some 38, op := Go.Op.call { callee := Go.Callee.value (Go.Operand.func 67), args := #[Go.Operand.tmp 34, Go.Operand.tmp 35, Go.Operand.tmp 37], argTypes := #[39, 3, 3] }, type := 39, pos := "change.go:86", after := #[{ on := 10, ground := Go.Ground.data }, { on := 11, ground := Go.Ground.data }, { on := 13, ground := Go.Ground.data }], guard := none }) rfl (fun K hK => ?_) AllReadyH.nil
  go_simp
  (go_at_call 67;refine (HDel.out _ (onB HB1.out (by go_grown))).mono ?_;rintro e w5 ⟨rfl,hrow5,hgrow⟩;have hB5:Below W.heap.size W w1.drew:=onB HB1.out (by go_grown);have y1:=(hgrow.cell_far ⟨w.heap.size,0,none⟩ (by simp;omega) HNe.out.1).trans (HC.out _ hB5).1;have y2:=(hgrow.cell_far ⟨q,0,none⟩ (by simp;omega) HNe.out.2.1).trans (HC.out _ hB5).2.2.1;have y3:=(hgrow.cell_far ⟨w.heap.size+1,0,none⟩ (by simp;omega) HNe.out.2.2.2).trans (HC.out _ hB5).2.1;have y4:=(hgrow.cell_far ⟨g,k*3+2,none⟩ (by simp;omega) HNe.out.2.2.1).trans (HC.out _ hB5).2.2.2.1;have y5:=(hgrow.frozen_far ⟨g,k*3+2,none⟩ (by simp;omega) HNe.out.2.2.1).trans (HC.out _ hB5).2.2.2.2;have HG5:=hid_of (HPut.out w5 (grown_trans (grown_below hB5) hgrow) hrow5);clear hB5)
  go_wp2_with fail
  refine hK.out _ _ (⟨y1,y3,y2⟩) (fun hHeld=>?_)
  clear hK K
  (try simp only [Act.put,List.setIfInBounds_toArray,List.set_cons_zero,List.set_cons_succ])
  refine wpAnyH_take (i := 15) (oi := { dst := some 39, op := Go.Op.nilCheck (Go.Operand.tmp 27), type := 0, pos := "change.go:86", after := #[{ on := 3, ground := Go.Ground.data }, { on := 0, ground := Go.Ground.phase }, { on := 1, ground := Go.Ground.phase }, { on := 2, ground := Go.Ground.phase }, { on := 3, ground := Go.Ground.phase }, { on := 4, ground := Go.Ground.phase }, { on := 5, ground := Go.Ground.phase }, { on := 6, ground := Go.Ground.phase }, { on := 7, ground := Go.Ground.phase }, { on := 8, ground := Go.Ground.phase }, { on := 9, ground := Go.Ground.phase }, { on := 10, ground := Go.Ground.phase }, { on := 11, ground := Go.Ground.phase }, { on := 12, ground := Go.Ground.phase }, { on := 13, ground := Go.Ground.phase }, { on := 14, ground := Go.Ground.phase }], guard := none }) (v := ?vq83x3x15) rfl (by kernel_rfl) (by kernel_rfl) (by kernel_rfl) (fun _ _ _ h => h) (Or.inl ⟨by rfl, ?yq83x3x15⟩) hHeld ?rq83x3x15
  case yq83x3x15=>(intro w hSw;(try dsimp only at hSw);go_simp;(try with_reducible rfl))
  (try simp only [Act.put,List.setIfInBounds_toArray,List.set_cons_zero,List.set_cons_succ])
  refine wpAnyH_take (i := 16) (oi := { dst := some 40, op := Go.Op.fieldAddr 41 (Go.Operand.tmp 39) 2, type := 0, pos := "change.go:86", after := #[{ on := 15, ground := Go.Ground.data }, { on := 0, ground := Go.Ground.phase }, { on := 1, ground := Go.Ground.phase }, { on := 2, ground := Go.Ground.phase }, { on := 3, ground := Go.Ground.phase }, { on := 4, ground := Go.Ground.phase }, { on := 5, ground := Go.Ground.phase }, { on := 6, ground := Go.Ground.phase }, { on := 7, ground := Go.Ground.phase }, { on := 8, ground := Go.Ground.phase }, { on := 9, ground := Go.Ground.phase }, { on := 10, ground := Go.Ground.phase }, { on := 11, ground := Go.Ground.phase }, { on := 12, ground := Go.Ground.phase }, { on := 13, ground := Go.Ground.phase }, { on := 14, ground := Go.Ground.phase }], guard := none }) (v := ?vq83x3x16) rfl (by kernel_rfl) (by kernel_rfl) (by kernel_rfl) (fun _ _ _ h => h) (Or.inl ⟨by rfl, ?yq83x3x16⟩) hHeld ?rq83x3x16
  case yq83x3x16=>(intro w hSw;(try dsimp only at hSw);go_simp;(try with_reducible rfl))
  (try simp only [Act.put,List.setIfInBounds_toArray,List.set_cons_zero,List.set_cons_succ])
  refine wpAnyH_ready (rs:=[17]) (by kernel_rfl) (by simp) ?_
  refine AllReadyH.cons (o := { dst := none, op := Go.Op.store 39 (Go.Operand.tmp 40) (Go.Operand.tmp 38), type := 0, pos := "change.go:86", after := #[{ on := 16, ground := Go.Ground.data }, { on := 14, ground := Go.Ground.data }, { on := 14, ground := Go.Ground.chain }, { on := 0, ground := Go.Ground.phase }, { on := 1, ground := Go.Ground.phase }, { on := 2, ground := Go.Ground.phase }, { on := 3, ground := Go.Ground.phase }, { on := 4, ground := Go.Ground.phase }, { on := 5, ground := Go.Ground.phase }, { on := 6, ground := Go.Ground.phase }, { on := 7, ground := Go.Ground.phase }, { on := 8, ground := Go.Ground.phase }, { on := 9, ground := Go.Ground.phase }, { on := 10, ground := Go.Ground.phase }, { on := 11, ground := Go.Ground.phase }, { on := 12, ground := Go.Ground.phase }, { on := 13, ground := Go.Ground.phase }, { on := 14, ground := Go.Ground.phase }], guard := none }) rfl (fun K hK => ?_) AllReadyH.nil
  (go_simp)
  refine hK.out _ _ (⟨(World.cell?_setCell_far _ _ _ _ hg2).trans y1,(World.cell?_setCell_far _ _ _ _ hg3).trans y3,(World.cell?_setCell_far _ _ _ _ hgq).trans y2⟩) (fun hHeld=>?_)
  clear hK K
  (try simp only [Act.put,List.setIfInBounds_toArray,List.set_cons_zero,List.set_cons_succ])
  refine wpAnyH_done (by kernel_rfl) ?_ _
  refine NoPanic.normal ?_
  have HG6:=HG5
  clear HG5 hrow5 hgrow y1 y2 y3 y4 y5
  go_wp2_with fail
  go_meet
  exact HG6
 case rest =>
  obtain ⟨wx,rfl⟩:∃ wx:World,wx=wc:=⟨_,rfl⟩
  obtain ⟨⟨G',C',hdr⟩,-,hlow,hbx,hbel,hsz⟩:=hcut.out
  have HLw:=hid_of hlow
  have hgc:=(ow_blk hdr.row).2.2.1
  obtain ⟨q0,-,-,-⟩:=hdr.cells
  obtain ⟨-,-,q2,-⟩:=hdr.dim
  rw [putD_at] at q2 hgc
  simp only at q2 hgc
  obtain ⟨r0,-⟩:=hbx.cells
  have HR0:Hid (RmL W wx B q g cd n k ge ce D ⟨(D k).name,(D k).solve,dm,remTo (D k).mem i 0⟩ ys i w.heap.size (w.heap.size+1) G' C'):=⟨hdr,hbx,hbel,hsz⟩
  have hgcI:(dm:Int)≤(C' k:Int):=by omega
  have hdmI:(dm:Int)≤12:=by omega
  clear hcut hdr hlow hbx hbel hsz p1 p2 p3 p4 p5 HG2 HG3 HGQ HNe HPut HDel HC d2 c0 c1 c2 l0 l1
  have HCut:Hid (∀ j,j<dm→-1≤(cutM (D k).mem i j).parent∧(cutM (D k).mem i j).parent≤12):=fun j hj=>by
   unfold cutM
   exact HTr.out _ (by have:=HDm.out;split <;> omega)
  generalize hgm:G' k=gm at q2
  generalize hcm:C' k=cm at q2 hgcI
  have HGm:=hid_of hgm
  have HCm:=hid_of hcm
  clear hgm hcm hgc
  go_wp2_with fail
  clear q0 q2 r0
  go_loopg [49] dm (fun gg s49 wr => ∃ j:Nat,j≤dm∧gg=dm-j∧s49=.int .i64 j∧Hid (RmL W wr B q g cd n k ge ce D ⟨(D k).name,(D k).solve,dm,remTo (D k).mem i j⟩ ys i w.heap.size (w.heap.size+1) G' C'))
  case atStart=>exact ⟨0,Nat.zero_le _,rfl,rfl,HR0⟩
  case round =>
   obtain ⟨j,hj,rfl,rfl,HJ⟩:=hrel
   by_cases hjl:j<dm
   ·have hji:(j:Int)<(dm:Int):=by omega
    have hdr:=HJ.out.dr
    have hrow:=hdr.row
    rw [putD_at,HGm.out,HCm.out] at hrow
    simp only at hrow
    obtain ⟨x0,x1,x2,x3⟩:=cellsMb_at (remTo (D k).mem i j) dm j hjl
    have e0:=(hrow.cellAt (j*4) (by omega)).trans x0
    have e1:=(hrow.cellAt (j*4+1) (by omega)).trans x1
    have e2:=(hrow.cellAt (j*4+2) (by omega)).trans x2
    have e3:=(hrow.cellAt (j*4+3) (by omega)).trans x3
    obtain ⟨m,hm⟩:∃ m,remTo (D k).mem i j j=m:=⟨_,rfl⟩
    have hmp : -1≤m.parent∧m.parent≤12:=by
     have h1:remTo (D k).mem i j j=cutM (D k).mem i j:=if_neg (Nat.lt_irrefl _)
     rw [←hm,h1]
     exact HCut.out j hjl
    rw [hm] at e0 e1 e2 e3 x0 x1 x2 x3
    obtain ⟨-,hgml,-,-,cmm,hcmm⟩:=ow_blk hrow
    obtain ⟨-,hgl2,-,-,cdm,hcdm⟩:=ow_blk hdr.own.dims
    obtain ⟨z,hz⟩:∃ z,wr.alloc (.cells #[.string m.name,.int .i64 m.parent,.int .i64 m.sign,.string m.formula] 43)=z:=⟨_,rfl⟩
    have hBz:Below wr.heap.size wr z:=by rw [←hz];go_grown
    have hzb:z.heap[wr.heap.size]?=some (.cells #[.string m.name,.int .i64 m.parent,.int .i64 m.sign,.string m.formula] 43 (0,0)):=by rw [←hz];exact heap_alloc_new ..
    have hzG:wr.heap.size<z.heap.size:=by rw [←hz];simp
    have hJz:=HJ.out.later hBz (by have:=HJ.out.size;omega)
    have hrz:=own_later hrow hBz
    have HS:Hid (∀ w',z.grownBy w' (some gm)→w'.cell? ⟨w.heap.size,0,none⟩=some (.pointer (some ⟨q,0,none⟩))∧w'.cell? ⟨w.heap.size+1,0,none⟩=some (.int .i64 (i:Int))∧w'.cell? ⟨q,0,none⟩=some (.pointer (some ⟨g,k*3,none⟩))∧w'.cell? ⟨g,k*3+2,none⟩=some (.slice (some ⟨gm,0,none⟩) dm cm)∧w'.cell? ⟨wr.heap.size,1,none⟩=some (.int .i64 m.parent)):=fun w' hg=>by
     have hcz:=(hBz.block _ hgml).trans hcmm
     have d2:=hJz.dr.dim.2.2.1
     rw [putD_at,HGm.out,HCm.out] at d2
     exact ⟨hg.cell hJz.box.cells.1 (fun e=>blk_ty hJz.box.1 hcz (by decide) (Option.some.inj e)),hg.cell hJz.box.cells.2 (fun e=>blk_ty hJz.box.2 hcz (by decide) (Option.some.inj e)),hg.cell hJz.dr.cells.1 (fun e=>blk_ty hJz.dr.box hcz (by decide) (Option.some.inj e)),hg.cell d2 (fun e=>blk_ty ((hBz.block _ hgl2).trans hcdm) hcz (by decide) (Option.some.inj e)),hg.cell ((Lib.cell_of_heap hzb 1).trans rfl) (by simp;omega)⟩
    have HSt:Hid (∀ w',Below z.heap.size z w'→w'.cell? ⟨gm,j*4+1,none⟩=some (.int .i64 m.parent)∧w'.frozen? ⟨gm,j*4+1,none⟩=false):=fun w' hb=>⟨((own_later hrz hb).cellAt (j*4+1) (by omega)).trans x1,(own_later hrz hb).frozenAt _⟩
    obtain ⟨z0,f0⟩:=HSt.out z (Below.refl _ z)
    have HEnd:Hid (∀ w',Below z.heap.size z w'→RmL W (w'.setCell ⟨gm,j*4+1,none⟩ (.int .i64 (wo i m.parent))) B q g cd n k ge ce D ⟨(D k).name,(D k).solve,dm,remTo (D k).mem i (j+1)⟩ ys i w.heap.size (w.heap.size+1) G' C'):=fun w' hb=>by
     have h1:=hJz.later hb (by have:=hJz.size;omega)
     have hset:=cellsMb_set (M:=remTo (D k).mem i j) (n:=dm) (i:=j) (f:=1) (v:=.int .i64 (wo i m.parent)) (m:=⟨m.name,wo i m.parent,m.sign,m.formula⟩) hjl (by omega) rfl fun f hf hne=>by
      rw [hm]
      have:f=0∨f=2∨f=3:=by omega
      rcases this with rfl | rfl | rfl <;> rfl
     have h1o:=remTo_one (D k).mem i j
     rw [hm] at h1o
     rw [h1o] at hset
     obtain ⟨s1,s2⟩:=h1.dr.setM (x:=j*4+1) (v:=.int .i64 (wo i m.parent)) (M':=remTo (D k).mem i (j+1)) (by rw [putD_at];exact hset)
     rw [putD_at,putD_twice,HGm.out] at s1
     rw [HGm.out] at s2
     have hcm2:∃ c,w'.heap[gm]?=some (.cells c 43 (0,0)):=⟨_,(hb.block _ (Nat.lt_of_lt_of_le hgml hBz.size)).trans ((hBz.block _ hgml).trans hcmm)⟩
     obtain ⟨c3,hc3⟩:=hcm2
     exact ⟨s1,h1.box.off hc3 (by decide) (blk_ty h1.box.2 hc3 (by decide)),h1.bel.trans s2,by have:=h1.size;simpa using this⟩
    clear HSt
    have HWo:Hid (∀ w',Calls Tryz.prog 68 #[.int .i64 i,.int .i64 m.parent] w' fun e w''=>e=.returned (.int .i64 (wo i m.parent))∧w''=w'):=fun w'=>wo_any i m.parent w' (by omega) (by omega)
    have hJI:(j:Int)≤12:=by omega
    generalize wo (i:Int) m.parent=np at HWo HEnd
    generalize m.name=t1 at e0 hz
    generalize m.parent=t2 at e1 hz HS HWo z0
    generalize m.sign=t3 at e2 hz
    generalize m.formula=t4 at e3 hz
    clear hBz hzb x0 x1 x2 x3 hmp hm hJz hrz hrow hdr hcmm hcdm
    go_wp2_with fail
    clear e0 e1 e2 e3
    generalize wr.heap.size=bx at HS hzG
    go_region_held3 (fun w'=>z.grownBy w' (some gm)∧w'.cell? ⟨w.heap.size,0,none⟩=some (.pointer (some ⟨q,0,none⟩))∧w'.cell? ⟨w.heap.size+1,0,none⟩=some (.int .i64 (i:Int))∧w'.cell? ⟨q,0,none⟩=some (.pointer (some ⟨g,k*3,none⟩))∧w'.cell? ⟨g,k*3+2,none⟩=some (.slice (some ⟨gm,0,none⟩) dm cm)∧w'.cell? ⟨bx,1,none⟩=some (.int .i64 t2))
     ((refine (fun hG=>⟨hG,HS.out _ hG⟩) ?_;(repeat (first | exact grown_refl _ _ | assumption | refine grown_drew ?_ | refine grown_set ?_ _ _));done))
     (first | (go_at_call 68;refine (HWo.out _).mono ?_;rintro e w4 ⟨rfl,rfl⟩))
    have HF:=hid_of (HEnd.out z.drew (by go_grown))
    clear z0 f0
    go_wp2_with fail
    go_roundg (dm-(j+1))
    case measure=>omega
    case rel=>exact ⟨j+1,by omega,rfl,by go_num,HF⟩
   ·have hje:j=dm:=by omega
    subst hje
    have hJr:RmL W wr B q g cd n k ge ce D (remD (D k) i) ys i w.heap.size (w.heap.size+1) G' C':=by
     refine ⟨?_,HJ.out.box,HJ.out.bel,HJ.out.size⟩
     have h1:=HJ.out.dr.cgM (M':=(remD (D k) i).mem) fun x hx=>(if_pos hx:remTo (D k).mem i j x=_)
     rw [show remD (D k) i=⟨(D k).name,(D k).solve,j,(remD (D k) i).mem⟩ by unfold remD;rw [HDm.out]]
     exact h1
    have hBr:B≤wr.heap.size:=by have:=hJr.size;omega
    obtain ⟨⟨cue,hcue,-⟩,-⟩:=hJr.dr.ents.row
    have hb2e:w.heap.size≠ge:=blk_ty hJr.box.1 hcue (by decide)
    have hb3e:w.heap.size+1≠ge:=blk_ty hJr.box.2 hcue (by decide)
    have hqe:q≠ge:=blk_ty hJr.dr.box hcue (by decide)
    have hqb2:q≠w.heap.size:=blk_ty hJr.dr.box hJr.box.1 (by decide)
    have hqb3:q≠w.heap.size+1:=blk_ty hJr.dr.box hJr.box.2 (by decide)
    obtain ⟨zs0,hzs0⟩:∃ zs0,ys.filter (fun x => !atM k i x)=zs0:=⟨_,rfl⟩
    have hmem0:∀ y∈zs0,y∈ys:=fun y hy=>by rw [←hzs0] at hy;exact (List.mem_filter.1 hy).1
    have hap0:∀ {w':World},zs0.Pairwise fun a b=>a.A≠b.A:=fun {_}=>by rw [←hzs0];exact hJr.dr.ents.apart.filter _
    have hfew0:zs0.length≤3000:=by rw [←hzs0];exact Nat.le_trans (List.length_filter_le _ _) hJr.dr.few
    have HDf:Hid (∀ w',Below wr.heap.size wr w'→Calls Tryz.prog 69 #[.slice (some ⟨ge,0,none⟩) ys.length ce,.func (.func 70) #[] #[.pointer (some ⟨w.heap.size,0,none⟩),.pointer (some ⟨w.heap.size+1,0,none⟩)]] w' fun e w''=>e=.returned (.slice (some ⟨ge,0,none⟩) zs0.length ce)∧OwE w'' B ge ce zs0∧w'.grownBy w'' (some ge)):=fun w' hb=>by
     have hw:=hJr.later hb hBr
     obtain ⟨⟨cue',hcue',-⟩,-⟩:=hw.dr.ents.row
     have hkp:∀ (w'':World),w'.grownBy w'' (some ge)→∀ x∈ys,PlO w'' B x.A x.c x.e.pl:=fun w'' hg x hx=>by
      obtain ⟨b,e1,o1⟩:=hw.dr.ents.each x hx
      exact ⟨b,e1,o1.kept hg (Or.inr (own_ne o1 hcue' (by decide)))⟩
     refine (delf_ents 70 w.heap.size (w.heap.size+1) rm2_in ge ce ys (atM k i) w' hw.dr.few hw.dr.ents.row fun x w'' hx hg=>rm2_any x _ _ q k i w'' (hg.cell hw.box.cells.1 (fun e=>hb2e (Option.some.inj e))) (hg.cell hw.box.cells.2 (fun e=>hb3e (Option.some.inj e))) (hg.cell hw.dr.cells.2.1 (fun e=>hqe (Option.some.inj e))) (by rw [hw.dr.len x hx];exact hw.dr.kn) (by rw [hw.dr.len x hx];exact hw.dr.n4) (hkp w'' hg x hx).ty.pl).mono ?_
     rintro e w'' ⟨r1,r2,r3⟩
     rw [hzs0] at r1 r2
     exact ⟨r1,⟨r2,hw.dr.ents.low,fun y hy=>hkp w'' r3 y (hmem0 y hy),hap0 (w':=w')⟩,r3⟩
    have HPut2:Hid (∀ w5,wr.grownBy w5 (some ge)→OwE w5 B ge ce zs0→RmL W (w5.setCell ⟨q,2,none⟩ (.slice (some ⟨ge,0,none⟩) zs0.length ce)) B q g cd n k ge ce D (remD (D k) i) zs0 i w.heap.size (w.heap.size+1) G' C'):=fun w5 hg he=>by
     obtain ⟨r1,r2⟩:=hJr.dr.newE hBr hg he hfew0 fun y hy=>hJr.dr.len y (hmem0 y hy)
     have hsb:=hJr.size
     have hb5:=hJr.box.keep (w':=w5) (hg.block _ (by have:=HWs.out;omega) fun e=>hb2e (Option.some.inj e)) (hg.block _ (by have:=HWs.out;omega) fun e=>hb3e (Option.some.inj e))
     have hq5:=(hg.block q hJr.dr.lt fun e=>hqe (Option.some.inj e)).trans hJr.dr.box
     have h1:=hg.size
     have h2:(w5.setCell ⟨q,2,none⟩ (.slice (some ⟨ge,0,none⟩) zs0.length ce)).heap.size=w5.heap.size:=by simp
     exact ⟨r1,hb5.off hq5 (by decide) hqb3.symm,hJr.bel.trans r2,by omega⟩
    have HC2:Hid (∀ w',Below wr.heap.size wr w'→w'.cell? ⟨w.heap.size,0,none⟩=some (.pointer (some ⟨q,0,none⟩))∧w'.cell? ⟨q,2,none⟩=some (.slice (some ⟨ge,0,none⟩) ys.length ce)∧w'.frozen? ⟨q,2,none⟩=false):=fun w' hb=>⟨(hJr.later hb hBr).box.cells.1,(hJr.later hb hBr).dr.cells.2.2.1,(hJr.later hb hBr).dr.cells.2.2.2 _⟩
    obtain ⟨v1,v2,v3⟩:=HC2.out wr (Below.refl _ wr)
    have HL0:Hid (LowP zs0 w.heap.size∧lE zs0=keptL (lE ys) k i):=⟨fun y hy=>HLw.out y (hmem0 y hy),by rw [←hzs0,lE_kept]⟩
    have hBWr:w.heap.size<wr.heap.size∧w.heap.size+1<wr.heap.size∧q<wr.heap.size:=⟨by have:=hJr.size;have:=HWs.out;omega,by have:=hJr.size;have:=HWs.out;omega,hJr.dr.lt⟩
    obtain ⟨hbw1,hbw2,hbw3⟩:=hBWr
    have HBs:=hid_of (And.intro hb2e (And.intro hqe hqb2))
    generalize ys.length=yl at HDf HC2 v2
    clear hJr hcue hb2e hb3e hqe hqb2 hqb3 hzs0 hmem0 hap0
    go_upto_region 9 with fail
    refine wp_region_noPanic ?_
    refine wp_region_held_drew (S:=fun w'=>w'.cell? ⟨w.heap.size,0,none⟩=some (.pointer (some ⟨q,0,none⟩))) (by kernel_rfl) (v1) (fun hHeld=>?_)
    refine wpAnyH_take (i := 0) (oi := { dst := some 69, op := Go.Op.load 96 (Go.Operand.tmp 2), type := 96, pos := "change.go:90", after := #[], guard := none }) (v := ?vq83x9x0) rfl (by kernel_rfl) (by kernel_rfl) (by kernel_rfl) (fun _ _ _ h => h) (Or.inl ⟨by rfl, ?yq83x9x0⟩) hHeld ?rq83x9x0
    case yq83x9x0=>(intro w hSw;(try dsimp only at hSw);go_simp;(try with_reducible rfl))
    (try simp only [Act.put,List.setIfInBounds_toArray,List.set_cons_zero,List.set_cons_succ])
    refine wpAnyH_take (i := 1) (oi := { dst := some 70, op := Go.Op.load 96 (Go.Operand.tmp 2), type := 96, pos := "change.go:90", after := #[], guard := none }) (v := ?vq83x9x1) rfl (by kernel_rfl) (by kernel_rfl) (by kernel_rfl) (fun _ _ _ h => h) (Or.inl ⟨by rfl, ?yq83x9x1⟩) hHeld ?rq83x9x1
    case yq83x9x1=>(intro w hSw;(try dsimp only at hSw);go_simp;(try with_reducible rfl))
    (try simp only [Act.put,List.setIfInBounds_toArray,List.set_cons_zero,List.set_cons_succ])
    refine wpAnyH_take (i := 2) (oi := { dst := some 71, op := Go.Op.nilCheck (Go.Operand.tmp 70), type := 0, pos := "change.go:90", after := #[{ on := 1, ground := Go.Ground.data }], guard := none }) (v := ?vq83x9x2) rfl (by kernel_rfl) (by kernel_rfl) (by kernel_rfl) (fun _ _ _ h => h) (Or.inl ⟨by rfl, ?yq83x9x2⟩) hHeld ?rq83x9x2
    case yq83x9x2=>(intro w hSw;(try dsimp only at hSw);go_simp;(try with_reducible rfl))
    (try simp only [Act.put,List.setIfInBounds_toArray,List.set_cons_zero,List.set_cons_succ])
    refine wpAnyH_take (i := 3) (oi := { dst := some 72, op := Go.Op.fieldAddr 74 (Go.Operand.tmp 71) 2, type := 0, pos := "change.go:90", after := #[{ on := 2, ground := Go.Ground.data }], guard := none }) (v := ?vq83x9x3) rfl (by kernel_rfl) (by kernel_rfl) (by kernel_rfl) (fun _ _ _ h => h) (Or.inl ⟨by rfl, ?yq83x9x3⟩) hHeld ?rq83x9x3
    case yq83x9x3=>(intro w hSw;(try dsimp only at hSw);go_simp;(try with_reducible rfl))
    (try simp only [Act.put,List.setIfInBounds_toArray,List.set_cons_zero,List.set_cons_succ])
    refine wpAnyH_take (i := 5) (oi := { dst := some 74, op := Go.Op.makeFunc (Go.Fn.func 70) #[] #[Go.Operand.tmp 2, Go.Operand.tmp 3], type := 119, pos := "change.go:90", after := #[], guard := none }) (v := ?vq83x9x5) rfl (by kernel_rfl) (by kernel_rfl) (by kernel_rfl) (fun _ _ _ h => h) (Or.inl ⟨by rfl, ?yq83x9x5⟩) hHeld ?rq83x9x5
    case yq83x9x5=>(intro w hSw;(try dsimp only at hSw);go_simp;(try with_reducible rfl))
    (try simp only [Act.put,List.setIfInBounds_toArray,List.set_cons_zero,List.set_cons_succ])
    refine wpAnyH_ready (rs:=[4]) (by kernel_rfl) (by simp) ?_
    refine AllReadyH.cons (o := { dst := some 73, op := Go.Op.load 25 (Go.Operand.tmp 72), type := 25, pos := "change.go:90", after := #[{ on := 3, ground := Go.Ground.data }], guard := none }) rfl (fun K hK => ?_) AllReadyH.nil
    (go_simp)
    refine hK.out _ _ (v1) (fun hHeld=>?_)
    clear hK K
    (try simp only [Act.put,List.setIfInBounds_toArray,List.set_cons_zero,List.set_cons_succ])
    refine wpAnyH_ready (rs:=[6]) (by kernel_rfl) (by simp) ?_
    refine AllReadyH.cons (o := { dst := some 75, op := Go.Op.call { callee := Go.Callee.value (Go.Operand.func 69), args := #[Go.Operand.tmp 73, Go.Operand.tmp 74], argTypes := #[25, 119] }, type := 25, pos := "change.go:90", after := #[{ on := 4, ground := Go.Ground.data }, { on := 5, ground := Go.Ground.data }], guard := none }) rfl (fun K hK => ?_) AllReadyH.nil
    go_simp
    (go_at_call 69;refine (HDf.out _ (by go_grown)).mono ?_;rintro e w5 ⟨rfl,hOw5,hgrow⟩;have y1:=(hgrow.cell_far ⟨w.heap.size,0,none⟩ (by simp;omega) (fun e=>HBs.out.1 (Option.some.inj e))).trans v1;have y2:=(hgrow.cell_far ⟨q,2,none⟩ (by simp;omega) (fun e=>HBs.out.2.1 (Option.some.inj e))).trans v2;have y3:=(hgrow.frozen_far ⟨q,2,none⟩ (by simp;omega) (fun e=>HBs.out.2.1 (Option.some.inj e))).trans v3;have HG5:=hid_of (HPut2.out w5 (grown_trans (grown_below (by go_grown)) hgrow) hOw5))
    go_wp2_with fail
    refine hK.out _ _ (y1) (fun hHeld=>?_)
    clear hK K
    (try simp only [Act.put,List.setIfInBounds_toArray,List.set_cons_zero,List.set_cons_succ])
    refine wpAnyH_take (i := 7) (oi := { dst := some 76, op := Go.Op.nilCheck (Go.Operand.tmp 69), type := 0, pos := "change.go:90", after := #[{ on := 0, ground := Go.Ground.data }, { on := 0, ground := Go.Ground.phase }, { on := 1, ground := Go.Ground.phase }, { on := 2, ground := Go.Ground.phase }, { on := 3, ground := Go.Ground.phase }, { on := 4, ground := Go.Ground.phase }, { on := 5, ground := Go.Ground.phase }, { on := 6, ground := Go.Ground.phase }], guard := none }) (v := ?vq83x9x7) rfl (by kernel_rfl) (by kernel_rfl) (by kernel_rfl) (fun _ _ _ h => h) (Or.inl ⟨by rfl, ?yq83x9x7⟩) hHeld ?rq83x9x7
    case yq83x9x7=>(intro w hSw;(try dsimp only at hSw);go_simp;(try with_reducible rfl))
    (try simp only [Act.put,List.setIfInBounds_toArray,List.set_cons_zero,List.set_cons_succ])
    refine wpAnyH_take (i := 8) (oi := { dst := some 77, op := Go.Op.fieldAddr 74 (Go.Operand.tmp 76) 2, type := 0, pos := "change.go:90", after := #[{ on := 7, ground := Go.Ground.data }, { on := 0, ground := Go.Ground.phase }, { on := 1, ground := Go.Ground.phase }, { on := 2, ground := Go.Ground.phase }, { on := 3, ground := Go.Ground.phase }, { on := 4, ground := Go.Ground.phase }, { on := 5, ground := Go.Ground.phase }, { on := 6, ground := Go.Ground.phase }], guard := none }) (v := ?vq83x9x8) rfl (by kernel_rfl) (by kernel_rfl) (by kernel_rfl) (fun _ _ _ h => h) (Or.inl ⟨by rfl, ?yq83x9x8⟩) hHeld ?rq83x9x8
    case yq83x9x8=>(intro w hSw;(try dsimp only at hSw);go_simp;(try with_reducible rfl))
    (try simp only [Act.put,List.setIfInBounds_toArray,List.set_cons_zero,List.set_cons_succ])
    refine wpAnyH_ready (rs:=[9]) (by kernel_rfl) (by simp) ?_
    refine AllReadyH.cons (o := { dst := none, op := Go.Op.store 25 (Go.Operand.tmp 77) (Go.Operand.tmp 75), type := 0, pos := "change.go:90", after := #[{ on := 8, ground := Go.Ground.data }, { on := 6, ground := Go.Ground.data }, { on := 6, ground := Go.Ground.chain }, { on := 0, ground := Go.Ground.phase }, { on := 1, ground := Go.Ground.phase }, { on := 2, ground := Go.Ground.phase }, { on := 3, ground := Go.Ground.phase }, { on := 4, ground := Go.Ground.phase }, { on := 5, ground := Go.Ground.phase }, { on := 6, ground := Go.Ground.phase }], guard := none }) rfl (fun K hK => ?_) AllReadyH.nil
    (go_simp)
    refine hK.out _ _ ((World.cell?_setCell_far _ _ _ _ (fun e=>HBs.out.2.2 e)).trans y1) (fun hHeld=>?_)
    clear hK K
    (try simp only [Act.put,List.setIfInBounds_toArray,List.set_cons_zero,List.set_cons_succ])
    refine wpAnyH_done (by kernel_rfl) ?_ _
    refine NoPanic.normal ?_
    obtain ⟨wy,hwy⟩:∃ wy,w5.setCell ⟨q,2,none⟩ (.slice (some ⟨ge,0,none⟩) zs0.length ce)=wy:=⟨_,rfl⟩
    rw [hwy] at HG5
    have HY0:Hid (RmL W wy B q g cd n k ge ce D (remD (D k) i) zs0 i w.heap.size (w.heap.size+1) G' C'∧lE zs0=mapTo (movE k i) (keptL (lE ys) k i) 0∧LowP zs0 w.heap.size):=⟨HG5.out,by rw [HL0.out.2];rfl,HL0.out.1⟩
    obtain ⟨m0,-⟩:=HG5.out.box.cells
    have m1:=HG5.out.dr.cells.2.2.1
    obtain ⟨m2,hm2⟩:∃ m2,zs0.length=m2:=⟨_,rfl⟩
    have HM2:Hid ((keptL (lE ys) k i).length=m2):=by
     show _=_
     rw [←HL0.out.2,lE_len]
     exact hm2
    have HZ0:=hid_of hm2
    rw [hm2] at m1 hfew0 hwy ⊢
    have hm2I:(m2:Int)≤3000:=by omega
    have hce:Hid (m2≤ce):=by
     have:=HG5.out.dr.ents.row.2.1
     rw [hm2] at this
     exact this
    have hceI:(m2:Int)≤(ce:Int):=by have:=hce.out;omega
    clear y1 y2 y3 hgrow hOw5 HPut2 HC2 HDf v1 v2 v3 hm2 HG5
    go_wp2_with fail
    clear hwy m0 m1
    go_loopg [83] m2 (fun gg s83 wr => ∃ (j:Nat) (zs:List EnL),j≤m2∧gg=m2-j∧s83=.int .i64 j∧Hid (zs.length=m2∧RmL W wr B q g cd n k ge ce D (remD (D k) i) zs i w.heap.size (w.heap.size+1) G' C'∧lE zs=mapTo (movE k i) (keptL (lE ys) k i) j∧LowP zs w.heap.size))
    case atStart=>exact ⟨0,zs0,Nat.zero_le _,rfl,rfl,hid_of ⟨HZ0.out,HY0.out⟩⟩
    case round =>
     obtain ⟨t,zs,ht,rfl,rfl,HT⟩:=hrel
     by_cases htl:t<m2
     ·have hti:(t:Int)<(m2:Int):=by omega
      obtain ⟨hzl,hRm,hlE,hLp⟩:=HT.out
      have htz:t<zs.length:=by omega
      obtain ⟨e0,e1⟩:=hRm.dr.ents.row.ens.at (k:=t) htz
      rw [Nat.zero_add] at e0 e1
      obtain ⟨gp,hgp,hown⟩:=hRm.dr.ents.each _ (enl_mem htz)
      have hlen:=hRm.dr.len _ (enl_mem htz)
      have hkn:=hRm.dr.kn
      have hn4:=hRm.dr.n4
      obtain ⟨hse,hsx⟩:=lE_setPl hlE (by rw [HM2.out];exact htl)
      have hvb:0≤(zs.getD t noL).e.pl.getD k 0∧(zs.getD t noL).e.pl.getD k 0≤12:=by
       rw [hsx]
       have h1:(keptL (lE ys) k i).getD t noEn∈lE ys:=by
        rw [List.getD_eq_getElem?_getD,List.getElem?_eq_getElem (by rw [HM2.out];exact htl)]
        exact (List.mem_filter.1 (List.getElem_mem _)).1
       obtain ⟨y,hy,hye⟩:=List.mem_map.1 h1
       rw [←hye]
       exact HPl.out y hy
      have hplc:wr.cell? ⟨gp,k,none⟩=some (.int .i64 ((zs.getD t noL).e.pl.getD k 0)):=by
       rw [hown.cellAt k (by omega)]
       exact mapI_get (by omega)
      have hplf:=hown.frozenAt k
      obtain ⟨hgpB,hgpl,hgpc,-,cup,hcup⟩:=ow_blk hown
      have hgplow:gp<w.heap.size:=hLp _ (enl_mem htz) gp hgp
      have hgpcI:(n:Int)≤((zs.getD t noL).c:Int):=by omega
      rw [hgp,hlen] at e0
      obtain ⟨z,hz⟩:∃ z,wr.alloc (.cells #[.slice (some ⟨gp,0,none⟩) n (zs.getD t noL).c,.int .i64 (zs.getD t noL).e.n] 51)=z:=⟨_,rfl⟩
      have hBz:Below wr.heap.size wr z:=by rw [←hz];go_grown
      have hzb:z.heap[wr.heap.size]?=some (.cells #[.slice (some ⟨gp,0,none⟩) n (zs.getD t noL).c,.int .i64 (zs.getD t noL).e.n] 51 (0,0)):=by rw [←hz];exact heap_alloc_new ..
      have hRz:=hRm.later hBz (by have:=hRm.size;omega)
      have z1:z.cell? ⟨wr.heap.size,0,none⟩=some (.slice (some ⟨gp,0,none⟩) n (zs.getD t noL).c):=(Lib.cell_of_heap hzb 0).trans rfl
      obtain ⟨z2,z3⟩:=hRz.box.cells
      have z4:=hRz.dr.cells.2.1
      have z5:=(hBz.cell (p:=⟨gp,k,none⟩) hgpl).trans hplc
      have z6:=(hBz.frozen (p:=⟨gp,k,none⟩) hgpl).trans hplf
      have HNx:Hid (gp≠wr.heap.size∧gp≠w.heap.size∧gp≠w.heap.size+1∧gp≠q):=⟨by omega,by omega,by omega,blk_ty hcup hRm.dr.box (by decide)⟩
      have HEnd:Hid (∀ w',Below z.heap.size z w'→RmL W (w'.setCell ⟨gp,k,none⟩ (.int .i64 (wo i ((zs.getD t noL).e.pl.getD k 0)))) B q g cd n k ge ce D (remD (D k) i) (setPl zs t k (wo i ((zs.getD t noL).e.pl.getD k 0))) i w.heap.size (w.heap.size+1) G' C'):=fun w' hb=>by
       have h1:=hRz.later hb (by have:=hRz.size;omega)
       obtain ⟨s1,s2⟩:=h1.dr.setE (v:=wo i ((zs.getD t noL).e.pl.getD k 0)) htz hgp
       have hcp2:w'.heap[gp]?=_:=(hb.block _ (Nat.lt_of_lt_of_le hgpl hBz.size)).trans ((hBz.block _ hgpl).trans hcup)
       exact ⟨s1,h1.box.off hcp2 (by decide) (by omega),h1.bel.trans s2,by have:=h1.size;simpa using this⟩
      have HSet:Hid (∀ v,(setPl zs t k v).length=m2∧LowP (setPl zs t k v) w.heap.size):=fun v=>⟨by unfold setPl;simp;exact hzl,fun y hy a ha=>by
       rcases List.mem_or_eq_of_mem_set hy with hy | rfl
       ·exact hLp y hy a ha
       ·exact hLp _ (enl_mem htz) a ha⟩
      have HSe:=hid_of hse
      have HWo:Hid (∀ w',Calls Tryz.prog 68 #[.int .i64 i,.int .i64 ((zs.getD t noL).e.pl.getD k 0)] w' fun e w''=>e=.returned (.int .i64 (wo i ((zs.getD t noL).e.pl.getD k 0)))∧w''=w'):=fun w'=>wo_any i _ w' (by omega) (by omega)
      have hkI:(k:Int)<(n:Int):=by omega
      have hnI4:(n:Int)≤4:=by omega
      generalize (zs.getD t noL).e.pl.getD k 0=v0 at HSe HWo HEnd z5
      generalize (zs.getD t noL).e.n=N at e1 hz
      generalize (zs.getD t noL).c=pc at e0 hz hgpcI z1
      generalize wo (i:Int) v0=v1 at HSe HWo HEnd
      have hkz:gp<wr.heap.size:=hgpl
      clear hRm hRz hBz hzb hown hlen hcup hgp hlE hLp hse hsx hvb hplc hplf hkn hn4 hgpc
      go_upto_region 13 with fail
      refine wp_region_noPanic ?_
      refine wp_region_held_drew (S:=fun w'=>w'.cell? ⟨wr.heap.size,0,none⟩=some (.slice (some ⟨gp,0,none⟩) n pc)∧w'.cell? ⟨w.heap.size,0,none⟩=some (.pointer (some ⟨q,0,none⟩))∧w'.cell? ⟨w.heap.size+1,0,none⟩=some (.int .i64 (i:Int))∧w'.cell? ⟨q,1,none⟩=some (.int .i64 (k:Int))) (by kernel_rfl) (⟨z1,z2,z3,z4⟩) (fun hHeld=>?_)
      refine wpAnyH_take (i := 0) (oi := { dst := some 87, op := Go.Op.fieldAddr 51 (Go.Operand.tmp 8) 0, type := 0, pos := "change.go:92", after := #[], guard := none }) (v := ?vq83x13x0) rfl (by kernel_rfl) (by kernel_rfl) (by kernel_rfl) (fun _ _ _ h => h) (Or.inl ⟨by rfl, ?yq83x13x0⟩) hHeld ?rq83x13x0
      case yq83x13x0=>(intro w hSw;(try dsimp only at hSw);go_simp;(try with_reducible rfl))
      (try simp only [Act.put,List.setIfInBounds_toArray,List.set_cons_zero,List.set_cons_succ])
      refine wpAnyH_take (i := 1) (oi := { dst := some 88, op := Go.Op.load 49 (Go.Operand.tmp 87), type := 49, pos := "change.go:92", after := #[{ on := 0, ground := Go.Ground.data }], guard := none }) (v := ?vq83x13x1) rfl (by kernel_rfl) (by kernel_rfl) (by kernel_rfl) (fun _ _ _ h => h) (Or.inl ⟨by rfl, ?yq83x13x1⟩) hHeld ?rq83x13x1
      case yq83x13x1=>(intro w hSw;(try dsimp only at hSw);go_simp;(try with_reducible rfl))
      (try simp only [Act.put,List.setIfInBounds_toArray,List.set_cons_zero,List.set_cons_succ])
      refine wpAnyH_take (i := 2) (oi := { dst := some 89, op := Go.Op.load 96 (Go.Operand.tmp 2), type := 96, pos := "change.go:92", after := #[], guard := none }) (v := ?vq83x13x2) rfl (by kernel_rfl) (by kernel_rfl) (by kernel_rfl) (fun _ _ _ h => h) (Or.inl ⟨by rfl, ?yq83x13x2⟩) hHeld ?rq83x13x2
      case yq83x13x2=>(intro w hSw;(try dsimp only at hSw);go_simp;(try with_reducible rfl))
      (try simp only [Act.put,List.setIfInBounds_toArray,List.set_cons_zero,List.set_cons_succ])
      refine wpAnyH_take (i := 3) (oi := { dst := some 90, op := Go.Op.nilCheck (Go.Operand.tmp 89), type := 0, pos := "change.go:92", after := #[{ on := 2, ground := Go.Ground.data }], guard := none }) (v := ?vq83x13x3) rfl (by kernel_rfl) (by kernel_rfl) (by kernel_rfl) (fun _ _ _ h => h) (Or.inl ⟨by rfl, ?yq83x13x3⟩) hHeld ?rq83x13x3
      case yq83x13x3=>(intro w hSw;(try dsimp only at hSw);go_simp;(try with_reducible rfl))
      (try simp only [Act.put,List.setIfInBounds_toArray,List.set_cons_zero,List.set_cons_succ])
      refine wpAnyH_take (i := 4) (oi := { dst := some 91, op := Go.Op.fieldAddr 74 (Go.Operand.tmp 90) 1, type := 0, pos := "change.go:92", after := #[{ on := 3, ground := Go.Ground.data }], guard := none }) (v := ?vq83x13x4) rfl (by kernel_rfl) (by kernel_rfl) (by kernel_rfl) (fun _ _ _ h => h) (Or.inl ⟨by rfl, ?yq83x13x4⟩) hHeld ?rq83x13x4
      case yq83x13x4=>(intro w hSw;(try dsimp only at hSw);go_simp;(try with_reducible rfl))
      (try simp only [Act.put,List.setIfInBounds_toArray,List.set_cons_zero,List.set_cons_succ])
      refine wpAnyH_take (i := 5) (oi := { dst := some 92, op := Go.Op.load 3 (Go.Operand.tmp 91), type := 3, pos := "change.go:92", after := #[{ on := 4, ground := Go.Ground.data }], guard := none }) (v := ?vq83x13x5) rfl (by kernel_rfl) (by kernel_rfl) (by kernel_rfl) (fun _ _ _ h => h) (Or.inl ⟨by rfl, ?yq83x13x5⟩) hHeld ?rq83x13x5
      case yq83x13x5=>(intro w hSw;(try dsimp only at hSw);go_simp;(try with_reducible rfl))
      (try simp only [Act.put,List.setIfInBounds_toArray,List.set_cons_zero,List.set_cons_succ])
      refine wpAnyH_take (i := 6) (oi := { dst := some 93, op := Go.Op.load 3 (Go.Operand.tmp 3), type := 3, pos := "change.go:92", after := #[], guard := none }) (v := ?vq83x13x6) rfl (by kernel_rfl) (by kernel_rfl) (by kernel_rfl) (fun _ _ _ h => h) (Or.inl ⟨by rfl, ?yq83x13x6⟩) hHeld ?rq83x13x6
      case yq83x13x6=>(intro w hSw;(try dsimp only at hSw);go_simp;(try with_reducible rfl))
      (try simp only [Act.put,List.setIfInBounds_toArray,List.set_cons_zero,List.set_cons_succ])
      refine wpAnyH_take (i := 7) (oi := { dst := some 94, op := Go.Op.fieldAddr 51 (Go.Operand.tmp 8) 0, type := 0, pos := "change.go:92", after := #[], guard := none }) (v := ?vq83x13x7) rfl (by kernel_rfl) (by kernel_rfl) (by kernel_rfl) (fun _ _ _ h => h) (Or.inl ⟨by rfl, ?yq83x13x7⟩) hHeld ?rq83x13x7
      case yq83x13x7=>(intro w hSw;(try dsimp only at hSw);go_simp;(try with_reducible rfl))
      (try simp only [Act.put,List.setIfInBounds_toArray,List.set_cons_zero,List.set_cons_succ])
      refine wpAnyH_take (i := 8) (oi := { dst := some 95, op := Go.Op.load 49 (Go.Operand.tmp 94), type := 49, pos := "change.go:92", after := #[{ on := 7, ground := Go.Ground.data }], guard := none }) (v := ?vq83x13x8) rfl (by kernel_rfl) (by kernel_rfl) (by kernel_rfl) (fun _ _ _ h => h) (Or.inl ⟨by rfl, ?yq83x13x8⟩) hHeld ?rq83x13x8
      case yq83x13x8=>(intro w hSw;(try dsimp only at hSw);go_simp;(try with_reducible rfl))
      (try simp only [Act.put,List.setIfInBounds_toArray,List.set_cons_zero,List.set_cons_succ])
      refine wpAnyH_take (i := 9) (oi := { dst := some 96, op := Go.Op.load 96 (Go.Operand.tmp 2), type := 96, pos := "change.go:92", after := #[], guard := none }) (v := ?vq83x13x9) rfl (by kernel_rfl) (by kernel_rfl) (by kernel_rfl) (fun _ _ _ h => h) (Or.inl ⟨by rfl, ?yq83x13x9⟩) hHeld ?rq83x13x9
      case yq83x13x9=>(intro w hSw;(try dsimp only at hSw);go_simp;(try with_reducible rfl))
      (try simp only [Act.put,List.setIfInBounds_toArray,List.set_cons_zero,List.set_cons_succ])
      refine wpAnyH_take (i := 10) (oi := { dst := some 97, op := Go.Op.nilCheck (Go.Operand.tmp 96), type := 0, pos := "change.go:92", after := #[{ on := 9, ground := Go.Ground.data }], guard := none }) (v := ?vq83x13x10) rfl (by kernel_rfl) (by kernel_rfl) (by kernel_rfl) (fun _ _ _ h => h) (Or.inl ⟨by rfl, ?yq83x13x10⟩) hHeld ?rq83x13x10
      case yq83x13x10=>(intro w hSw;(try dsimp only at hSw);go_simp;(try with_reducible rfl))
      (try simp only [Act.put,List.setIfInBounds_toArray,List.set_cons_zero,List.set_cons_succ])
      refine wpAnyH_take (i := 11) (oi := { dst := some 98, op := Go.Op.fieldAddr 74 (Go.Operand.tmp 97) 1, type := 0, pos := "change.go:92", after := #[{ on := 10, ground := Go.Ground.data }], guard := none }) (v := ?vq83x13x11) rfl (by kernel_rfl) (by kernel_rfl) (by kernel_rfl) (fun _ _ _ h => h) (Or.inl ⟨by rfl, ?yq83x13x11⟩) hHeld ?rq83x13x11
      case yq83x13x11=>(intro w hSw;(try dsimp only at hSw);go_simp;(try with_reducible rfl))
      (try simp only [Act.put,List.setIfInBounds_toArray,List.set_cons_zero,List.set_cons_succ])
      refine wpAnyH_take (i := 12) (oi := { dst := some 99, op := Go.Op.load 3 (Go.Operand.tmp 98), type := 3, pos := "change.go:92", after := #[{ on := 11, ground := Go.Ground.data }], guard := none }) (v := ?vq83x13x12) rfl (by kernel_rfl) (by kernel_rfl) (by kernel_rfl) (fun _ _ _ h => h) (Or.inl ⟨by rfl, ?yq83x13x12⟩) hHeld ?rq83x13x12
      case yq83x13x12=>(intro w hSw;(try dsimp only at hSw);go_simp;(try with_reducible rfl))
      (try simp only [Act.put,List.setIfInBounds_toArray,List.set_cons_zero,List.set_cons_succ])
      refine wpAnyH_take (i := 13) (oi := { dst := some 100, op := Go.Op.indexAddr 49 (Go.Operand.tmp 95) (Go.Operand.tmp 99), type := 0, pos := "change.go:92", after := #[{ on := 8, ground := Go.Ground.data }, { on := 12, ground := Go.Ground.data }], guard := none }) (v := ?vq83x13x13) rfl (by kernel_rfl) (by kernel_rfl) (by kernel_rfl) (fun _ _ _ h => h) (Or.inl ⟨by rfl, ?yq83x13x13⟩) hHeld ?rq83x13x13
      case yq83x13x13=>(intro w hSw;(try dsimp only at hSw);go_simp;(try with_reducible rfl))
      (try simp only [Act.put,List.setIfInBounds_toArray,List.set_cons_zero,List.set_cons_succ])
      refine wpAnyH_ready (rs:=[14]) (by kernel_rfl) (by simp) ?_
      refine AllReadyH.cons (o := { dst := some 101, op := Go.Op.load 3 (Go.Operand.tmp 100), type := 3, pos := "change.go:92", after := #[{ on := 13, ground := Go.Ground.data }], guard := none }) rfl (fun K hK => ?_) AllReadyH.nil
      (go_simp)
      refine hK.out _ _ (⟨z1,z2,z3,z4⟩) (fun hHeld=>?_)
      clear hK K
      (try simp only [Act.put,List.setIfInBounds_toArray,List.set_cons_zero,List.set_cons_succ])
      refine wpAnyH_ready (rs:=[15]) (by kernel_rfl) (by simp) ?_
      refine AllReadyH.cons (o := { dst := some 102, op := Go.Op.call { callee := Go.Callee.value (Go.Operand.func 68), args := #[Go.Operand.tmp 93, Go.Operand.tmp 101], argTypes := #[3, 3] }, type := 3, pos := "change.go:92", after := #[{ on := 6, ground := Go.Ground.data }, { on := 14, ground := Go.Ground.data }], guard := none }) rfl (fun K hK => ?_) AllReadyH.nil
      go_simp
      (go_at_call 68;refine (HWo.out _).mono ?_;rintro e w4 ⟨rfl,rfl⟩)
      go_wp2_with fail
      refine hK.out _ _ (⟨z1,z2,z3,z4⟩) (fun hHeld=>?_)
      clear hK K
      (try simp only [Act.put,List.setIfInBounds_toArray,List.set_cons_zero,List.set_cons_succ])
      refine wpAnyH_take (i := 16) (oi := { dst := some 103, op := Go.Op.indexAddr 49 (Go.Operand.tmp 88) (Go.Operand.tmp 92), type := 0, pos := "change.go:92", after := #[{ on := 1, ground := Go.Ground.data }, { on := 5, ground := Go.Ground.data }, { on := 0, ground := Go.Ground.phase }, { on := 1, ground := Go.Ground.phase }, { on := 2, ground := Go.Ground.phase }, { on := 3, ground := Go.Ground.phase }, { on := 4, ground := Go.Ground.phase }, { on := 5, ground := Go.Ground.phase }, { on := 6, ground := Go.Ground.phase }, { on := 7, ground := Go.Ground.phase }, { on := 8, ground := Go.Ground.phase }, { on := 9, ground := Go.Ground.phase }, { on := 10, ground := Go.Ground.phase }, { on := 11, ground := Go.Ground.phase }, { on := 12, ground := Go.Ground.phase }, { on := 13, ground := Go.Ground.phase }, { on := 14, ground := Go.Ground.phase }, { on := 15, ground := Go.Ground.phase }], guard := none }) (v := ?vq83x13x16) rfl (by kernel_rfl) (by kernel_rfl) (by kernel_rfl) (fun _ _ _ h => h) (Or.inl ⟨by rfl, ?yq83x13x16⟩) hHeld ?rq83x13x16
      case yq83x13x16=>(intro w hSw;(try dsimp only at hSw);go_simp;(try with_reducible rfl))
      (try simp only [Act.put,List.setIfInBounds_toArray,List.set_cons_zero,List.set_cons_succ])
      refine wpAnyH_ready (rs:=[17]) (by kernel_rfl) (by simp) ?_
      refine AllReadyH.cons (o := { dst := none, op := Go.Op.store 3 (Go.Operand.tmp 103) (Go.Operand.tmp 102), type := 0, pos := "change.go:92", after := #[{ on := 16, ground := Go.Ground.data }, { on := 15, ground := Go.Ground.data }, { on := 15, ground := Go.Ground.chain }, { on := 0, ground := Go.Ground.phase }, { on := 1, ground := Go.Ground.phase }, { on := 2, ground := Go.Ground.phase }, { on := 3, ground := Go.Ground.phase }, { on := 4, ground := Go.Ground.phase }, { on := 5, ground := Go.Ground.phase }, { on := 6, ground := Go.Ground.phase }, { on := 7, ground := Go.Ground.phase }, { on := 8, ground := Go.Ground.phase }, { on := 9, ground := Go.Ground.phase }, { on := 10, ground := Go.Ground.phase }, { on := 11, ground := Go.Ground.phase }, { on := 12, ground := Go.Ground.phase }, { on := 13, ground := Go.Ground.phase }, { on := 14, ground := Go.Ground.phase }, { on := 15, ground := Go.Ground.phase }], guard := none }) rfl (fun K hK => ?_) AllReadyH.nil
      (go_simp)
      refine hK.out _ _ (⟨(World.cell?_setCell_far _ _ _ _ HNx.out.1).trans z1,(World.cell?_setCell_far _ _ _ _ HNx.out.2.1).trans z2,(World.cell?_setCell_far _ _ _ _ HNx.out.2.2.1).trans z3,(World.cell?_setCell_far _ _ _ _ HNx.out.2.2.2).trans z4⟩) (fun hHeld=>?_)
      clear hK K
      (try simp only [Act.put,List.setIfInBounds_toArray,List.set_cons_zero,List.set_cons_succ])
      refine wpAnyH_done (by kernel_rfl) ?_ _
      refine NoPanic.normal ?_
      have HF:=hid_of (HEnd.out z.drew (by go_grown))
      clear z1 z2 z3 z4 z5 z6
      go_wp2_with fail
      go_roundg (m2-(t+1))
      case measure=>omega
      case rel=>exact ⟨t+1,_,by omega,rfl,by go_num,hid_of ⟨(HSet.out v1).1,HF.out,HSe.out,(HSet.out v1).2⟩⟩
     ·have hte:t=m2:=by omega
      subst hte
      obtain ⟨hzl,hRm,hlE,hLp⟩:=HT.out
      have hG:=hid_of (HFin.out wr zs ⟨⟨G',C',hRm.dr⟩,by
       rw [hlE]
       unfold mapTo remL
       rw [List.take_of_length_le (by rw [HM2.out];exact Nat.le_refl _),List.drop_of_length_le (by rw [HM2.out];exact Nat.le_refl _),List.append_nil],hLp,hRm.box,hRm.bel,hRm.size⟩)
      clear hRm hlE hLp
      go_wp2_with fail
      go_ret
      exact hG.out
end Go.Proofs.YtfldgghobddgkaaGreatDoor
