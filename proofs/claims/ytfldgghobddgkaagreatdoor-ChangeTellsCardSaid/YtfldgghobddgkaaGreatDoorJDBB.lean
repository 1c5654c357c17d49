/-
  A member called otherwise: what the draft's method rename answers, and what it leaves.
-/
import Derived.Test.YtfldgghobddgkaaGreatDoorJDBA
namespace Go.Proofs.YtfldgghobddgkaaGreatDoor
open Go.ChangeShapes Go.WideShapes Go.ChangeAt Go.RowKit Go.Lib
set_option maxRecDepth 100000
def rnTo (M:Nat→Mem) (i:Nat) (new:ByteArray) (j:Nat):Nat→Mem:=fun x=>⟨if x=i then new else (M x).name,(M x).parent,(M x).sign,if x<j then refT (M i).name new (M x).formula else (M x).formula⟩
def renD (d:Dm) (i:Nat) (new:ByteArray):Dm:=⟨d.name,d.solve,d.n,fun x=>⟨if x=i then new else (d.mem x).name,(d.mem x).parent,(d.mem x).sign,refT (d.mem i).name new (d.mem x).formula⟩⟩
theorem rnTo_zero (M:Nat→Mem) (i:Nat) (new:ByteArray):putM M i ⟨new,(M i).parent,(M i).sign,(M i).formula⟩=rnTo M i new 0:=by
 funext x
 unfold putM rnTo
 by_cases e:x=i
 ·subst e;rw [if_pos rfl,if_pos rfl,if_neg (Nat.not_lt_zero _)]
 ·rw [if_neg e,if_neg e,if_neg (Nat.not_lt_zero _)]
theorem rnTo_one (M:Nat→Mem) (i:Nat) (new:ByteArray) (j:Nat):putM (rnTo M i new j) j ⟨(rnTo M i new j j).name,(rnTo M i new j j).parent,(rnTo M i new j j).sign,refT (M i).name new (M j).formula⟩=rnTo M i new (j+1):=by
 funext x
 unfold putM
 by_cases e:x=j
 ·subst e
  rw [if_pos rfl]
  unfold rnTo
  rw [if_pos (Nat.lt_succ_self _)]
 ·rw [if_neg e]
  unfold rnTo
  by_cases h:x<j
  ·rw [if_pos h,if_pos (show x<j+1 by omega)]
  ·rw [if_neg h,if_neg (show ¬ x<j+1 by omega)]
def renE (d:Dm) (i:Nat) (new:ByteArray):Int:=if nameErr new≠0 then nameErr new else if same new (d.mem i).name=false∧0≤findFrom (fun j=>same (d.mem j).name new) d.n 0 then 7 else 0
def BxS (w:World) (b5 b8:Nat) (new old:ByteArray):Prop:=w.heap[b5]?=some (.cells #[.string new] 9 (0,0))∧w.heap[b8]?=some (.cells #[.string old] 9 (0,0))
theorem BxS.later {w w':World} {b5 b8:Nat} {new old:ByteArray} (h:BxS w b5 b8 new old) (hB:Below w.heap.size w w'):BxS w' b5 b8 new old:=⟨(hB.block _ (Array.getElem?_eq_some_iff.1 h.1).1).trans h.1,(hB.block _ (Array.getElem?_eq_some_iff.1 h.2).1).trans h.2⟩
theorem BxS.off {w:World} {b5 b8 g x e:Nat} {new old:ByteArray} {c:Array Value} {f:Nat×Nat} {v:Value} (h:BxS w b5 b8 new old) (hg:w.heap[g]?=some (.cells c e f)) (h1:e≠9):BxS (w.setCell ⟨g,x,none⟩ v) b5 b8 new old :=
 ⟨(setCell_off _ _ _ _ _ (blk_ty h.1 hg fun e'=>h1 e'.symm)).trans h.1,(setCell_off _ _ _ _ _ (blk_ty h.2 hg fun e'=>h1 e'.symm)).trans h.2⟩
theorem BxS.cells {w:World} {b5 b8:Nat} {new old:ByteArray} (h:BxS w b5 b8 new old):w.cell? ⟨b5,0,none⟩=some (.string new)∧w.cell? ⟨b8,0,none⟩=some (.string old):=⟨(Lib.cell_of_heap h.1 0).trans rfl,(Lib.cell_of_heap h.2 0).trans rfl⟩
structure RnL (W wx:World) (B q g cd n k ge ce:Nat) (D:Nat→Dm) (d':Dm) (ys:List EnL) (b5 b8:Nat) (new old:ByteArray) (G C:Nat→Nat):Prop where
 dr:DrA wx B q g cd n k ge ce (putD D k d') G C ys
 box:BxS wx b5 b8 new old
 bel:Lw B W wx
 size:W.heap.size≤wx.heap.size
theorem RnL.later {W wx w':World} {B q g cd n k ge ce:Nat} {D:Nat→Dm} {d':Dm} {ys:List EnL} {b5 b8:Nat} {new old:ByteArray} {G C:Nat→Nat} (h:RnL W wx B q g cd n k ge ce D d' ys b5 b8 new old G C) (hB:Below wx.heap.size wx w') (hW:B≤wx.heap.size):RnL W w' B q g cd n k ge ce D d' ys b5 b8 new old G C :=
 ⟨h.dr.later hB,h.box.later hB,h.bel.trans (Lw.of hW hB),Nat.le_trans h.size hB.size⟩
theorem putD_self (D:Nat→Dm) (k:Nat):putD D k (D k)=D:=by
 funext i
 unfold putD
 split
 ·rename_i e;rw [e]
 ·rfl
set_option maxHeartbeats 16000000 in
theorem rename_any (B q g cd n k ge ce:Nat) (D:Nat→Dm) (G C:Nat→Nat) (ys:List EnL) (i:Nat) (new:ByteArray) (w0 w:World) (hB0:w0.heap.size=B) (hE:TabE w0) (hBw:Below B w0 w) (hB:B≤w.heap.size) (hi:i<(D k).n) (hn:(D k).n≤12) (hfo:∀ j,j<(D k).n→((D k).mem j).formula.size=0∨(((D k).mem j).formula.size≤100∧prsE ((D k).mem j).formula=0)) (h:DrA w B q g cd n k ge ce D G C ys) :
  Calls Tryz.prog 46 #[.pointer (some ⟨q,0,none⟩),.int .i64 i,.string new] w (MPost w B q g cd n k ge ce D (renE (D k) i new) (renD (D k) i new) (lE ys)):=by
 obtain ⟨W,hW⟩:∃ W,w.alloc (.cells #[.string new] 9)=W:=⟨_,rfl⟩
 have hBW:Below w.heap.size w W:=by rw [←hW];go_grown
 have hWs:W.heap.size=w.heap.size+1:=by rw [←hW];simp
 have k5:W.heap[w.heap.size]?=some (.cells #[.string new] 9 (0,0)):=by rw [←hW];exact heap_alloc_new ..
 have hd:=h.later hBW
 have l5:W.cell? ⟨w.heap.size,0,none⟩=some (.string new):=(Lib.cell_of_heap k5 0).trans rfl
 have hBad:∀ (E:Int) w',renE (D k) i new=E→E≠0→Below W.heap.size W w'→MPost w B q g cd n k ge ce D (renE (D k) i new) (renD (D k) i new) (lE ys) (.returned (errV E)) w':=fun E w' h1 hE hb=>by
  rw [h1]
  exact MPost.bad hE hB (onB hBW hb)
 have hnm:=name_any new W
 by_cases hne:nameErr new=0
 case neg =>
  have hRE:renE (D k) i new=nameErr new:=if_pos hne
  have hF:=hid_of (fun w'=>hBad _ w' hRE hne)
  rw [errV_some hne] at hnm
  have HV:=hid_of (errV_some hne)
  generalize nameErr new=E at hnm hF HV
  clear hBad hd h k5 hne hRE hi hn hfo hE hBw hBW
  go_enter Tryz.func46,Tryz.ntmps46
  go_wp2_with fail
  refine hnm.mono ?_
  rintro e w1 ⟨rfl,hb1⟩
  have hG:=hid_of (hF.out w1 hb1)
  rw [HV.out] at hG
  clear hb1
  go_wp2_with fail
  go_ret
  exact hG.out
 rw [hne,errV_zero] at hnm
 have HNe:=hid_of hne
 have hBl:B≤W.heap.size:=by omega
 obtain ⟨old,hold⟩:∃ old,((D k).mem i).name=old:=⟨_,rfl⟩
 obtain ⟨gm,hgm⟩:∃ gm,G k=gm:=⟨_,rfl⟩
 obtain ⟨cm,hcm⟩:∃ cm,C k=cm:=⟨_,rfl⟩
 obtain ⟨dn,hdn⟩:∃ dn,(D k).n=dn:=⟨_,rfl⟩
 have hCl:Hid (∀ w1,Below W.heap.size W w1→w1.cell? ⟨w.heap.size,0,none⟩=some (.string new)∧w1.cell? ⟨q,0,none⟩=some (.pointer (some ⟨g,k*3,none⟩))∧w1.cell? ⟨g,k*3+2,none⟩=some (.slice (some ⟨gm,0,none⟩) dn cm)∧w1.cell? ⟨gm,i*4,none⟩=some (.string old)):=fun w1 hb=>by
  have h1:=hd.later hb
  refine ⟨(hb.cell (p:=⟨w.heap.size,0,none⟩) (by show w.heap.size<_;omega)).trans l5,h1.cells.1,?_,?_⟩
  ·rw [h1.dim.2.2.1,hgm,hdn,hcm]
  ·rw [←hgm,h1.row.cellAt (i*4) (by omega),←hold]
   exact (cellsMb_at (D k).mem (D k).n i hi).1
 have hgmc:dn≤cm:=by have:=(ow_blk hd.row).2.2.1;rw [hdn,hcm] at this;exact this
 have hcI:(dn:Int)≤(cm:Int):=by omega
 have hiI:(i:Int)<(dn:Int):=by omega
 have hnI:(dn:Int)≤12:=by omega
 have HAny:Hid (∀ w2 b5,Below W.heap.size W w2→b5=w.heap.size→Calls Tryz.prog 65 #[.pointer (some ⟨q,0,none⟩),.func (.func 72) #[] #[.pointer (some ⟨b5,0,none⟩)]] w2 fun e w'=>e=.returned (.bool (decide (0≤findFrom (fun j=>same ((D k).mem j).name new) (D k).n 0)))∧Below w2.heap.size w2 w'):=fun w2 b5 hb e5=>by
  subst e5
  exact anyM_any 72 w.heap.size rn1_in B q g cd n k ge ce D G C ys (fun m=>same m.name new) w2 hn (hd.later hb) fun j w' hj hb'=>rn1_any ((D k).mem j) _ new w' (by have:=hb.size;have:=hb'.size;omega) (((onB hb hb').cell (p:=⟨w.heap.size,0,none⟩) (by show w.heap.size<_;omega)).trans l5)
 have HGo:Hid (∀ w2 b8,Below W.heap.size W w2→w2.heap[b8]?=some (.cells #[.string old] 9 (0,0))→RnL W w2 B q g cd n k ge ce D (D k) ys w.heap.size b8 new old G C):=fun w2 b8 hb hb8=>⟨by rw [putD_self];exact hd.later hb,⟨(hb.block _ (by omega)).trans k5,hb8⟩,Lw.of hBl hb,hb.size⟩
 obtain ⟨tst,htst⟩:∃ tst,(!same new old && decide (0≤findFrom (fun j=>same ((D k).mem j).name new) (D k).n 0))=tst:=⟨_,rfl⟩
 have HRE:Hid (renE (D k) i new=if tst=true then 7 else 0):=by
  show _=_
  unfold renE
  rw [if_neg (by simpa using hne),hold,←htst]
  cases same new old <;> simp
 have HTst:=hid_of htst
 have hnms:new.size≤8:=by
  unfold nameErr at hne
  split at hne
  ·cases hne
  ·omega
 have HSc:Hid (∀ w',Calls Tryz.prog 41 #[.string new] w' fun e w''=>e=.returned (.string new)∧Below w'.heap.size w' w''):=fun w'=>sclone_any new w' (by omega)
 have HFo:=hid_of hfo
 have HHd:=hid_of hd
 have HBd:=hid_of hBad
 have HTab:Hid (∀ w',(∀ w0,Below B w0 W→Below B w0 w')→TabE w'):=fun w' hw=>hE.later (by have h:=hw w0 (hBw.trans (hBW.mono hB));rw [←hB0] at h;exact h)
 have HFin:Hid (∀ wx b8,RnL W wx B q g cd n k ge ce D (renD (D k) i new) ys w.heap.size b8 new old G C→tst=false→MPost w B q g cd n k ge ce D (renE (D k) i new) (renD (D k) i new) (lE ys) (.returned (errV 0)) wx):=fun wx b8 hr ht=>by
  rw [HRE.out,ht,if_neg (by decide)]
  exact ⟨rfl,fun _=>⟨G,C,ys,hr.dr,rfl⟩,(Lw.of hB hBW).trans hr.bel⟩
 have HDn:=hid_of hdn
 have HGm:=hid_of hgm
 have HCm:=hid_of hcm
 have HOl:=hid_of hold
 have hi12:i<dn:=by omega
 have hql:q<W.heap.size:=hd.lt
 have hgl:g<W.heap.size:=(ow_blk hd.own.dims).2.1
 clear hBad hd h k5 hne hi hn hfo hE hBw hBW htst hB0 hold hgm hcm hdn hnms
 go_enter Tryz.func46,Tryz.ntmps46
 go_wp2_with fail
 refine hnm.mono ?_
 rintro e w1 ⟨rfl,hb1⟩
 obtain ⟨p5,pq,pg,pm⟩:=hCl.out w1 hb1
 obtain ⟨w2,hw2⟩:∃ w2,w1.alloc (.cells #[.string old] 9)=w2:=⟨_,rfl⟩
 have hb2:Below w1.heap.size w1 w2:=by rw [←hw2];go_grown
 have hk8:w2.heap[w1.heap.size]?=some (.cells #[.string old] 9 (0,0)):=by rw [←hw2];exact heap_alloc_new ..
 have HB2:=hid_of (onB hb1 hb2)
 have HK8:=hid_of hk8
 have l8:w2.cell? ⟨w1.heap.size,0,none⟩=some (.string old):=(Lib.cell_of_heap hk8 0).trans rfl
 obtain ⟨r5,rq,rg,rm⟩:=hCl.out w2 HB2.out
 clear hb1 hb2 hk8 hnm
 go_upto_region 5 with fail
 clear hw2 p5 pq pg pm
 generalize w1.heap.size=b8 at HK8 l8
 go_cut [36] from 13 (fun s36 wx=>s36=.bool tst∧Hid (Below w2.heap.size w2 wx))
 case first =>
  cases hsm:same new old
  ·have hs:(new.toList == old.toList)=false:=hsm
   have hany:=HAny.out w2 w.heap.size HB2.out rfl
   have ht2:tst=decide (0≤findFrom (fun j=>same ((D k).mem j).name new) (D k).n 0):=by rw [←HTst.out,hsm];simp
   have HT2:=hid_of ht2
   generalize decide (0≤findFrom (fun j=>same ((D k).mem j).name new) (D k).n 0)=t2 at hany HT2
   clear hsm ht2
   go_wp2_with fail
   refine hany.mono ?_
   rintro e w3 ⟨rfl,hb3⟩
   have HB3:=hid_of hb3
   clear hb3
   cases t2
   ·go_wp2_with fail
    go_meet
    exact ⟨by rw [HT2.out],HB3⟩
   ·go_wp2_with fail
    go_meet
    exact ⟨by rw [HT2.out],HB3⟩
  ·have hs:(new.toList == old.toList)=true:=hsm
   have HT2:Hid (tst=false):=by show _=_;rw [←HTst.out,hsm];rfl
   clear hsm
   go_wp2_with fail
   go_meet
   exact ⟨by rw [HT2.out],hid_of (Below.refl _ _)⟩
 case rest =>
  obtain ⟨wx,rfl⟩:∃ wx:World,wx=wc:=⟨_,rfl⟩
  obtain ⟨rfl,HBx⟩:=hcut
  clear r5 rq rg rm l8
  cases ht:tst
  case true =>
   have hF:=hid_of (HBd.out 7 wx (by rw [HRE.out,if_pos ht]) (by decide) (onB HB2.out HBx.out))
   clear ht
   go_wp2_with fail
   go_ret
   exact hF.out
  have HT:=hid_of ht
  clear ht
  have hR0:=HGo.out wx b8 (onB HB2.out HBx.out) ((HBx.out.block _ (Array.getElem?_eq_some_iff.1 HK8.out).1).trans HK8.out)
  obtain ⟨r5,rq,rg,rm⟩:=hCl.out wx (onB HB2.out HBx.out)
  have hrow:=hR0.dr.row
  rw [putD_self,HGm.out,HCm.out,HDn.out] at hrow
  obtain ⟨-,hgml,-,-,cmm,hcmm⟩:=ow_blk hrow
  obtain ⟨-,hgl2,-,-,cdm,hcdm⟩:=ow_blk hR0.dr.own.dims
  have rf:=hrow.frozenAt (i*4)
  have HS:Hid (∀ w',wx.grownBy w' (some gm)→w'.cell? ⟨w.heap.size,0,none⟩=some (.string new)∧w'.cell? ⟨q,0,none⟩=some (.pointer (some ⟨g,k*3,none⟩))∧w'.cell? ⟨g,k*3+2,none⟩=some (.slice (some ⟨gm,0,none⟩) dn cm)):=fun w' hg=>⟨hg.cell r5 (fun e=>blk_ty hR0.box.1 hcmm (by decide) (Option.some.inj e)),hg.cell rq (fun e=>blk_ty hR0.dr.box hcmm (by decide) (Option.some.inj e)),hg.cell rg (fun e=>blk_ty hcdm hcmm (by decide) (Option.some.inj e))⟩
  have HSt:Hid (∀ w',Below wx.heap.size wx w'→w'.cell? ⟨gm,i*4,none⟩=some (.string old)∧w'.frozen? ⟨gm,i*4,none⟩=false):=fun w' hb=>⟨(hb.cell (p:=⟨gm,i*4,none⟩) hgml).trans rm,(hb.frozen (p:=⟨gm,i*4,none⟩) hgml).trans rf⟩
  have hBx2:B≤wx.heap.size:=by have:=hR0.size;omega
  have HEnd:Hid (∀ w',Below wx.heap.size wx w'→RnL W (w'.setCell ⟨gm,i*4,none⟩ (.string new)) B q g cd n k ge ce D ⟨(D k).name,(D k).solve,dn,rnTo (D k).mem i new 0⟩ ys w.heap.size b8 new old G C):=fun w' hb=>by
   have h1:=hR0.later hb hBx2
   obtain ⟨s1,s2⟩:=h1.dr.setM (x:=i*4) (v:=.string new) (M':=rnTo (D k).mem i new 0) (by
    rw [putD_self,←rnTo_zero]
    exact cellsMb_set (f:=0) (m:=⟨new,((D k).mem i).parent,((D k).mem i).sign,((D k).mem i).formula⟩) (by rw [HDn.out];exact hi12) (by omega) rfl fun f hf hne=>by
     have:f=1∨f=2∨f=3:=by omega
     rcases this with rfl | rfl | rfl <;> rfl)
   rw [putD_self,HGm.out,HDn.out] at s1
   rw [HGm.out] at s2
   exact ⟨s1,h1.box.off ((hb.block _ hgml).trans hcmm) (by decide),h1.bel.trans s2,by have:=h1.size;simpa using this⟩
  clear hR0 hrow hcmm hcdm rm rf
  go_upto_region 7 with fail
  go_region_held3 (fun w'=>wx.grownBy w' (some gm)∧w'.cell? ⟨w.heap.size,0,none⟩=some (.string new)∧w'.cell? ⟨q,0,none⟩=some (.pointer (some ⟨g,k*3,none⟩))∧w'.cell? ⟨g,k*3+2,none⟩=some (.slice (some ⟨gm,0,none⟩) dn cm))
   ((refine (fun hG=>⟨hG,HS.out _ hG⟩) ?_;(repeat (first | exact grown_refl _ _ | assumption | refine grown_drew ?_ | refine grown_set ?_ _ _));done))
   (first | (go_at_call 41;refine (HSc.out _).mono ?_;rintro e w4 ⟨rfl,hb4⟩;have hN4:=onB (W0:=wx) (by go_grown) hb4;have hG4:wx.grownBy w4 (some gm):=grown_below hN4;obtain ⟨z0,f0⟩:=HSt.out w4 hN4;have HB4:=hid_of hN4;clear hb4 hN4))
  have HR:=hid_of (HEnd.out w4 HB4.out)
  obtain ⟨wy,hwy⟩:∃ wy,w4.setCell ⟨gm,i*4,none⟩ (.string new)=wy:=⟨_,rfl⟩
  rw [hwy] at HR
  obtain ⟨y1,-,-,-⟩:=HR.out.dr.cells
  have y2:=HR.out.dr.dim.2.2.1
  rw [putD_at,HGm.out,HCm.out] at y2
  simp only at y2
  clear z0 f0 hG4 r5 rq rg HS HSt HEnd
  go_wp2_with fail
  clear hwy y1 y2
  go_loopg [58] dn (fun gg s58 wr => ∃ j:Nat,j≤dn∧gg=dn-j∧s58=.int .i64 j∧Hid (RnL W wr B q g cd n k ge ce D ⟨(D k).name,(D k).solve,dn,rnTo (D k).mem i new j⟩ ys w.heap.size b8 new old G C))
  case atStart=>exact ⟨0,Nat.zero_le _,rfl,rfl,HR⟩
  case round =>
   obtain ⟨j,hj,rfl,rfl,HJ⟩:=hrel
   by_cases hjl:j<dn
   ·have hji:(j:Int)<(dn:Int):=by omega
    have hdr:=HJ.out.dr
    have hrow:=hdr.row
    rw [putD_at,HGm.out,HCm.out] at hrow
    simp only at hrow
    obtain ⟨x0,x1,x2,x3⟩:=cellsMb_at (rnTo (D k).mem i new j) dn j hjl
    have e0:=(hrow.cellAt (j*4) (by omega)).trans x0
    have e1:=(hrow.cellAt (j*4+1) (by omega)).trans x1
    have e2:=(hrow.cellAt (j*4+2) (by omega)).trans x2
    have e3:=(hrow.cellAt (j*4+3) (by omega)).trans x3
    have hone:=rnTo_one (D k).mem i new j
    have hfm:(rnTo (D k).mem i new j j).formula=((D k).mem j).formula:=if_neg (Nat.lt_irrefl _)
    obtain ⟨-,hgml2,-,-,cmm,hcmm⟩:=ow_blk hrow
    obtain ⟨z,hz⟩:∃ z,wr.alloc (.cells #[.string (rnTo (D k).mem i new j j).name,.int .i64 (rnTo (D k).mem i new j j).parent,.int .i64 (rnTo (D k).mem i new j j).sign,.string (rnTo (D k).mem i new j j).formula] 43)=z:=⟨_,rfl⟩
    have hBz:Below wr.heap.size wr z:=by rw [←hz];go_grown
    have hzb:z.heap[wr.heap.size]?=some (.cells #[.string (rnTo (D k).mem i new j j).name,.int .i64 (rnTo (D k).mem i new j j).parent,.int .i64 (rnTo (D k).mem i new j j).sign,.string (rnTo (D k).mem i new j j).formula] 43 (0,0)):=by rw [←hz];exact heap_alloc_new ..
    have hJB:B≤wr.heap.size:=by have:=HJ.out.size;omega
    have hJz:=HJ.out.later hBz hJB
    have hzB:B≤z.heap.size:=by have:=hJz.size;omega
    have z3:z.cell? ⟨wr.heap.size,3,none⟩=some (.string (rnTo (D k).mem i new j j).formula):=(Lib.cell_of_heap hzb 3).trans rfl
    rw [hfm] at z3 hz e3
    have href:=refer_any ((D k).mem j).formula new old w.heap.size b8 z hJz.box.cells.1 hJz.box.cells.2 (HFo.out j (by rw [HDn.out];exact hjl)) HNe.out (HTab.out z hJz.bel.1)
    rw [errV_zero] at href
    have HAft:Hid (∀ w',Below z.heap.size z w'→w'.cell? ⟨q,0,none⟩=some (.pointer (some ⟨g,k*3,none⟩))∧w'.cell? ⟨g,k*3+2,none⟩=some (.slice (some ⟨gm,0,none⟩) dn cm)∧(∃ u,w'.cell? ⟨gm,j*4+3,none⟩=some u)∧w'.frozen? ⟨gm,j*4+3,none⟩=false∧RnL W (w'.setCell ⟨gm,j*4+3,none⟩ (.string (refT old new ((D k).mem j).formula))) B q g cd n k ge ce D ⟨(D k).name,(D k).solve,dn,rnTo (D k).mem i new (j+1)⟩ ys w.heap.size b8 new old G C):=fun w' hb=>by
     have h1:=hJz.later hb hzB
     have hr1:=own_later hrow (onB hBz hb)
     have d2:=h1.dr.dim.2.2.1
     rw [putD_at,HGm.out,HCm.out] at d2
     have hset:=cellsMb_set (M:=rnTo (D k).mem i new j) (n:=dn) (i:=j) (f:=3) (v:=.string (refT old new ((D k).mem j).formula)) (m:=⟨(rnTo (D k).mem i new j j).name,(rnTo (D k).mem i new j j).parent,(rnTo (D k).mem i new j j).sign,refT ((D k).mem i).name new ((D k).mem j).formula⟩) hjl (by omega) (by rw [HOl.out];rfl) fun f hf hne=>by
      have:f=0∨f=1∨f=2:=by omega
      rcases this with rfl | rfl | rfl <;> rfl
     rw [hone] at hset
     obtain ⟨s1,s2⟩:=h1.dr.setM (x:=j*4+3) (v:=.string (refT old new ((D k).mem j).formula)) (M':=rnTo (D k).mem i new (j+1)) (by rw [putD_at];exact hset)
     rw [putD_at,putD_twice,HGm.out] at s1
     rw [HGm.out] at s2
     have hc2:=((onB hBz hb).block _ hgml2).trans hcmm
     exact ⟨h1.dr.cells.1,d2,⟨_,(hr1.cellAt (j*4+3) (by omega)).trans x3⟩,hr1.frozenAt _,s1,h1.box.off hc2 (by decide),h1.bel.trans s2,by have:=h1.size;simpa using this⟩
    have hJI:(j:Int)≤12:=by omega
    generalize refT old new ((D k).mem j).formula=rt at href HAft
    generalize ((D k).mem j).formula=t4 at e3 hz z3 href
    generalize (rnTo (D k).mem i new j j).name=t1 at e0 hz
    generalize (rnTo (D k).mem i new j j).parent=t2 at e1 hz
    generalize (rnTo (D k).mem i new j j).sign=t3 at e2 hz
    clear hBz hzb x0 x1 x2 x3 hJz hrow hdr hcmm hone hfm
    go_wp2_with fail
    refine href.mono ?_
    rintro e w4 ⟨rfl,hb4⟩
    obtain ⟨a1,a2,⟨u,a3⟩,a4,a5⟩:=HAft.out w4 hb4
    have HA5:=hid_of a5
    clear hb4 href e0 e1 e2 e3 z3 hz a5
    go_wp2_with fail
    go_roundg (dn-(j+1))
    case measure=>omega
    case rel=>exact ⟨j+1,by omega,rfl,by go_num,HA5⟩
   ·have hje:j=dn:=by omega
    subst hje
    have hG:=hid_of (HFin.out wr b8 ⟨by
     have h1:=HJ.out.dr.cgM (M':=(renD (D k) i new).mem) fun x hx=>by
      unfold rnTo renD
      simp only [if_pos hx]
     rw [show renD (D k) i new=⟨(D k).name,(D k).solve,j,(renD (D k) i new).mem⟩ by unfold renD;rw [HDn.out]]
     exact h1,HJ.out.box,HJ.out.bel,HJ.out.size⟩ HT.out)
    go_wp2_with fail
    go_ret
    exact hG.out
structure Chg where
 what:Int
 dim:Int
 mb:Int
 name:ByteArray
 tgt:Int
 sign:Int
def chgV (c:Chg):Value:=.agg #[.int .i64 c.what,.int .i64 c.dim,.int .i64 c.mb,.string c.name,.int .i64 c.tgt,.int .i64 c.sign]
def newM (c:Chg):Mem:=⟨c.name,c.tgt,c.sign,⟨#[]⟩⟩
def cgE (d:Dm) (l:List En) (k:Nat) (c:Chg):Int :=
 if c.what=1 then addE d l k (newM c)
 else if c.mb<0∨(d.n:Int)≤c.mb then 1
 else if c.what=2 then remE d c.mb.toNat
 else if c.what=3 then renE d c.mb.toNat c.name
 else if c.what=4 then moveE d l k c.mb.toNat c.tgt
 else if c.what=5 then resE c.sign
 else 1
def cgD (d:Dm) (c:Chg):Dm :=
 if c.what=1 then addD d (newM c)
 else if c.what=2 then remD d c.mb.toNat
 else if c.what=3 then renD d c.mb.toNat c.name
 else if c.what=4 then movD d c.mb.toNat c.tgt
 else resD d c.mb.toNat c.sign
def cgL (l:List En) (k:Nat) (c:Chg):List En:=if c.what=2 then remL l k (c.mb.toNat:Int) else l
set_option maxHeartbeats 8000000 in
theorem change_any (B q g cd n k ge ce:Nat) (D:Nat→Dm) (G C:Nat→Nat) (ys:List EnL) (c:Chg) (w0 w:World) (hB0:w0.heap.size=B) (hE:TabE w0) (hBw:Below B w0 w) (hB:B≤w.heap.size) (hn:(D k).n≤12) (htr:Tr (D k).mem (D k).n) (hfo:∀ j,j<(D k).n→((D k).mem j).formula.size=0∨(((D k).mem j).formula.size≤100∧prsE ((D k).mem j).formula=0)) (hpl:∀ y∈ys,0≤y.e.pl.getD k 0∧y.e.pl.getD k 0≤12) (h:DrA w B q g cd n k ge ce D G C ys) :
  Calls Tryz.prog 25 #[.pointer (some ⟨q,0,none⟩),chgV c] w (MPost w B q g cd n k ge ce D (cgE (D k) (lE ys) k c) (cgD (D k) c) (cgL (lE ys) k c)):=by
 obtain ⟨W,hW⟩:∃ W,w.alloc (.cells #[.int .i64 c.what,.int .i64 c.dim,.int .i64 c.mb,.string c.name,.int .i64 c.tgt,.int .i64 c.sign] 27)=W:=⟨_,rfl⟩
 have hBW:Below w.heap.size w W:=by rw [←hW];go_grown
 have hWs:W.heap.size=w.heap.size+1:=by rw [←hW];simp
 have kb:W.heap[w.heap.size]?=some (.cells #[.int .i64 c.what,.int .i64 c.dim,.int .i64 c.mb,.string c.name,.int .i64 c.tgt,.int .i64 c.sign] 27 (0,0)):=by rw [←hW];exact heap_alloc_new ..
 have hd:=h.later hBW
 obtain ⟨c0,c1,c2,-⟩:=hd.cells
 obtain ⟨-,-,d2,-⟩:=hd.dim
 have x0:W.cell? ⟨w.heap.size,0,none⟩=some (.int .i64 c.what):=(Lib.cell_of_heap kb 0).trans rfl
 have x2:W.cell? ⟨w.heap.size,2,none⟩=some (.int .i64 c.mb):=(Lib.cell_of_heap kb 2).trans rfl
 have x3:W.cell? ⟨w.heap.size,3,none⟩=some (.string c.name):=(Lib.cell_of_heap kb 3).trans rfl
 have x4:W.cell? ⟨w.heap.size,4,none⟩=some (.int .i64 c.tgt):=(Lib.cell_of_heap kb 4).trans rfl
 have x5:W.cell? ⟨w.heap.size,5,none⟩=some (.int .i64 c.sign):=(Lib.cell_of_heap kb 5).trans rfl
 have hBl:B≤W.heap.size:=by omega
 have hBW0:=hBw.trans (hBW.mono hB)
 have hUp:∀ E d' l' e w',MPost W B q g cd n k ge ce D E d' l' e w'→MPost w B q g cd n k ge ce D E d' l' e w':=fun E d' l' e w' ⟨p1,p2,p3⟩=>⟨p1,p2,(Lw.of hB hBW).trans p3⟩
 have HUp:=hid_of hUp
 have hBad:MPost W B q g cd n k ge ce D 1 (cgD (D k) c) (cgL (lE ys) k c) (.returned (errV 1)) W:=MPost.bad (by decide) hBl (Below.refl _ W)
 obtain ⟨what,dim,mb,name,tgt,sign⟩:=c
 simp only at x0 x2 x3 x4 x5 hW
 by_cases h1:what=1
 ·subst h1
  have hcon:=cadd_any B q g cd n k ge ce D G C ys (newM ⟨1,dim,mb,name,tgt,sign⟩) W hBl hn hd
  change Calls _ _ _ _ (MPost _ _ _ _ _ _ _ _ _ _ (addE _ _ _ _) (addD _ _) _) at hcon
  have HF:Hid (cgE (D k) (lE ys) k ⟨1,dim,mb,name,tgt,sign⟩=addE (D k) (lE ys) k (newM ⟨1,dim,mb,name,tgt,sign⟩)):=if_pos rfl
  unfold memV newM at hcon
  clear h hd kb hBad hUp hpl hfo htr hBw hBW hE
  unfold chgV
  go_enter Tryz.func25,Tryz.ntmps25
  go_wp2_with fail
  refine hcon.mono ?_
  rintro e w1 ⟨rfl,hp⟩
  have HP:=hid_of hp
  clear hp hcon
  go_wp2_with fail
  go_ret
  rw [HF.out]
  exact HUp.out _ _ _ _ _ ⟨rfl,HP.out⟩
 have h1b:(what == 1)=false:=by simpa using h1
 have hS1:∀ d l k',cgE d l k' ⟨what,dim,mb,name,tgt,sign⟩=if mb<0∨(d.n:Int)≤mb then 1 else if what=2 then remE d mb.toNat else if what=3 then renE d mb.toNat name else if what=4 then moveE d l k' mb.toNat tgt else if what=5 then resE sign else 1:=fun d l k'=>if_neg h1
 by_cases hm:mb<0∨((D k).n:Int)≤mb
 ·have hE1:Hid (cgE (D k) (lE ys) k ⟨what,dim,mb,name,tgt,sign⟩=1):=by show _=_;rw [hS1,if_pos hm]
  have HBd:=hid_of hBad
  generalize (D k).n=m at d2 hm
  clear h hd kb hBad hUp hpl hfo htr hBw hBW hE hS1 h1 hn
  unfold chgV
  by_cases hm0:mb<0
  ·clear hm
   go_enter Tryz.func25,Tryz.ntmps25
   go_upto_region 3 with fail
   go_quiet (fail)
   have HQ:=hid_of (below_drewN (Below.refl W.heap.size W) nq)
   go_wp2_with fail
   go_ret
   rw [hE1.out]
   exact HUp.out _ _ _ _ _ (MPost.bad (by decide) hBl HQ.out)
  ·have hm1:0≤mb:=by omega
   have hm2:(m:Int)≤mb:=by omega
   clear hm hm0
   go_enter Tryz.func25,Tryz.ntmps25
   go_upto_region 3 with fail
   go_quiet (fail)
   have HQ:=hid_of (below_drewN (Below.refl W.heap.size W) nq)
   go_wp2_with fail
   go_ret
   rw [hE1.out]
   exact HUp.out _ _ _ _ _ (MPost.bad (by decide) hBl HQ.out)
 obtain ⟨i,rfl⟩:∃ i:Nat,mb=i:=⟨mb.toNat,by omega⟩
 have hi:i<(D k).n:=by omega
 have hm1:0≤(i:Int):=by omega
 have hm2:(i:Int)<((D k).n:Int):=by omega
 have hS2:∀ d l k',(d.n=(D k).n)→cgE d l k' ⟨what,dim,i,name,tgt,sign⟩=if what=2 then remE d i else if what=3 then renE d i name else if what=4 then moveE d l k' i tgt else if what=5 then resE sign else 1:=fun d l k' hdn=>by
  rw [hS1,if_neg (by rw [hdn];omega),Int.toNat_natCast]
 have hS3:=hS2 (D k) (lE ys) k rfl
 have hD3:cgD (D k) ⟨what,dim,i,name,tgt,sign⟩=if what=2 then remD (D k) i else if what=3 then renD (D k) i name else if what=4 then movD (D k) i tgt else resD (D k) i sign:=by
  unfold cgD
  rw [if_neg h1]
  simp only [Int.toNat_natCast]
 have hL3:cgL (lE ys) k ⟨what,dim,i,name,tgt,sign⟩=if what=2 then remL (lE ys) k (i:Int) else lE ys:=by
  unfold cgL
  simp only [Int.toNat_natCast]
 have HUp2:Hid (∀ w1 E d' l' e w',Below W.heap.size W w1→MPost w1 B q g cd n k ge ce D E d' l' e w'→MPost w B q g cd n k ge ce D E d' l' e w'):=fun w1 E d' l' e w' hb ⟨p1,p2,p3⟩=>⟨p1,p2,((Lw.of hB hBW).trans (Lw.of hBl hb)).trans p3⟩
 have HXs:Hid (∀ w1,Below W.heap.size W w1→w1.cell? ⟨w.heap.size,0,none⟩=some (.int .i64 what)∧w1.cell? ⟨w.heap.size,2,none⟩=some (.int .i64 (i:Int))∧w1.cell? ⟨w.heap.size,3,none⟩=some (.string name)∧w1.cell? ⟨w.heap.size,4,none⟩=some (.int .i64 tgt)∧w1.cell? ⟨w.heap.size,5,none⟩=some (.int .i64 sign)):=fun w1 hb=>by
  have hl:w.heap.size<W.heap.size:=by omega
  exact ⟨(hb.cell (p:=⟨w.heap.size,0,none⟩) hl).trans x0,(hb.cell (p:=⟨w.heap.size,2,none⟩) hl).trans x2,(hb.cell (p:=⟨w.heap.size,3,none⟩) hl).trans x3,(hb.cell (p:=⟨w.heap.size,4,none⟩) hl).trans x4,(hb.cell (p:=⟨w.heap.size,5,none⟩) hl).trans x5⟩
 by_cases h2:what=2
 ·subst h2
  have HCon:Hid (∀ w1,Below W.heap.size W w1→Calls Tryz.prog 45 #[.pointer (some ⟨q,0,none⟩),.int .i64 i] w1 (MPost w1 B q g cd n k ge ce D (remE (D k) i) (remD (D k) i) (remL (lE ys) k (i:Int)))):=fun w1 hb=>remove_any B q g cd n k ge ce D G C ys i w1 (Nat.le_trans hBl hb.size) hi hn htr hpl (hd.later hb)
  have HE3:Hid (cgE (D k) (lE ys) k ⟨2,dim,i,name,tgt,sign⟩=remE (D k) i∧cgD (D k) ⟨2,dim,i,name,tgt,sign⟩=remD (D k) i∧cgL (lE ys) k ⟨2,dim,i,name,tgt,sign⟩=remL (lE ys) k (i:Int)):=⟨by first | exact hS3 | (rw [hS3];rfl),by first | exact hD3 | (rw [hD3];rfl),by first | exact hL3 | (rw [hL3];rfl)⟩
  generalize (D k).n=m at d2 hm2
  clear h hd kb hBad hUp hpl hfo htr hBw hBW hE hS1 hS2 hS3 hD3 hL3 h1 hn hm hi hBW0 HUp hB0
  unfold chgV
  go_enter Tryz.func25,Tryz.ntmps25
  go_upto_region 3 with fail
  go_quiet (fail)
  have HQ:=hid_of (below_drewN (Below.refl W.heap.size W) nq)
  generalize W.drewN nq=wq at HQ
  obtain ⟨y0,y2,y3,y4,y5⟩:=HXs.out wq HQ.out
  have hcon:=HCon.out wq HQ.out
  clear x0 x2 x3 x4 x5 c0 c1 c2 d2
  go_wp2_with fail
  refine hcon.mono ?_
  rintro e w1 ⟨rfl,hp⟩
  have HP:=hid_of hp
  clear hp hcon
  go_wp2_with fail
  go_ret
  rw [HE3.out.1,HE3.out.2.1,HE3.out.2.2]
  exact HUp2.out wq _ _ _ _ _ HQ.out ⟨rfl,HP.out⟩
 have h2b:(what == 2)=false:=by simpa using h2
 rw [if_neg h2] at hS3
 rw [if_neg h2] at hD3 hL3
 by_cases h3:what=3
 ·subst h3
  have HCon:Hid (∀ w1,Below W.heap.size W w1→Calls Tryz.prog 46 #[.pointer (some ⟨q,0,none⟩),.int .i64 i,.string name] w1 (MPost w1 B q g cd n k ge ce D (renE (D k) i name) (renD (D k) i name) (lE ys))):=fun w1 hb=>rename_any B q g cd n k ge ce D G C ys i name w0 w1 hB0 hE (hBW0.trans (hb.mono hBl)) (Nat.le_trans hBl hb.size) hi hn hfo (hd.later hb)
  have HE3:Hid (cgE (D k) (lE ys) k ⟨3,dim,i,name,tgt,sign⟩=renE (D k) i name∧cgD (D k) ⟨3,dim,i,name,tgt,sign⟩=renD (D k) i name∧cgL (lE ys) k ⟨3,dim,i,name,tgt,sign⟩=lE ys):=⟨by first | exact hS3 | (rw [hS3];rfl),by first | exact hD3 | (rw [hD3];rfl),by first | exact hL3 | (rw [hL3];rfl)⟩
  generalize (D k).n=m at d2 hm2
  clear h hd kb hBad hUp hpl hfo htr hBw hBW hE hS1 hS2 hS3 hD3 hL3 h1 hn hm hi hBW0 HUp hB0
  unfold chgV
  go_enter Tryz.func25,Tryz.ntmps25
  go_upto_region 3 with fail
  go_quiet (fail)
  have HQ:=hid_of (below_drewN (Below.refl W.heap.size W) nq)
  generalize W.drewN nq=wq at HQ
  obtain ⟨y0,y2,y3,y4,y5⟩:=HXs.out wq HQ.out
  have hcon:=HCon.out wq HQ.out
  clear x0 x2 x3 x4 x5 c0 c1 c2 d2
  go_wp2_with fail
  refine hcon.mono ?_
  rintro e w1 ⟨rfl,hp⟩
  have HP:=hid_of hp
  clear hp hcon
  go_wp2_with fail
  go_ret
  rw [HE3.out.1,HE3.out.2.1,HE3.out.2.2]
  exact HUp2.out wq _ _ _ _ _ HQ.out ⟨rfl,HP.out⟩
 have h3b:(what == 3)=false:=by simpa using h3
 rw [if_neg h3] at hS3
 rw [if_neg h3] at hD3
 by_cases h4:what=4
 ·subst h4
  have HCon:Hid (∀ w1,Below W.heap.size W w1→Calls Tryz.prog 47 #[.pointer (some ⟨q,0,none⟩),.int .i64 i,.int .i64 tgt] w1 (MPost w1 B q g cd n k ge ce D (moveE (D k) (lE ys) k i tgt) (movD (D k) i tgt) (lE ys))):=fun w1 hb=>move_any B q g cd n k ge ce D G C ys i tgt w1 (Nat.le_trans hBl hb.size) hi hn (hd.later hb)
  have HE3:Hid (cgE (D k) (lE ys) k ⟨4,dim,i,name,tgt,sign⟩=moveE (D k) (lE ys) k i tgt∧cgD (D k) ⟨4,dim,i,name,tgt,sign⟩=movD (D k) i tgt∧cgL (lE ys) k ⟨4,dim,i,name,tgt,sign⟩=lE ys):=⟨by first | exact hS3 | (rw [hS3];rfl),by first | exact hD3 | (rw [hD3];rfl),by first | exact hL3 | (rw [hL3];rfl)⟩
  generalize (D k).n=m at d2 hm2
  clear h hd kb hBad hUp hpl hfo htr hBw hBW hE hS1 hS2 hS3 hD3 hL3 h1 hn hm hi hBW0 HUp hB0
  unfold chgV
  go_enter Tryz.func25,Tryz.ntmps25
  go_upto_region 3 with fail
  go_quiet (fail)
  have HQ:=hid_of (below_drewN (Below.refl W.heap.size W) nq)
  generalize W.drewN nq=wq at HQ
  obtain ⟨y0,y2,y3,y4,y5⟩:=HXs.out wq HQ.out
  have hcon:=HCon.out wq HQ.out
  clear x0 x2 x3 x4 x5 c0 c1 c2 d2
  go_wp2_with fail
  refine hcon.mono ?_
  rintro e w1 ⟨rfl,hp⟩
  have HP:=hid_of hp
  clear hp hcon
  go_wp2_with fail
  go_ret
  rw [HE3.out.1,HE3.out.2.1,HE3.out.2.2]
  exact HUp2.out wq _ _ _ _ _ HQ.out ⟨rfl,HP.out⟩
 have h4b:(what == 4)=false:=by simpa using h4
 rw [if_neg h4] at hS3
 rw [if_neg h4] at hD3
 by_cases h5:what=5
 ·subst h5
  have HCon:Hid (∀ w1,Below W.heap.size W w1→Calls Tryz.prog 48 #[.pointer (some ⟨q,0,none⟩),.int .i64 i,.int .i64 sign] w1 (MPost w1 B q g cd n k ge ce D (resE sign) (resD (D k) i sign) (lE ys))):=fun w1 hb=>resign_any B q g cd n k ge ce D G C ys i sign w1 (Nat.le_trans hBl hb.size) hi hn (hd.later hb)
  have HE3:Hid (cgE (D k) (lE ys) k ⟨5,dim,i,name,tgt,sign⟩=resE sign∧cgD (D k) ⟨5,dim,i,name,tgt,sign⟩=resD (D k) i sign∧cgL (lE ys) k ⟨5,dim,i,name,tgt,sign⟩=lE ys):=⟨by first | exact hS3 | (rw [hS3];rfl),by first | exact hD3 | (rw [hD3];rfl),by first | exact hL3 | (rw [hL3];rfl)⟩
  generalize (D k).n=m at d2 hm2
  clear h hd kb hBad hUp hpl hfo htr hBw hBW hE hS1 hS2 hS3 hD3 hL3 h1 hn hm hi hBW0 HUp hB0
  unfold chgV
  go_enter Tryz.func25,Tryz.ntmps25
  go_upto_region 3 with fail
  go_quiet (fail)
  have HQ:=hid_of (below_drewN (Below.refl W.heap.size W) nq)
  generalize W.drewN nq=wq at HQ
  obtain ⟨y0,y2,y3,y4,y5⟩:=HXs.out wq HQ.out
  have hcon:=HCon.out wq HQ.out
  clear x0 x2 x3 x4 x5 c0 c1 c2 d2
  go_wp2_with fail
  refine hcon.mono ?_
  rintro e w1 ⟨rfl,hp⟩
  have HP:=hid_of hp
  clear hp hcon
  go_wp2_with fail
  go_ret
  rw [HE3.out.1,HE3.out.2.1,HE3.out.2.2]
  exact HUp2.out wq _ _ _ _ _ HQ.out ⟨rfl,HP.out⟩
 have h5b:(what == 5)=false:=by simpa using h5
 rw [if_neg h5] at hS3
 have HE1:Hid (cgE (D k) (lE ys) k ⟨what,dim,i,name,tgt,sign⟩=1):=hS3
 generalize (D k).n=m at d2 hm2
 clear h hd kb hBad hUp hpl hfo htr hBw hBW hE hS1 hS2 hS3 hD3 hL3 h1 hn hm hi hBW0 HUp hB0 h2 h3 h4 h5
 unfold chgV
 go_enter Tryz.func25,Tryz.ntmps25
 go_upto_region 3 with fail
 go_quiet (fail)
 have HQ:=hid_of (below_drewN (Below.refl W.heap.size W) nq)
 generalize W.drewN nq=wq at HQ
 obtain ⟨y0,y2,y3,y4,y5⟩:=HXs.out wq HQ.out
 clear x0 x2 x3 x4 x5 c0 c1 c2 d2
 go_wp2_with fail
 go_ret
 rw [HE1.out]
 exact HUp2.out wq _ _ _ _ _ HQ.out (MPost.bad (by decide) (Nat.le_trans hBl HQ.out.size) (Below.refl _ _))
end Go.Proofs.YtfldgghobddgkaaGreatDoor
