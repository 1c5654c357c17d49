/-
  What the draft's method add answers, and what it leaves.
-/
import Derived.Test.YtglekooldbeklaaGreatDoorJGBB
namespace Go.Proofs.YtglekooldbeklaaGreatDoor
open Go.ChangeShapes Go.WideShapes Go.ChangeAt Go.RowKit Go.Lib
set_option maxRecDepth 100000
theorem putD_twice (D:Nat→Dm) (k:Nat) (d d':Dm):putD (putD D k d) k d'=putD D k d':=by
 funext i
 unfold putD
 by_cases e:i=k
 ·rw [if_pos e,if_pos e]
 ·rw [if_neg e,if_neg e,if_neg e]
theorem cellsMb_add (d:Dm) (m:Mem):cellsMb d.mem d.n ++ [.string m.name,.int .i64 m.parent,.int .i64 m.sign,.string m.formula]=cellsMb (addD d m).mem (d.n+1):=by
 rw [cellsMb]
 have e:(addD d m).mem d.n=m:=if_pos rfl
 rw [e]
 congr 1
 exact cellsMb_cgr _ fun i hi=>(if_neg (by omega):(if i=d.n then m else d.mem i)=d.mem i).symm
theorem own_mb {w:World} {B:Nat} {v:Value} {n:Nat} {xs:List Value} {s e:Nat} (h:w.ownsRow B e s v n xs) (hn:0<n):∃ g c,v=.slice (some ⟨g,0,none⟩) n c:=by
 rcases h.2 with ⟨rfl,h0⟩ | ⟨g,cap,cur,rfl,_⟩
 ·omega
 ·exact ⟨g,cap,rfl⟩
theorem list_set_same {xs:List Value} {j:Nat} {u:Value} (hu:xs[j]?=some u):xs.set j u=xs:=by
 refine List.ext_getElem? fun k=>?_
 rw [List.getElem?_set]
 split
 ·rename_i e;subst e;rw [hu];simp [(List.getElem?_eq_some_iff.1 hu).1]
 ·rfl
theorem nm_small {d d':Dm} {m:Mem} {dn:Nat} (h:addD d m=d') (hn:d.n=dn) (hE:(dimErr d').2=0):m.name.size≤281474976710656:=by
 have hm:=(dimErr_right hE).2.2.2 dn (by rw [←h];show dn<d.n+1;omega)
 have h1:d'.mem dn=m:=by rw [←h,←hn];exact if_pos rfl
 unfold memErr at hm
 split at hm
 ·cases hm
 ·rename_i h0
  rw [h1] at h0
  unfold nameErr at h0
  split at h0
  ·exact absurd h0 (by decide)
  ·omega
def AdR (W wx:World) (B q g cd n k ge ce:Nat) (D:Nat→Dm) (ys:List EnL) (m:Mem) (bx:Nat):Prop:=(∃ G' C',DrA wx B q g cd n k ge ce (putD D k (addD (D k) m)) G' C' ys∧bx≠G' k)∧wx.heap[bx]?=some (.cells #[.string m.name,.int .i64 m.parent,.int .i64 m.sign,.string m.formula] 29 (0,0))∧Lw B W wx∧W.heap.size≤wx.heap.size
def addE (d:Dm) (l:List En) (k:Nat) (m:Mem):Int:=if (dimErr (addD d m)).2≠0 then (dimErr (addD d m)).2 else if wrAt l k m.parent=true then 6 else 0
theorem keepAd {W w':World} {q g gm bx k:Nat} {u1 u2 u3:Value} (h:bx<W.heap.size∧q<W.heap.size∧g<W.heap.size∧bx≠gm∧q≠gm∧g≠gm∧W.cell? ⟨bx,0,none⟩=some u1∧W.cell? ⟨q,0,none⟩=some u2∧W.cell? ⟨g,k,none⟩=some u3) (hG:W.grownBy w' (some gm)):W.grownBy w' (some gm)∧w'.cell? ⟨bx,0,none⟩=some u1∧w'.cell? ⟨q,0,none⟩=some u2∧w'.cell? ⟨g,k,none⟩=some u3 :=
 ⟨hG,hG.cell h.2.2.2.2.2.2.1 (by simpa using h.2.2.2.1),hG.cell h.2.2.2.2.2.2.2.1 (by simpa using h.2.2.2.2.1),hG.cell h.2.2.2.2.2.2.2.2 (by simpa using h.2.2.2.2.2.1)⟩
set_option maxHeartbeats 8000000 in
theorem cadd_any (B q g cd n k ge ce:Nat) (D:Nat→Dm) (G C:Nat→Nat) (ys:List EnL) (m:Mem) (w:World) (hB:B≤w.heap.size) (hn:(D k).n≤12) (h:DrA w B q g cd n k ge ce D G C ys) :
  Calls Tryz.prog 36 #[.pointer (some ⟨q,0,none⟩),memV m] w (MPost w B q g cd n k ge ce D (addE (D k) (lE ys) k m) (addD (D k) m) (lE ys)):=by
 obtain ⟨i0,hi0,hz0,hz1,hz2⟩:=info_parts Tryz.infoMemH
 obtain ⟨W,hW⟩:∃ W,w.alloc (.cells #[.string m.name,.int .i64 m.parent,.int .i64 m.sign,.string m.formula] 29)=W:=⟨_,rfl⟩
 have hBW:Below w.heap.size w W:=by rw [←hW];go_grown
 have hWs:W.heap.size=w.heap.size+1:=by rw [←hW];simp
 have kb:W.heap[w.heap.size]?=some (.cells #[.string m.name,.int .i64 m.parent,.int .i64 m.sign,.string m.formula] 29 (0,0)):=by rw [←hW];exact heap_alloc_new ..
 have hd:=h.later hBW
 obtain ⟨c0,c1,c2,-⟩:=hd.cells
 obtain ⟨-,-,d2,dfz⟩:=hd.dim
 have x0:W.cell? ⟨w.heap.size,0,none⟩=some (.string m.name):=(Lib.cell_of_heap kb 0).trans rfl
 have x1:W.cell? ⟨w.heap.size,1,none⟩=some (.int .i64 m.parent):=(Lib.cell_of_heap kb 1).trans rfl
 have x2:W.cell? ⟨w.heap.size,2,none⟩=some (.int .i64 m.sign):=(Lib.cell_of_heap kb 2).trans rfl
 have x3:W.cell? ⟨w.heap.size,3,none⟩=some (.string m.formula):=(Lib.cell_of_heap kb 3).trans rfl
 have HD:=hid_of hd
 have HBW:=hid_of hBW
 have HO:=hid_of hd.row
 have HKB:=hid_of kb
 have hnI:((D k).n:Int)≤12:=by omega
 have HNN:Hid ((D k).n≤12):=hn
 have HCC:Hid (∀ w',Below W.heap.size W w'→w'.cell? ⟨g,k*3+2,none⟩=some (.slice (some ⟨G k,0,none⟩) (D k).n (C k))∧w'.frozen? ⟨g,k*3+2,none⟩=false):=fun w' hb=>⟨(hd.later hb).dim.2.2.1,(hd.later hb).dim.2.2.2 _⟩
 have HCQ:Hid (∀ w',Below W.heap.size W w'→w'.cell? ⟨q,0,none⟩=some (.pointer (some ⟨g,k*3,none⟩))):=fun w' hb=>(hd.later hb).cells.1
 have HNQ:Hid (some q≠(Value.slice (some ⟨G k,0,none⟩) (D k).n (C k)).ownBlock):=fun e=>by
  obtain ⟨-,-,-,-,cm,hcm⟩:=ow_blk hd.row
  exact blk_ty hd.box hcm (by decide) (Option.some.inj e)
 have HNE:Hid (some g≠(Value.slice (some ⟨G k,0,none⟩) (D k).n (C k)).ownBlock):=fun e=>by
  obtain ⟨-,-,-,-,cg,hcg⟩:=ow_blk hd.own.dims
  obtain ⟨-,-,-,-,cm,hcm⟩:=ow_blk hd.row
  exact blk_ty hcg hcm (by decide) (Option.some.inj e)
 have hql:q<W.heap.size:=hd.lt
 have hBl:B≤W.heap.size:=by omega
 have hgl:g<W.heap.size:=(ow_blk hd.own.dims).2.1
 have HPut:Hid (∀ gg cg w6,W.grownBy w6 (some (G k))→w6.ownsRow B 29 4 (.slice (some ⟨gg,0,none⟩) ((D k).n+1) cg) ((D k).n+1) (cellsMb (D k).mem (D k).n ++ [.string m.name,.int .i64 m.parent,.int .i64 m.sign,.string m.formula])→(gg=G k∨W.heap.size≤gg)→Hid (AdR W (w6.setCell ⟨g,k*3+2,none⟩ (.slice (some ⟨gg,0,none⟩) ((D k).n+1) cg)) B q g cd n k ge ce D ys m w.heap.size)):=fun gg cg w6 hg hr hgg=>by
  rw [cellsMb_add] at hr
  obtain ⟨r1,r2⟩:=hd.newM hBl hg hr hgg
  obtain ⟨-,-,-,-,cg',hcg⟩:=ow_blk hd.own.dims
  obtain ⟨-,-,-,-,cm,hcm⟩:=ow_blk hd.row
  have hbx:w.heap.size≠G k:=by
   have:=(ow_blk h.row).2.1
   omega
  have hbg:w.heap.size≠g:=by
   have:=(ow_blk h.own.dims).2.1
   omega
  refine ⟨⟨_,_,r1,?_⟩,?_,r2,by have:=hg.size;simpa using this⟩
  ·show w.heap.size≠if k=k then gg else G k
   rw [if_pos rfl]
   rcases hgg with e | e <;> omega
  exact (setCell_off _ _ _ _ _ hbg).trans ((hg.block _ (by omega) fun e=>hbx (Option.some.inj e)).trans kb)
 obtain ⟨XS,hXS⟩:∃ XS,cellsMb (D k).mem (D k).n=XS:=⟨_,rfl⟩
 have HXS:=hid_of hXS
 rw [hXS] at HO HPut
 have hns:(D k).n≤12:=hn
 obtain ⟨gk,hgk⟩:∃ gk,G k=gk:=⟨_,rfl⟩
 obtain ⟨ck,hck⟩:∃ ck,C k=ck:=⟨_,rfl⟩
 obtain ⟨dn,hdn⟩:∃ dn,(D k).n=dn:=⟨_,rfl⟩
 rw [hgk,hck,hdn] at d2 HO HCC HNE HNQ
 rw [hgk,hdn] at HPut
 rw [hdn] at hnI hns
 have HGK:=hid_of hgk
 have HCK:=hid_of hck
 have HDN:=hid_of hdn
 have HWs:=hid_of hWs
 clear h hd hBW kb hXS hgk hck hdn hn hWs
 unfold memV
 go_enter Tryz.func36,Tryz.ntmps36
 go_upto_region 1 with fail
 go_cut [] from 8 (fun wx=>Hid (AdR W wx B q g cd n k ge ce D ys m w.heap.size))
 case first =>
  go_region_law (first
   | (refine step_append_lies _ (by rfl) _ _ _ (by rfl) B 29 i0 _ 4 48 Tryz.underlying30 hi0 hz0 hz1 hz2 rfl (by omega) (.slice (some ⟨gk,0,none⟩) dn ck) dn XS (by rfl) (own_stays HO.out (by go_grown)) ⟨W.heap.size,0,none⟩ 1 1 [.string m.name,.int .i64 m.parent,.int .i64 m.sign,.string m.formula] (by rfl) (by rfl) (World.news_of_block (cs := #[.string m.name,.int .i64 m.parent,.int .i64 m.sign,.string m.formula]) (t:=29) (fr:=(0,0)) (heap_alloc_new _ _)) (by simp [Value.oneCell']) (by omega) (by unfold maxLen;omega) (by omega) (by simp;omega) (W.heap.size+1) (by simp) ?_;intro gg cg w6 hown6 hgrow hat hlt6;have y1:=(hgrow.cell_far ⟨g,k*3+2,none⟩ (by simp;omega) HNE.out).trans (HCC.out _ (by go_grown)).1;have y2:=(hgrow.frozen_far ⟨g,k*3+2,none⟩ (by simp;omega) HNE.out).trans (HCC.out _ (by go_grown)).2;have y3:=(hgrow.cell_far ⟨q,0,none⟩ (by simp;omega) HNQ.out).trans (HCQ.out _ (by go_grown))))
  all_goals (have HG6:=HPut.out gg cg w6 (grown_trans (grown_below (by go_grown)) hgrow) hown6 (hat.imp (fun e=>(Option.some.inj e).symm) (fun e=>by omega)))
  all_goals clear hown6 hgrow hat hlt6 y1 y2 y3
  all_goals (go_wp2_with fail;go_meet;exact HG6)
 case rest =>
  obtain ⟨wx,rfl⟩:∃ wx:World,wx=wc:=⟨_,rfl⟩
  obtain ⟨⟨G',C',hdx,hbG⟩,hbx,hlow,hsz⟩:=hcut.out
  have e1:putD D k (addD (D k) m) k=addD (D k) m:=putD_at ..
  obtain ⟨c0,c1,c2,-⟩:=hdx.cells
  obtain ⟨d0,d1,d2,-⟩:=hdx.dim
  rw [e1] at d0 d1 d2
  have hMV:MemsV wx (some ⟨G' k,0,none⟩) (C' k) (addD (D k) m).n (addD (D k) m).mem:=by
   have hr:=hdx.row
   rw [e1] at hr
   obtain ⟨A1,c1',e2,h2⟩:=memT_own hr
   cases e2
   exact h2.toV
  have hck:=dcheck_any (addD (D k) m) (some ⟨G' k,0,none⟩) (C' k) wx hMV
  unfold dimV at hck
  have HX:=hid_of hdx
  have hbs:w.heap.size<wx.heap.size:=(Array.getElem?_eq_some_iff.1 hbx).1
  have HBox:Hid (∀ w',Below wx.heap.size wx w'→w'.cell? ⟨w.heap.size,0,none⟩=some (.string m.name)∧w'.cell? ⟨w.heap.size,1,none⟩=some (.int .i64 m.parent)):=fun w' hb=>by
   have h1:=(hb.block _ hbs).trans hbx
   exact ⟨(Lib.cell_of_heap h1 0).trans rfl,(Lib.cell_of_heap h1 1).trans rfl⟩
  have HLow:=hid_of hlow
  have hn1:(addD (D k) m).n=dn+1:=by show (D k).n+1=_;rw [HDN.out]
  have HCE:Hid ((addD (D k) m).name=(D k).name):=rfl
  obtain ⟨d',hd'⟩:∃ d',addD (D k) m=d':=⟨_,rfl⟩
  have HD':=hid_of hd'
  rw [hd'] at hck d0 d1 d2 hn1 e1
  have HBad:Hid (∀ E w',addE (D k) (lE ys) k m=E→E≠0→Below wx.heap.size wx w'→MPost w B q g cd n k ge ce D (addE (D k) (lE ys) k m) (addD (D k) m) (lE ys) (.returned (errV E)) w'):=fun E w' h1 hE hb=>by
   rw [h1]
   exact ⟨rfl,fun h=>absurd h hE,((Lw.of hB HBW.out).trans HLow.out).trans (Lw.of (by omega) hb)⟩
  have hE0:addE (D k) (lE ys) k m=if (dimErr d').2≠0 then (dimErr d').2 else if wrAt (lE ys) k m.parent=true then 6 else 0:=by unfold addE;rw [hd']
  obtain ⟨s1,s2,n',mm⟩:=d'
  simp only at d0 d1 d2 hn1 hck
  subst hn1
  generalize (dimErr ⟨s1,s2,dn+1,mm⟩).1=z at hck
  by_cases hE:(dimErr ⟨s1,s2,dn+1,mm⟩).2=0
  ·rw [if_neg (by simpa using hE)] at hE0
   rw [hE,errV_zero] at hck
   have HE0:=hid_of hE0
   have hwr:∀ w',Below wx.heap.size wx w'→_:=fun w' hb=>written_any B q g cd n k ge ce _ G' C' ys m.parent w' (HX.out.later hb)
   have HWr:=hid_of hwr
   have HNs:Hid (m.name.size≤281474976710656):=nm_small HD'.out HDN.out hE
   have hwl:IntKind.i64.wrap ((dn:Int)+1-1)=(dn:Int):=by rw [show (dn:Int)+1-1=dn by omega];exact IntWalk.i64_in _ (by omega)
   clear hdx hcut hbx hlow hMV hwr hE0 hE hd'
   go_wp2_with fail
   refine hck.mono ?_
   rintro e w2 ⟨rfl,hb2⟩
   have HB2:=hid_of hb2
   obtain ⟨b0,b1⟩:=HBox.out w2 hb2
   have hwr:=HWr.out w2 hb2
   clear hb2 hck c0 c1 c2 d0 d1 d2
   cases hw4:wrAt (lE ys) k m.parent
   case true =>
    rw [hw4] at hwr
    have HE6:Hid (addE (D k) (lE ys) k m=6):=by show _=_;rw [HE0.out,if_pos hw4]
    clear hw4
    go_wp2_with fail
    refine hwr.mono ?_
    rintro e w3 ⟨rfl,hb3⟩
    have HF:=hid_of (HBad.out 6 w3 HE6.out (by decide) (onB HB2.out hb3))
    clear hb3
    go_wp2_with fail
    go_ret
    exact HF.out
   rw [hw4] at hwr
   have HE6:Hid (addE (D k) (lE ys) k m=0):=by show _=_;rw [HE0.out,if_neg (by rw [hw4];decide)]
   clear hw4
   go_wp2_with fail
   refine hwr.mono ?_
   rintro e w3 ⟨rfl,hb3⟩
   have hB3:=onB HB2.out hb3
   have h3:=HX.out.later hB3
   rw [HD'.out] at h3
   have HB3:=hid_of hB3
   obtain ⟨b0',b1'⟩:=HBox.out w3 hB3
   have hql3:q<w3.heap.size:=h3.lt
   have hgl3:g<w3.heap.size:=(ow_blk h3.own.dims).2.1
   obtain ⟨-,-,-,-,cdm,hcdm⟩:=ow_blk h3.own.dims
   obtain ⟨-,hgml,hgmc,-,cmm,hcmm⟩:=ow_blk h3.row
   have hbs3:w.heap.size<w3.heap.size:=Nat.lt_of_lt_of_le hbs hB3.size
   have k0:=h3.cells.1
   have k2:=h3.dim.2.2.1
   have hrow3:=h3.row
   rw [e1] at k2 hgmc hrow3
   simp only at k2 hgmc hrow3
   have HSt:Hid (w.heap.size<w3.heap.size∧q<w3.heap.size∧g<w3.heap.size∧w.heap.size≠G' k∧q≠G' k∧g≠G' k∧w3.cell? ⟨w.heap.size,0,none⟩=some (.string m.name)∧w3.cell? ⟨q,0,none⟩=some (.pointer (some ⟨g,k*3,none⟩))∧w3.cell? ⟨g,k*3+2,none⟩=some (.slice (some ⟨G' k,0,none⟩) (dn+1) (C' k))):=⟨hbs3,hql3,hgl3,hbG,blk_ty h3.box hcmm (by decide),blk_ty hcdm hcmm (by decide),b0',k0,k2⟩
   have hx0:=(cellsMb_at mm (dn+1) dn (by omega)).1
   have hmn:(mm dn).name=m.name:=by
    have h1:(addD (D k) m).mem (D k).n=m:=if_pos rfl
    rw [HD'.out,HDN.out] at h1
    exact congrArg Mem.name h1
   rw [hmn] at hx0
   have HDs:Hid (∀ w4,Below w3.heap.size w3 w4→w4.cell? ⟨G' k,dn*4,none⟩=some (.string m.name)∧w4.frozen? ⟨G' k,dn*4,none⟩=false):=fun w4 hb4=>by
    have h4:=own_later hrow3 hb4
    exact ⟨(h4.cellAt (dn*4) (by omega)).trans hx0,h4.frozenAt _⟩
   have HEnd:Hid (∀ w4,Below w3.heap.size w3 w4→MPost w B q g cd n k ge ce D (addE (D k) (lE ys) k m) (addD (D k) m) (lE ys) (.returned (errV 0)) (w4.setCell ⟨G' k,dn*4,none⟩ (.string m.name))):=fun w4 hb4=>by
    have h4:=h3.later hb4
    obtain ⟨r1,r2⟩:=h4.setM (x:=dn*4) (v:=.string m.name) (M':=mm) (by
     rw [e1]
     exact list_set_same hx0)
    rw [HE6.out]
    refine ⟨rfl,fun _=>⟨G',C',ys,?_,rfl⟩,(((Lw.of hB HBW.out).trans HLow.out).trans (Lw.of (by omega) (onB HB3.out hb4))).trans r2⟩
    rw [HD'.out]
    rw [putD_twice,e1] at r1
    exact r1
   have HSc:Hid (∀ w',Calls Tryz.prog 33 #[.string m.name] w' fun e w''=>e=.returned (.string m.name)∧Below w'.heap.size w' w''):=fun w'=>sclone_any _ w' HNs.out
   have hgcI:(dn:Int)+1≤(C' k:Int):=by omega
   have hdl:(dn:Int)<(dn:Int)+1:=by omega
   have hwB:=hid_of hbs3
   clear hwr hB3 h3 hb3 hrow3 hx0 hcmm hcdm hmn HCC HNE HNQ HPut HO HX HWr HBad HCQ
   generalize G' k=gm at k2 HSt HDs HEnd hbG hgml
   generalize C' k=cm' at k2 HSt hgcI hgmc
   generalize w.heap.size=bx at b0' b1' HSt hbs3 hbG
   go_wp2_with fail
   go_region_held3 (fun w'=>w3.grownBy w' (some gm)∧w'.cell? ⟨bx,0,none⟩=some (.string m.name)∧w'.cell? ⟨q,0,none⟩=some (.pointer (some ⟨g,k*3,none⟩))∧w'.cell? ⟨g,k*3+2,none⟩=some (.slice (some ⟨gm,0,none⟩) (dn+1) cm'))
    ((refine keepAd HSt.out ?_;(repeat (first | exact grown_refl _ _ | assumption | refine grown_drew ?_ | refine grown_set ?_ _ _));done))
    (first | (go_at_call 33;refine (HSc.out _).mono ?_;rintro e w4 ⟨rfl,hb4⟩;have hN4:=onB (W0:=w3) (by go_grown) hb4;have hG4:w3.grownBy w4 (some gm):=grown_below hN4;obtain ⟨z0,f0⟩:=HDs.out w4 hN4;have HB4:=hid_of hN4;have hs4:=hN4.size;clear hb4 hN4))
   all_goals (have HF:=hid_of (HEnd.out w4 HB4.out))
   all_goals clear z0 f0 hG4
   all_goals go_wp2_with fail
   all_goals go_ret
   all_goals exact HF.out
  ·rw [if_pos (by simpa using hE)] at hE0
   have hV:=errV_some hE
   have HF:=hid_of (fun w'=>HBad.out _ w' hE0 hE)
   generalize (dimErr ⟨s1,s2,dn+1,mm⟩).2=E at hck HF hV
   clear hdx hcut hbx hlow hMV hE0 hE hd'
   rw [hV] at hck
   go_wp2_with fail
   refine hck.mono ?_
   rintro e w2 ⟨rfl,hb2⟩
   have HG:=hid_of (HF.out w2 hb2)
   clear hb2
   go_wp2_with fail
   go_ret
   have hG:=HG.out
   rw [hV] at hG
   exact hG
end Go.Proofs.YtglekooldbeklaaGreatDoor
