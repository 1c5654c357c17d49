/-
  How members count in a place's members, dim by dim, laid out: what weights of package roll answers, called in whatever memory.
-/
import Derived.Test.YtfgegmpoejilnaaGreatDoorJGBL
namespace Go.Proofs.YtfgegmpoejilnaaGreatDoor
open Go.ChangeShapes Go.WideShapes Go.ChangeAt Go.RowKit
set_option maxRecDepth 20000
theorem SlB.row {w w':World} {g n k l c:Nat} {A:Option Addr} {L:Nat→List Int} (h:SlB w g n k L) (hk:k<n) (hb:∀ i,i<w.heap.size→i≠g→w'.heap[i]?=w.heap[i]?) (hg:w'.heap[g]?=(w.setCell ⟨g,k,none⟩ (.slice A l c)).heap[g]?) (hz:w.heap.size≤w'.heap.size) (hl:l=(L k).length) (hI:IntsAt w' A c (L k)):SlB w' g n (k+1) L:=by
 obtain ⟨cur,h1,h2,h3⟩:=h
 have hs:∀ x y,cur[0]?=some (.int x y)→False:=fun x y e=>by
  obtain ⟨A,l,c,h4,-⟩:=h3 0 (by omega)
  rw [h4] at e
  cases e
 refine ⟨cur.setIfInBounds k (.slice A l c),by rw [hg];simp [World.setCell,Array.getElem?_modify,h1],by simpa using h2,fun j hj=>?_⟩
 by_cases e:j=k
 ·subst e
  exact ⟨A,_,c,by simp [h2,hj],fun _=>⟨hl,hI⟩⟩
 ·obtain ⟨A',l',c',h4,h5⟩:=h3 j hj
  refine ⟨A',l',c',?_,fun hjk=>⟨(h5 (by omega)).1,(h5 (by omega)).2.off h1 hs hb hz⟩⟩
  rw [Array.getElem?_setIfInBounds_ne (fun h=>e h.symm)]
  exact h4
theorem SlB.off {w w':World} {g n k c:Nat} {A:Option Addr} {L:Nat→List Int} {X:List Int} (h:SlB w g n k L) (hn:0<n) (hI:IntsAt w A c X) (hb:∀ i,i<w.heap.size→i≠g→w'.heap[i]?=w.heap[i]?) (hz:w.heap.size≤w'.heap.size):IntsAt w' A c X:=by
 obtain ⟨cur,h1,h2,h3⟩:=h
 refine hI.off h1 (fun x y e=>?_) hb hz
 obtain ⟨A,l,c,h4,-⟩:=h3 0 hn
 rw [h4] at e
 cases e
theorem setCell_same {w w':World} {g k:Nat} {v:Value} (h:w.heap[g]?=w'.heap[g]?):(w.setCell ⟨g,k,none⟩ v).heap[g]?=(w'.setCell ⟨g,k,none⟩ v).heap[g]?:=by
 simp [World.setCell,Array.getElem?_modify,h]
def InnW (W wi:World) (g k:Nat) (v:Value):Prop:=(∀ i,i<W.heap.size→i≠g→wi.heap[i]?=W.heap[i]?)∧wi.heap[g]?=(W.setCell ⟨g,k,none⟩ v).heap[g]?∧W.heap.size≤wi.heap.size
section
variable {W wi w':World} {g k:Nat} {v:Value}
theorem InnW.start (o:Obj) (hg:g<W.heap.size):InnW W ((W.setCell ⟨g,k,none⟩ v).alloc o) g k v:=by
 have hz:(W.setCell ⟨g,k,none⟩ v).heap.size=W.heap.size:=by simp [World.setCell]
 refine ⟨fun i hi hne=>?_,?_,?_⟩
 ·rw [Below.heap_alloc _ _ _ (by rw [hz];exact hi),Below.heap_setCell _ ⟨g,k,none⟩ v i hne]
 ·rw [Below.heap_alloc _ _ _ (by rw [hz];exact hg)]
 ·simp [World.setCell]
theorem InnW.later (h:InnW W wi g k v) (hg:g<W.heap.size) (hB:Below wi.heap.size wi w'):InnW W w' g k v :=
 ⟨fun i hi hne=>(hB.block i (Nat.lt_of_lt_of_le hi h.2.2)).trans (h.1 i hi hne),(hB.block g (Nat.lt_of_lt_of_le hg h.2.2)).trans h.2.1,Nat.le_trans h.2.2 hB.size⟩
theorem InnW.store (h:InnW W wi g k v) (hg:g<W.heap.size) {q:Nat} (hq:W.heap.size≤q) (j:Nat) (x:Value):InnW W (wi.setCell ⟨q,j,none⟩ x) g k v :=
 ⟨fun i hi hne=>(Below.heap_setCell _ ⟨q,j,none⟩ x i (by show i≠q;omega)).trans (h.1 i hi hne),(Below.heap_setCell _ ⟨q,j,none⟩ x g (by show g≠q;omega)).trans h.2.1,by have:=h.2.2;simpa [World.setCell] using this⟩
theorem InnW.cell (h:InnW W wi g k v) {b o:Nat} (hb:b<W.heap.size) (hne:b≠g):wi.cell? ⟨b,o,none⟩=W.cell? ⟨b,o,none⟩:=World.cell?_of_block (a:=⟨b,o,none⟩) (h.1 b hb hne)
theorem InnW.at (h:InnW W wi g k v) {u:Value} (hu:W.cell? ⟨g,k,none⟩=some u):wi.cell? ⟨g,k,none⟩=some v:=by
 rw [World.cell?_of_block (a:=⟨g,k,none⟩) h.2.1]
 exact World.cell?_setCell_same _ _ _ hu
end
set_option maxHeartbeats 4000000 in
theorem rws_any (A0:Option Addr) (cap n:Nat) (D:Nat→Dm) (A:Nat→Option Addr) (C:Nat→Nat) (Ap:Option Addr) (cp:Nat) (p:List Int) (w:World) (hp:InO D n p) (hM:DimsV w A0 cap n D A C) (hP:PlAt w Ap cp p):Calls Tryz.prog 35 #[.agg #[.slice A0 n cap],.slice Ap p.length cp] w fun e w'=>(∃ g,e=.returned (.tuple #[.slice (some ⟨g,0,none⟩) n n,.nilIface])∧SlB w' g n n (wts D p))∧Below w.heap.size w w':=by
 have hB0:=ownOut_below w A0 n cap 24
 have h:=rls_any A0 cap n D A C Ap cp p (ownOut w A0 n cap 24) hp (hM.later hB0) (hP.later hB0)
 have HB0:Hid (Below w.heap.size w (ownOut w A0 n cap 24)):=hB0
 have HM:Hid (DimsV w A0 cap n D A C):=hM
 have HI:Hid (InO D n p):=hp
 obtain ⟨hn1,hn4,-,hd⟩:=allErr_some hp.right
 have HD:Hid (∀ i,i<n→(dimErr (D i)).2=0):=(allErr_right hp.right).2
 have HD2:Hid (∀ i,i<n→1≤(D i).n∧(D i).n≤12):=hd
 have hl:=hp.len
 obtain ⟨hcp,h0 | ⟨bp,op,rfl,hbp,hcell⟩⟩:=hP
 ·rw [h0] at hl;simp at hl;omega
 rw [hl] at h hcp
 rw [hl]
 have HC:Hid (∀ j,j<n→w.cell? ⟨bp,op+j,none⟩=some (.int .i64 (p.getD j 0))):=fun j hj=>hcell j (by omega)
 have hn':(n:Int)≤4:=by omega
 have hmk:=run_make_row' (P:=Tryz.prog) 85 38 (.slice none 0 0) 24 Tryz.underlying85 Tryz.infoSl rfl .i64 .i64 n (by omega) (by omega)
 clear hB0 hM hp hl hcell hd
 go_enter Tryz.func35,Tryz.ntmps35
 go_wp2_with fail
 refine h.mono ?_
 rintro e w1 ⟨⟨gb,rfl,hS⟩,hb1⟩
 have hB:Below w.heap.size w w1:=onB HB0.out hb1
 have hz:w.heap.size<w1.heap.size:=by have:=hb1.size;rw [ownOut_size] at this;omega
 have h2:w1.cell? ⟨w.heap.size,0,none⟩=some (.slice A0 n cap):=(hb1.cell (p:=⟨w.heap.size,0,none⟩) (by show w.heap.size<_;rw [ownOut_size];omega)).trans (ownOut_at ..)
 obtain ⟨hcap,h0 | ⟨b,o,rfl,hMs⟩⟩:=HM.out.later hB
 ·omega
 have HMs:Hid (DimsAt w1 b o n D A C):=hMs
 have HB:Hid (Below w.heap.size w w1):=hB
 have HS1:Hid (SlB w1 gb n n (lfs D p)):=hS
 have HC1:Hid (∀ j,j<n→w1.cell? ⟨bp,op+j,none⟩=some (.int .i64 (p.getD j 0))):=fun j hj=>(hB.cell (p:=⟨bp,op+j,none⟩) hbp).trans (HC.out j hj)
 have hbp1:bp<w1.heap.size:=Nat.lt_of_lt_of_le hbp hB.size
 clear hb1 h hMs hB hS
 go_wp2_with fail
 clear hmk
 go_loopg [31] n (fun g s31 wr => ∃ (k:Nat),k≤n∧g=n-k∧s31=.int .i64 k∧SlB wr w1.heap.size n k (wts D p)∧Below w1.heap.size w1 wr)
 case atStart=>exact ⟨0,Nat.zero_le _,rfl,rfl,SlB.made w1 n _,by go_grown⟩
 case round =>
  obtain ⟨wo,rfl⟩:∃ w2:World,w2=wr:=⟨_,rfl⟩
  obtain ⟨k,hk,rfl,rfl,hS,hBw⟩:=hrel
  have HBw:Hid (Below w1.heap.size w1 wo):=hBw
  have HS:Hid (SlB wo w1.heap.size n k (wts D p)):=hS
  by_cases hlt:k<n
  ·have hki:(k:Int)<(n:Int):=by omega
   obtain ⟨d0,d1,d2,h4⟩:=(HMs.out.later hBw).2 k hlt
   have hdk:=HD.out k hlt
   obtain ⟨hdn1,hdn2⟩:=HD2.out k hlt
   have e1:=(hBw.cell (p:=⟨bp,op+k,none⟩) hbp1).trans (HC1.out k hlt)
   have hbq:bp<wo.heap.size:=Nat.lt_of_lt_of_le hbp1 hBw.size
   have hlo:=HI.out.lo k hlt
   have hhi:=HI.out.hi k hlt
   obtain ⟨x,hx⟩:∃ x:Nat,p.getD k 0=x:=⟨(p.getD k 0).toNat,by omega⟩
   have HWt:Hid (∀ j∈lfs D p k,∀ w',Below w1.heap.size w1 w'→Calls Tryz.prog 65 #[dimV (D k) (A k) (C k),.int .i64 x,.int .i64 j] w' fun e w''=>e=.returned (.tuple #[.int .i64 (weightOf (D k).mem x j),.nilIface])∧Below w'.heap.size w' w''):=fun j hj w' hw'=>by
    obtain ⟨m,rfl,hm,hlf⟩:=lfs_mem j hj
    have ht:=tweight_any (D k) (A k) (C k) x m w' ((HMs.out.later hw').2 k hlt).2.2.2
    have he:wErr (D k) x m=0:=wErr_ok (by rw [treeErr_two hdk,if_neg (by omega)]) (by unfold leafIn at hlf;rw [Bool.and_eq_true] at hlf;simpa using hlf.1)
    rw [he,errV_zero,wVal_ok he] at ht
    exact ht
   have HLm:Hid (∀ j∈lfs D p k,∃ m:Nat,j=m∧m<(D k).n):=fun j hj=>by
    obtain ⟨m,h1,h2,-⟩:=lfs_mem j hj
    exact ⟨m,h1,h2⟩
   have hLl:(lfs D p k).length≤12:=Nat.le_trans (lfs_len D p k) hdn2
   obtain ⟨AL,cL,hcL,hIL⟩:=(HS1.out.later hBw).get hlt
   have hgbw:gb<wo.heap.size:=(HS1.out.later hBw).lt
   have HIL:Hid (IntsAt wo AL cL (lfs D p k)):=hIL
   have HWT:Hid (wts D p k=cnts (D k) x (lfs D p k)):=by show _=_;unfold wts;rw [hx]
   have HCL:Hid (∀ X,(cnts (D k) x X).length=(D k).n):=fun X=>cnts_len ..
   have HCN:Hid (cnts (D k) x []=List.replicate (D k).n 0):=cnts_nil ..
   have HCS:Hid (∀ X (j:Nat),(cnts (D k) x X).set j (weightOf (D k).mem x j)=cnts (D k) x (X ++ [(j:Int)])):=fun X j=>cnts_set
   have hmk:=run_make_row' (P:=Tryz.prog) 38 3 (.int .i64 0) 8 Tryz.underlying38 Tryz.infoIntP rfl .i64 .i64 (D k).n (by omega) (by omega)
   unfold dimV at HWt
   have hBx:Below wo.heap.size wo (ownDim wo (D k) (A k) (C k) 30):=ownDim_below ..
   have hFo:Four (ownDim wo (D k) (A k) (C k) 30) wo.heap.size bp (op+k) (.string (D k).name) (.int .i64 (D k).solve) (.slice (A k) (D k).n (C k)) (.int .i64 x):=by
    obtain ⟨x0,x1,x2⟩:=ownDim_at wo (D k) (A k) (C k) 30
    exact ⟨⟨by rw [ownDim_size];omega,Nat.lt_of_lt_of_le hbq hBx.size⟩,x0,x1,x2,(hBx.cell (p:=⟨bp,op+k,none⟩) hbq).trans (by rw [e1,hx])⟩
   have hzx:=ownDim_size wo (D k) (A k) (C k) 30
   obtain ⟨Wx,hWx⟩:∃ W,ownDim wo (D k) (A k) (C k) 30=W:=⟨_,rfl⟩
   rw [hWx] at hFo hBx hzx
   unfold ownDim at hWx
   have HFo:Hid (Four Wx wo.heap.size bp (op+k) (.string (D k).name) (.int .i64 (D k).solve) (.slice (A k) (D k).n (C k)) (.int .i64 x)):=hFo
   have HBx:Hid (Below wo.heap.size wo Wx):=hBx
   generalize (cnts (D k) x)=cn at HWT HCL HCN HCS
   generalize weightOf (D k).mem (x:Int)=wt at HWt HCS
   obtain ⟨-,f0,f1,f2,f3⟩:=hFo
   generalize (D k).name=dn at HWt HFo d0 hWx f0
   generalize (D k).solve=ds at HWt HFo d1 hWx f1
   generalize A k=Ak at HWt HFo d2 hWx f2
   generalize C k=Ck at HWt HFo d2 hWx f2
   generalize (D k).n=dk at HWt HFo d2 hWx HLm HCL HCN f2 hmk hdn1 hdn2
   obtain ⟨X,hX⟩:∃ X,lfs D p k=X:=⟨_,rfl⟩
   have HX:Hid (lfs D p k=X):=hX
   rw [hX] at HWt HLm hLl HIL HWT hcL
   have hSx:=HS.out.later hBx
   obtain ⟨A1,l1,c1,hc1,-⟩:=hSx.at hlt
   have hfr:=hSx.frozen k
   have hcLx:=(hBx.cell (p:=⟨gb,k,none⟩) hgbw).trans hcL
   have hdk':(dk:Int)≤12:=by omega
   have hg1:w1.heap.size<wo.heap.size:=HS.out.lt
   have hgx:w1.heap.size<Wx.heap.size:=by omega
   have hgb1:gb<w1.heap.size:=HS1.out.lt
   have hgbx:gb<Wx.heap.size:=by omega
   have HZX:Hid (Wx.heap.size=wo.heap.size+1):=hzx
   clear hBx hS hBw h4 hdk hX hIL hSx hlo hhi hx hzx
   go_wp2_with fail
   have HIn0:Hid (InnW Wx ((Wx.setCell ⟨w1.heap.size,k,none⟩ (.slice (some ⟨Wx.heap.size,0,none⟩) dk dk)).alloc (.cells (madeCells #[.int .i64 0] dk) 3)) w1.heap.size k (.slice (some ⟨Wx.heap.size,0,none⟩) dk dk)):=InnW.start _ hgx
   have HIB0:Hid (IntB ((Wx.setCell ⟨w1.heap.size,k,none⟩ (.slice (some ⟨Wx.heap.size,0,none⟩) dk dk)).alloc (.cells (madeCells #[.int .i64 0] dk) 3)) Wx.heap.size (cn [])):=by
    show IntB _ _ _
    rw [HCN.out]
    have hh:=IntB.made (Wx.setCell ⟨w1.heap.size,k,none⟩ (.slice (some ⟨Wx.heap.size,0,none⟩) dk dk)) dk
    rw [show (Wx.setCell ⟨w1.heap.size,k,none⟩ (.slice (some ⟨Wx.heap.size,0,none⟩) dk dk)).heap.size=Wx.heap.size by simp [World.setCell]] at hh
    exact hh
   clear hWx hmk d0 d1 d2 e1 f0 f1 f2 f3 hcL hcLx
   go_loopg [48] X.length (fun g s48 wi => ∃ (m:Nat),m≤X.length∧g=X.length-m∧s48=.int .i64 m∧IntB wi Wx.heap.size (cn (X.take m))∧InnW Wx wi w1.heap.size k (.slice (some ⟨Wx.heap.size,0,none⟩) dk dk)∧Below w1.heap.size w1 wi)
   case atStart=>exact ⟨0,Nat.zero_le _,rfl,rfl,HIB0.out,HIn0.out,((onB HBw.out HBx.out).setCell (p:=⟨w1.heap.size,k,none⟩) (Nat.le_refl _) _).alloc (by simp [World.setCell];omega) _⟩
   case round =>
    obtain ⟨wi,rfl⟩:∃ w2:World,w2=wr:=⟨_,rfl⟩
    obtain ⟨m,hm,rfl,rfl,hIB,hIn,hBi⟩:=hrel
    have HBi:Hid (Below w1.heap.size w1 wi):=hBi
    have HIn:Hid (InnW Wx wi w1.heap.size k (.slice (some ⟨Wx.heap.size,0,none⟩) dk dk)):=hIn
    have HIB:Hid (IntB wi Wx.heap.size (cn (X.take m))):=hIB
    have hoff:∀ i,i<wo.heap.size→i≠w1.heap.size→wi.heap[i]?=wo.heap[i]?:=fun i hi hne=>(hIn.1 i (by have:=HZX.out;omega) hne).trans (HBx.out.block i hi)
    have hoz:wo.heap.size≤wi.heap.size:=by have:=HZX.out;have:=hIn.2.2;omega
    by_cases hmt:m<X.length
    ·have hmi:(m:Int)<(X.length:Int):=by omega
     obtain ⟨hcL,h0 | ⟨bL,rfl,hbL,hLc⟩⟩:=HS.out.off (by omega) HIL.out hoff hoz
     ·rw [h0] at hmt;cases hmt
     have c0:=hLc m hmt
     obtain ⟨j,hj,hjd⟩:=HLm.out (X.getD m 0) (by rw [List.getD_eq_getElem?_getD,List.getElem?_eq_getElem hmt];exact List.getElem_mem hmt)
     have HWj:Hid (∀ w',Below w1.heap.size w1 w'→_):=HWt.out (X.getD m 0) (by rw [List.getD_eq_getElem?_getD,List.getElem?_eq_getElem hmt];exact List.getElem_mem hmt)
     rw [hj] at c0 HWj
     have HTk:Hid ((cn (X.take m)).set j (wt j)=cn (X.take (m+1))):=by
      show _=_
      rw [HCS.out]
      congr 1
      rw [List.take_succ_eq_append_getElem hmt]
      congr 2
      rw [←hj,List.getD_eq_getElem?_getD,List.getElem?_eq_getElem hmt];rfl
     obtain ⟨-,f0,f1,f2,f3⟩:=HFo.out
     have hFi:Four wi wo.heap.size bp (op+k) (.string dn) (.int .i64 ds) (.slice Ak dk Ck) (.int .i64 x) :=
      ⟨⟨by have:=HZX.out;have:=hIn.2.2;omega,by omega⟩,(hIn.cell (by have:=HZX.out;omega) (by omega)).trans f0,(hIn.cell (by have:=HZX.out;omega) (by omega)).trans f1,(hIn.cell (by have:=HZX.out;omega) (by omega)).trans f2,(hIn.cell (by have:=HZX.out;omega) (by omega)).trans f3⟩
     have HFi:Hid (Four wi wo.heap.size bp (op+k) (.string dn) (.int .i64 ds) (.slice Ak dk Ck) (.int .i64 x)):=hFi
     have hji:(j:Int)<(dk:Int):=by omega
     clear f0 f1 f2 f3 hLc hIB hIn hBi hoff hoz hj hFi
     go_wp2_with fail
     go_cut [13,14] (fun s13 s14 wx=>s13=.int .i64 (wt j)∧s14=.nilIface∧Below wi.heap.size wi wx)
     case first=>as_aux_lemma =>
      go_region_held3 (fun w'=>Below wi.heap.size wi w'∧w'.cell? ⟨wo.heap.size,0,none⟩=some (.string dn)∧w'.cell? ⟨wo.heap.size,1,none⟩=some (.int .i64 ds)∧w'.cell? ⟨wo.heap.size,2,none⟩=some (.slice Ak dk Ck)∧w'.cell? ⟨bp,op+k,none⟩=some (.int .i64 x))
       ((refine keep4 HFi.out ?_;go_grown;done))
       (first | (go_at_call 65;refine (HWj.out _ (onB HBi.out (by go_grown))).mono ?_;rintro e w3 ⟨rfl,hb3⟩;have hN3:=onB (W0:=wi) (by go_grown) hb3;have hy3:=hN3.size;clear hb3))
      all_goals go_wp2_with fail
      all_goals go_meet
      all_goals exact ⟨rfl,rfl,by go_grown⟩
     case rest=>as_aux_lemma =>
     obtain ⟨rfl,rfl,hb⟩:=hcut
     obtain ⟨w2,rfl⟩:∃ w2:World,w2=wc:=⟨_,rfl⟩
     have hI2:=HIn.out.later hgx hb
     have hB2:=HIB.out.later hb
     have HI2:Hid (InnW Wx w2 w1.heap.size k (.slice (some ⟨Wx.heap.size,0,none⟩) dk dk)):=hI2
     have HIB2:Hid (IntB w2 Wx.heap.size (cn (X.take m))):=hB2
     have HB2:Hid (Below w1.heap.size w1 w2):=onB HBi.out hb
     have g0:=hI2.at hc1
     have g1:=hB2.cell (j:=j) (by rw [HCL.out];exact hjd)
     have g2:=hB2.frozen j
     have hsz:=hB2.lt
     generalize (cn (X.take m)).getD j 0=old at g1
     clear hI2 hB2 hb HFi HWj c0
     go_wp2_with fail
     go_roundg (X.length-(m+1))
     case measure=>omega
     case rel =>
      refine ⟨m+1,by omega,rfl,by go_num,?_,HI2.out.store hgx (Nat.le_refl _) j _,HB2.out.setCell (by show w1.heap.size≤Wx.heap.size;omega) _⟩
      have:=HIB2.out.set j (wt j)
      rw [HTk.out] at this
      exact this
    ·have hme:m=X.length:=by omega
     have HOff:Hid (∀ i,i<wo.heap.size→i≠w1.heap.size→wi.heap[i]?=wo.heap[i]?):=hoff
     have HOz:Hid (wo.heap.size≤wi.heap.size):=hoz
     have HFin:Hid (IntB wi Wx.heap.size (wts D p k)):=by
      show IntB _ _ _
      rw [HWT.out]
      rw [hme,List.take_length] at hIB
      exact hIB
     have hmi : ¬ ((m:Int)<(X.length:Int)):=by omega
     clear hIB hIn hBi hoff hoz hme
     go_wp2_with fail
     go_roundg (n-(k+1))
     case measure=>omega
     case rel =>
      have hl:(wts D p k).length=dk:=by rw [HWT.out,HCL.out]
      refine ⟨k+1,by omega,rfl,by go_num,?_,HBi.out⟩
      refine HS.out.row hlt HOff.out (HIn.out.2.1.trans (setCell_same (HBx.out.block _ hg1))) HOz.out hl.symm ?_
      refine ⟨by rw [hl];exact Nat.le_refl _,Or.inr ⟨Wx.heap.size,rfl,HFin.out.lt,fun j hj=>HFin.out.cell hj⟩⟩
  ·have hke:k=n:=by omega
   subst hke
   clear hBw hS
   go_wp2_with fail
   go_ret2
   exact ⟨⟨_,rfl,HS.out⟩,onB HB.out HBw.out⟩
theorem rws_bad (A0:Option Addr) (cap n:Nat) (D:Nat→Dm) (A:Nat→Option Addr) (C:Nat→Nat) (Ap:Option Addr) (cp:Nat) (p:List Int) (w:World) (hp:placeErr D n p≠0) (hM:DimsV w A0 cap n D A C) (hP:PlAt w Ap cp p):Calls Tryz.prog 35 #[.agg #[.slice A0 n cap],.slice Ap p.length cp] w fun e w'=>e=.returned (.tuple #[.slice none 0 0,.iface 95 (.int .i64 (placeErr D n p))])∧Below w.heap.size w w':=by
 have hB0:=ownOut_below w A0 n cap 24
 have h:=rls_bad A0 cap n D A C Ap cp p (ownOut w A0 n cap 24) hp (hM.later hB0) (hP.later hB0)
 have HB0:Hid (Below w.heap.size w (ownOut w A0 n cap 24)):=hB0
 clear hB0 hM hP hp
 generalize placeErr D n p=c at h
 generalize p.length=m at h
 go_enter Tryz.func35,Tryz.ntmps35
 go_wp2_with fail
 refine h.mono ?_
 rintro e w1 ⟨rfl,hb1⟩
 go_wp2_with fail
 go_ret2
 exact ⟨rfl,onB HB0.out hb1⟩
set_option maxHeartbeats 2000000 in
theorem rprod_any (g n:Nat) (D:Nat→Dm) (p:List Int) (Aq:Option Addr) (cq:Nat) (q:List Int) (w:World) (hq:InO D n q) (hS:SlB w g n n (wts D p)) (hQ:PlAt w Aq cq q):Calls Tryz.prog 36 #[.slice (some ⟨g,0,none⟩) n n,.slice Aq q.length cq] w fun e w'=>e=.returned (.int .i64 (prTo (wts D p) q n))∧Below w.heap.size w w':=by
 obtain ⟨hn1,hn4,-,hd⟩:=allErr_some hq.right
 have hl:=hq.len
 obtain ⟨hcp,h0 | ⟨bq,oq,rfl,hbq,hcell⟩⟩:=hQ
 ·rw [h0] at hl;simp at hl;omega
 rw [hl] at hcp hcell ⊢
 have HC:Hid (∀ j,j<n→w.cell? ⟨bq,oq+j,none⟩=some (.int .i64 (q.getD j 0))):=hcell
 have HS:Hid (SlB w g n n (wts D p)):=hS
 have HQ:Hid (InO D n q):=hq
 have hn':(n:Int)≤4:=by omega
 clear hcell hS hq hl
 go_enter Tryz.func36,Tryz.ntmps36
 go_wp2_with fail
 go_loopg [5,10] n (fun g' s5 s10 wr => ∃ (k:Nat),k≤n∧g'=n-k∧s10=.int .i64 k∧s5=.int .i64 (prTo (wts D p) q k)∧Below w.heap.size w wr)
 case atStart=>exact ⟨0,Nat.zero_le _,rfl,rfl,rfl,Below.refl _ _⟩
 case round =>
  obtain ⟨k,hk,rfl,rfl,rfl,hBw⟩:=hrel
  have HBw:Hid (Below w.heap.size w wr):=hBw
  by_cases hlt:k<n
  ·have hki:(k:Int)<(n:Int):=by omega
   obtain ⟨AL,cL,hcL,hcl,hIL⟩:=(HS.out.later hBw).get hlt
   have hlen:(wts D p k).length=(D k).n:=cnts_len ..
   have e1:=(hBw.cell (p:=⟨bq,oq+k,none⟩) hbq).trans (HC.out k hlt)
   obtain ⟨x,hx⟩:∃ x:Nat,q.getD k 0=x:=⟨(q.getD k 0).toNat,by have:=HQ.out.lo k hlt;omega⟩
   have hxn:x<(D k).n:=by have:=HQ.out.hi k hlt;omega
   obtain ⟨hdn1,hdn2⟩:=hd k hlt
   rcases hIL with h0 | ⟨bL,rfl,hbL,hLc⟩
   ·rw [h0] at hlen;simp at hlen;omega
   have e2:=hLc x (by omega)
   rw [hlen] at hcL hcl
   rw [hx] at e1
   have HPr:Hid (prTo (wts D p) q (k+1)=prTo (wts D p) q k*(wts D p k).getD x 0):=by show _=_;rw [prTo,hx,Int.toNat_natCast]
   have hs1:=prTo_small HQ.out.right p q (k+1) (by omega)
   rw [HPr.out] at hs1
   obtain ⟨hs1,hs2⟩:=hs1
   generalize (wts D p k).getD x 0=y at e2 HPr hs1 hs2
   generalize (D k).n=dk at hcL hcl hdn1 hdn2 hxn
   generalize prTo (wts D p) q k=z at HPr hs1 hs2
   have hxi:(x:Int)<(dk:Int):=by omega
   have hdi:(dk:Int)≤12:=by omega
   clear hBw hLc hlen hx
   go_wp2_with fail
   first | go_quiet (fail) | skip
   go_wp2_with fail
   go_roundg (n-(k+1))
   case measure=>omega
   case rel=>exact ⟨k+1,by omega,rfl,by go_num,by rw [HPr.out],by first | exact HBw.out | exact below_drewN HBw.out _⟩
  ·have hke:k=n:=by omega
   subst hke
   clear hBw
   go_wp2_with fail
   go_ret
   exact ⟨rfl,HBw.out⟩
def rvErr (D:Nat→Dm) (n:Nat) (l:List En) (p:List Int):Int:=if entsErr D n l≠0 then entsErr D n l else placeErr D n p
def rvV (D:Nat→Dm) (n:Nat) (l:List En) (p:List Int):Int×Int:=if rvErr D n l p=0 then rollV D n l p else (0,0)
theorem rvErr_ents {D:Nat→Dm} {n:Nat} {l:List En} {p:List Int} (h:entsErr D n l≠0):rvErr D n l p=entsErr D n l:=by unfold rvErr;rw [if_pos h]
theorem rvErr_place {D:Nat→Dm} {n:Nat} {l:List En} {p:List Int} (h:entsErr D n l=0):rvErr D n l p=placeErr D n p:=by unfold rvErr;rw [if_neg (by simpa using h)]
theorem rvV_bad {D:Nat→Dm} {n:Nat} {l:List En} {p:List Int} (h:rvErr D n l p≠0):rvV D n l p=(0,0):=by unfold rvV;rw [if_neg h]
theorem rvV_ok {D:Nat→Dm} {n:Nat} {l:List En} {p:List Int} (h:rvErr D n l p=0):rvV D n l p=rollV D n l p:=by unfold rvV;rw [if_pos h]
theorem rvErr_in {D:Nat→Dm} {n:Nat} {l:List En} {p:List Int} (h:rvErr D n l p=0):Ens D n l∧InO D n p:=by
 by_cases h1:entsErr D n l=0
 ·rw [rvErr_place h1] at h
  exact ⟨ens_of h1,inO_of h⟩
 ·rw [rvErr_ents h1] at h
  exact absurd h h1
set_option maxHeartbeats 4000000 in
theorem rvalue_any (A0:Option Addr) (cap n:Nat) (D:Nat→Dm) (A:Nat→Option Addr) (C:Nat→Nat) (AE:Option Addr) (ce:Nat) (xs:List EnL) (Ap:Option Addr) (cp:Nat) (p:List Int) (w:World) (hEs:Ens D n (lE xs)) (hp:InO D n p) (hM:DimsV w A0 cap n D A C) (hE:EnsV w AE ce xs) (hP:PlAt w Ap cp p) :
  Calls Tryz.prog 17 #[.agg #[.slice A0 n cap],.slice AE xs.length ce,.slice Ap p.length cp] w fun e w'=>e=.returned (.tuple #[.agg #[.int .i64 (rollV D n (lE xs) p).1,.int .i64 (rollV D n (lE xs) p).2],.nilIface])∧Below w.heap.size w w':=by
 have hB0:=ownOC_below w A0 n cap
 have h:=icheck_any A0 cap n D A C AE ce xs (ownOC w A0 n cap) (hM.later hB0) (hE.later hB0)
 rw [hEs.ok,errV_zero] at h
 have HB0:Hid (Below w.heap.size w (ownOC w A0 n cap)):=hB0
 have HWs:Hid (∀ w',Below w.heap.size w w'→Calls Tryz.prog 35 #[.agg #[.slice A0 n cap],.slice Ap p.length cp] w' fun e w''=>(∃ g,e=.returned (.tuple #[.slice (some ⟨g,0,none⟩) n n,.nilIface])∧SlB w'' g n n (wts D p))∧Below w'.heap.size w' w''):=fun w' hw'=>rws_any A0 cap n D A C Ap cp p w' hp (hM.later hw') (hP.later hw')
 have HE:Hid (EnsV w AE ce xs):=hE
 have HEs:Hid (Ens D n (lE xs)):=hEs
 have hfew:xs.length≤3000:=by have:=hEs.few;rw [lE_len] at this;exact this
 have HFin:Hid (((lE xs).take xs.length).foldl (rollStep D n p) (0,0)=rollV D n (lE xs) p):=by show _=_;rw [List.take_of_length_le (by rw [lE_len];exact Nat.le_refl _)];exact roll_fold ..
 obtain ⟨N,hN⟩:∃ N,xs.length=N:=⟨_,rfl⟩
 have HN:Hid (xs.length=N):=hN
 rw [hN] at h hfew HFin
 rw [hN]
 generalize p.length=np at HWs
 have hNi:(N:Int)≤3000:=by omega
 clear hB0 hM hE hP hN hEs hp
 go_enter Tryz.func17,Tryz.ntmps17
 go_wp2_with fail
 refine h.mono ?_
 rintro e w1 ⟨rfl,hb1⟩
 have hB:Below w.heap.size w w1:=onB HB0.out hb1
 have hz1:w.heap.size+1<w1.heap.size:=by have:=hb1.size;rw [ownOC_size] at this;omega
 have c1:w1.cell? ⟨w.heap.size,0,none⟩=some (.slice A0 n cap):=(hb1.cell (p:=⟨w.heap.size,0,none⟩) (by show w.heap.size<_;rw [ownOC_size];omega)).trans (ownOC_o ..)
 have HK1:Hid (w1.heap[w.heap.size+1]?=some (.cells #[.int .i64 0,.int .i64 0] 54)):=(hb1.block (w.heap.size+1) (by rw [ownOC_size];omega)).trans (ownOC_b ..)
 have hws:=HWs.out w1 hB
 have HB:Hid (Below w.heap.size w w1):=hB
 clear hb1 h hB
 go_wp2_with fail
 refine hws.mono ?_
 rintro e w2 ⟨⟨g,rfl,hS⟩,hb2⟩
 have HB2:Hid (Below w.heap.size w w2):=onB HB.out hb2
 have HS:Hid (SlB w2 g n n (wts D p)):=hS
 have HK2:Hid (w2.heap[w.heap.size+1]?=some (.cells #[.int .i64 0,.int .i64 0] 54)):=(hb2.block _ hz1).trans HK1.out
 have hz2:w.heap.size+1<w2.heap.size:=Nat.lt_of_lt_of_le hz1 hb2.size
 clear hb2 hS hws c1 HK1 HB hz1
 go_wp2_with fail
 go_loopg [11,12,35] N (fun g' s11 s12 s35 wr => ∃ (k:Nat),k≤N∧g'=N-k∧s35=.int .i64 k∧s11=.int .i64 (rollN D n p ((lE xs).take k))∧s12=.bool (((lE xs).take k).any (cntR D n p))∧Below w2.heap.size w2 wr)
 case atStart=>exact ⟨0,Nat.zero_le _,rfl,rfl,rfl,rfl,Below.refl _ _⟩
 case round =>
  obtain ⟨k,hk,rfl,rfl,rfl,rfl,hBw⟩:=hrel
  have HBw:Hid (Below w2.heap.size w2 wr):=hBw
  by_cases hlt:k<N
  ·have hki:(k:Int)<(N:Int):=by omega
   have hkx:k<xs.length:=by rw [HN.out];exact hlt
   have hkl:k<(lE xs).length:=by rw [lE_len];exact hkx
   obtain ⟨hce,-,h0 | ⟨b,o,rfl,hA⟩⟩:=HE.out.later (onB HB2.out hBw)
   ·rw [h0] at hkx;cases hkx
   obtain ⟨c0,c1⟩:=hA.at hkx
   have hpl:=hA.pl hkx
   have hel:(lE xs)[k]=(xs.getD k noL).e:=by rw [←lE_at,List.getD_eq_getElem?_getD,List.getElem?_eq_getElem hkl];rfl
   obtain ⟨hqO,hqL,hqN⟩:=HEs.out.each (lE xs)[k] (List.getElem_mem hkl)
   rw [hel] at hqO hqL hqN
   have hw0:=pwTo_small hqO p n (Nat.le_refl _)
   have hpr:=pr_wts hqO hqL p n (Nat.le_refl _)
   have HPd:Hid (∀ w',Below wr.heap.size wr w'→Calls Tryz.prog 36 #[.slice (some ⟨g,0,none⟩) n n,.slice (xs.getD k noL).A (xs.getD k noL).e.pl.length (xs.getD k noL).c] w' fun e w''=>e=.returned (.int .i64 (pwTo D p (xs.getD k noL).e.pl n))∧Below w'.heap.size w' w''):=fun w' hw'=>by
    have:=rprod_any g n D p _ _ _ w' hqO (HS.out.later (onB hBw hw')) (hpl.later hw')
    rw [hpr] at this
    exact this
   have hn1 : -1000000≤(xs.getD k noL).e.n∧(xs.getD k noL).e.n≤1000000:=by simpa [numOk] using hqN
   have hbd:=roll_bound p ((lE xs).take k) fun e he=>HEs.out.each e (List.mem_of_mem_take he)
   have hlk:(((lE xs).take k).length:Int)≤3000:=by
    have:=List.length_take_le k (lE xs)
    omega
   have HT:Hid ((lE xs).take (k+1)=(lE xs).take k ++ [(xs.getD k noL).e]):=by show _=_;rw [List.take_succ_eq_append_getElem hkl,hel]
   have HCn:Hid (cntR D n p (xs.getD k noL).e = !(pwTo D p (xs.getD k noL).e.pl n == 0)):=cnt_pw
   have HVr:Hid (valR D n p (xs.getD k noL).e=pwTo D p (xs.getD k noL).e.pl n*(xs.getD k noL).e.n):=rfl
   generalize hlen:((lE xs).take k).length=lk at hbd hlk
   obtain ⟨RS,hRS⟩:∃ v,rollN D n p ((lE xs).take k)=v:=⟨_,rfl⟩
   have HRS:Hid (rollN D n p ((lE xs).take k)=RS):=hRS
   rw [hRS] at hbd ⊢
   obtain ⟨an,han⟩:∃ v,((lE xs).take k).any (cntR D n p)=v:=⟨_,rfl⟩
   have HAN:Hid (((lE xs).take k).any (cntR D n p)=an):=han
   rw [han]
   generalize (xs.getD k noL).e=en at *
   generalize (xs.getD k noL).A=Ae at *
   generalize (xs.getD k noL).c=ke at *
   generalize pwTo D p en.pl n=pw at HPd HCn HVr hw0
   obtain ⟨en1,en2⟩:=en
   simp only at *
   generalize en1.length=me at c0 HPd
   have hRS1 : -3000000000≤RS:=by omega
   have hRS2:RS≤3000000000:=by omega
   have hcs:pw=0∨pw=1∨pw = -1:=by omega
   clear hBw hA hpl hqO hqL hqN hpr hbd hlk hlen hRS han hel hw0
   obtain ⟨hn1,hn2⟩:=hn1
   rcases hcs with rfl | rfl | rfl
   ·have HC0:Hid (cntR D n p ⟨en1,en2⟩=false):=HCn.out
    go_wp2_with fail
    refine (HPd.out _ (by go_grown)).mono ?_
    rintro e w3 ⟨rfl,hb3⟩
    have HB3:Hid (Below wr.heap.size wr w3):=onB (by go_grown) hb3
    clear hb3
    go_wp2_with fail
    go_roundg (N-(k+1))
    case measure=>omega
    case rel =>
     refine ⟨k+1,by omega,rfl,by go_num,?_,?_,onB HBw.out HB3.out⟩
     ·rw [HT.out,rollN_append,HRS.out,rollN,rollN,if_neg (by rw [HC0.out];simp)]
      simp
     ·rw [HT.out,List.any_append,HAN.out];simp [HC0.out]
   ·have HC0:Hid (cntR D n p ⟨en1,en2⟩=true):=HCn.out
    have HV0:Hid (valR D n p ⟨en1,en2⟩=en2):=by show _=_;rw [HVr.out];simp
    go_wp2_with fail
    refine (HPd.out _ (by go_grown)).mono ?_
    rintro e w3 ⟨rfl,hb3⟩
    have HB3:Hid (Below wr.heap.size wr w3):=onB (by go_grown) hb3
    have c3:w3.cell? ⟨wr.heap.size,1,none⟩=some (.int .i64 en2):=(hb3.cell (p:=⟨wr.heap.size,1,none⟩) (by simp)).trans (by simp)
    clear hb3
    go_wp2_with fail
    go_roundg (N-(k+1))
    case measure=>omega
    case rel =>
     refine ⟨k+1,by omega,rfl,by go_num,?_,?_,onB HBw.out HB3.out⟩
     ·rw [HT.out,rollN_append,HRS.out,rollN,rollN,if_pos HC0.out,HV0.out]
      first | rfl | (congr 1;omega) | go_num
     ·rw [HT.out,List.any_append,HAN.out];simp [HC0.out]
   ·have HC0:Hid (cntR D n p ⟨en1,en2⟩=true):=HCn.out
    have HV0:Hid (valR D n p ⟨en1,en2⟩ = -en2):=by show _=_;rw [HVr.out];simp
    go_wp2_with fail
    refine (HPd.out _ (by go_grown)).mono ?_
    rintro e w3 ⟨rfl,hb3⟩
    have HB3:Hid (Below wr.heap.size wr w3):=onB (by go_grown) hb3
    have c3:w3.cell? ⟨wr.heap.size,1,none⟩=some (.int .i64 en2):=(hb3.cell (p:=⟨wr.heap.size,1,none⟩) (by simp)).trans (by simp)
    clear hb3
    go_wp2_with fail
    go_roundg (N-(k+1))
    case measure=>omega
    case rel =>
     refine ⟨k+1,by omega,rfl,by go_num,?_,?_,onB HBw.out HB3.out⟩
     ·rw [HT.out,rollN_append,HRS.out,rollN,rollN,if_pos HC0.out,HV0.out]
      first | rfl | (congr 1;omega) | go_num
     ·rw [HT.out,List.any_append,HAN.out];simp [HC0.out]
  ·have hke:k=N:=by omega
   subst hke
   have hz3:w.heap.size+1<wr.heap.size:=Nat.lt_of_lt_of_le hz2 hBw.size
   have HK3:Hid (wr.heap[w.heap.size+1]?=some (.cells #[.int .i64 0,.int .i64 0] 54)):=(hBw.block _ hz2).trans HK2.out
   have HAll:Hid ((lE xs).take k=lE xs):=by show _=_;rw [List.take_of_length_le (by rw [lE_len,HN.out];exact Nat.le_refl _)]
   rw [HAll.out]
   have hbd:=roll_bound p (lE xs) HEs.out.each
   have hlk:((lE xs).length:Int)≤3000:=by rw [lE_len,HN.out];omega
   have hR1 : -3000000000≤rollN D n p (lE xs):=by omega
   have hR2:rollN D n p (lE xs)≤3000000000:=by omega
   cases han:(lE xs).any (cntR D n p)
   ·have HV1:Hid (rollV D n (lE xs) p=(0,0)):=by show _=_;unfold rollV rollK;rw [roll_none han,han];rfl
    have d0:wr.cell? ⟨w.heap.size+1,0,none⟩=some (.int .i64 0):=by rw [Lib.cell_of_heap HK3.out];rfl
    have d1:wr.cell? ⟨w.heap.size+1,1,none⟩=some (.int .i64 0):=by rw [Lib.cell_of_heap HK3.out];rfl
    have f0:wr.frozen? ⟨w.heap.size+1,0,none⟩=false:=Lib.frozen_of_heap HK3.out 0
    have f1:wr.frozen? ⟨w.heap.size+1,1,none⟩=false:=Lib.frozen_of_heap HK3.out 1
    generalize rollN D n p (lE xs)=RS
    clear hBw han hbd hlk hR1 hR2
    go_wp2_with fail
    refine bodyPost_ret (v:=.tuple #[.agg #[.int .i64 0,.int .i64 0],.nilIface]) (by simp [results,Tryz.results17,go_sem,d0,d1]) rfl ⟨by rw [HV1.out],?_⟩
    exact ((onB HB2.out HBw.out).setCell (by show w.heap.size≤w.heap.size+1;omega) _).setCell (by show w.heap.size≤w.heap.size+1;omega) _
   ·have HV1:Hid (rollV D n (lE xs) p=(1,rollN D n p (lE xs))):=by show _=_;unfold rollV rollK;rw [han];rfl
    generalize rollN D n p (lE xs)=RS at HV1 hR1 hR2
    have hof:=fun w'=>of_any RS w'
    have hofp:ofP RS=(1,RS):=ofP_in (by omega) (by omega)
    rw [hofp] at hof
    clear hBw han hbd hlk hofp
    go_wp2_with fail
    refine (hof _).mono ?_
    rintro e w4 ⟨rfl,hb4⟩
    have k4:w4.heap[w.heap.size+1]?=some (.cells #[.int .i64 0,.int .i64 0] 54):=(hb4.block _ hz3).trans HK3.out
    have d0:w4.cell? ⟨w.heap.size+1,0,none⟩=some (.int .i64 0):=by rw [Lib.cell_of_heap k4];rfl
    have d1:w4.cell? ⟨w.heap.size+1,1,none⟩=some (.int .i64 0):=by rw [Lib.cell_of_heap k4];rfl
    have f0:w4.frozen? ⟨w.heap.size+1,0,none⟩=false:=Lib.frozen_of_heap k4 0
    have f1:w4.frozen? ⟨w.heap.size+1,1,none⟩=false:=Lib.frozen_of_heap k4 1
    have HB4:Hid (Below w.heap.size w w4):=onB (onB HB2.out HBw.out) hb4
    clear hb4 k4 hof
    go_wp2_with fail
    refine bodyPost_ret (v:=.tuple #[.agg #[.int .i64 1,.int .i64 RS],.nilIface]) (by simp [results,Tryz.results17,go_sem,d0,d1]) rfl ⟨by rw [HV1.out],?_⟩
    exact (HB4.out.setCell (by show w.heap.size≤w.heap.size+1;omega) _).setCell (by show w.heap.size≤w.heap.size+1;omega) _
set_option maxHeartbeats 2000000 in
theorem rval_any (A0:Option Addr) (cap n:Nat) (D:Nat→Dm) (A:Nat→Option Addr) (C:Nat→Nat) (AE:Option Addr) (ce:Nat) (xs:List EnL) (Ap:Option Addr) (cp:Nat) (p:List Int) (w:World) (hM:DimsV w A0 cap n D A C) (hE:EnsV w AE ce xs) (hP:PlAt w Ap cp p) :
  Calls Tryz.prog 17 #[.agg #[.slice A0 n cap],.slice AE xs.length ce,.slice Ap p.length cp] w fun e w'=>e=.returned (.tuple #[.agg #[.int .i64 (rvV D n (lE xs) p).1,.int .i64 (rvV D n (lE xs) p).2],errV (rvErr D n (lE xs) p)])∧Below w.heap.size w w':=by
 by_cases hr:rvErr D n (lE xs) p=0
 ·obtain ⟨hEs,hp⟩:=rvErr_in hr
  rw [rvV_ok hr,hr,errV_zero]
  exact rvalue_any A0 cap n D A C AE ce xs Ap cp p w hEs hp hM hE hP
 ·have HV:Hid (rvV D n (lE xs) p=(0,0)):=rvV_bad hr
  have HEr:Hid (errV (rvErr D n (lE xs) p)=.iface 95 (.int .i64 (rvErr D n (lE xs) p))):=errV_some hr
  have hB0:=ownOC_below w A0 n cap
  have h:=icheck_any A0 cap n D A C AE ce xs (ownOC w A0 n cap) (hM.later hB0) (hE.later hB0)
  have HB0:Hid (Below w.heap.size w (ownOC w A0 n cap)):=hB0
  by_cases he:entsErr D n (lE xs)=0
  ·have hpe:=rvErr_place (p:=p) he
   rw [hpe] at hr HEr
   rw [he,errV_zero] at h
   have HWs:Hid (∀ w',Below w.heap.size w w'→Calls Tryz.prog 35 #[.agg #[.slice A0 n cap],.slice Ap p.length cp] w' fun e w''=>e=.returned (.tuple #[.slice none 0 0,.iface 95 (.int .i64 (placeErr D n p))])∧Below w'.heap.size w' w''):=fun w' hw'=>rws_bad A0 cap n D A C Ap cp p w' hr (hM.later hw') (hP.later hw')
   have HPE:Hid (rvErr D n (lE xs) p=placeErr D n p):=hpe
   clear hB0 hM hE hP hr he hpe
   generalize placeErr D n p=E at HWs HEr HPE
   generalize p.length=np at HWs
   generalize xs.length=N at h
   go_enter Tryz.func17,Tryz.ntmps17
   go_wp2_with fail
   refine h.mono ?_
   rintro e w1 ⟨rfl,hb1⟩
   have hB:Below w.heap.size w w1:=onB HB0.out hb1
   have hz1:w.heap.size+1<w1.heap.size:=by have:=hb1.size;rw [ownOC_size] at this;omega
   have c1:w1.cell? ⟨w.heap.size,0,none⟩=some (.slice A0 n cap):=(hb1.cell (p:=⟨w.heap.size,0,none⟩) (by show w.heap.size<_;rw [ownOC_size];omega)).trans (ownOC_o ..)
   have HK1:Hid (w1.heap[w.heap.size+1]?=some (.cells #[.int .i64 0,.int .i64 0] 54)):=(hb1.block (w.heap.size+1) (by rw [ownOC_size];omega)).trans (ownOC_b ..)
   have hws:=HWs.out w1 hB
   have HB:Hid (Below w.heap.size w w1):=hB
   clear hb1 h hB
   go_wp2_with fail
   refine hws.mono ?_
   rintro e w2 ⟨rfl,hb2⟩
   have HB2:Hid (Below w.heap.size w w2):=onB HB.out hb2
   have k4:w2.heap[w.heap.size+1]?=some (.cells #[.int .i64 0,.int .i64 0] 54):=(hb2.block _ hz1).trans HK1.out
   have d0:w2.cell? ⟨w.heap.size+1,0,none⟩=some (.int .i64 0):=by rw [Lib.cell_of_heap k4];rfl
   have d1:w2.cell? ⟨w.heap.size+1,1,none⟩=some (.int .i64 0):=by rw [Lib.cell_of_heap k4];rfl
   have f0:w2.frozen? ⟨w.heap.size+1,0,none⟩=false:=Lib.frozen_of_heap k4 0
   have f1:w2.frozen? ⟨w.heap.size+1,1,none⟩=false:=Lib.frozen_of_heap k4 1
   clear hb2 hws c1 HK1 HB hz1 k4
   go_wp2_with fail
   refine bodyPost_ret (v:=.tuple #[.agg #[.int .i64 0,.int .i64 0],.iface 95 (.int .i64 E)]) (by simp [results,Tryz.results17,go_sem,d0,d1]) rfl ⟨by rw [HV.out,HPE.out,HEr.out],?_⟩
   exact (HB2.out.setCell (by show w.heap.size≤w.heap.size+1;omega) _).setCell (by show w.heap.size≤w.heap.size+1;omega) _
  ·have hpe:=rvErr_ents (p:=p) he
   rw [hpe] at hr HEr
   rw [errV_some he] at h
   have HPE:Hid (rvErr D n (lE xs) p=entsErr D n (lE xs)):=hpe
   clear hB0 hM hE hP hr he hpe
   generalize entsErr D n (lE xs)=E at h HEr HPE
   generalize p.length=np
   generalize xs.length=N at h
   go_enter Tryz.func17,Tryz.ntmps17
   go_wp2_with fail
   refine h.mono ?_
   rintro e w2 ⟨rfl,hb2⟩
   have HB2:Hid (Below w.heap.size w w2):=onB HB0.out hb2
   have k4:w2.heap[w.heap.size+1]?=some (.cells #[.int .i64 0,.int .i64 0] 54):=(hb2.block (w.heap.size+1) (by rw [ownOC_size];omega)).trans (ownOC_b ..)
   have d0:w2.cell? ⟨w.heap.size+1,0,none⟩=some (.int .i64 0):=by rw [Lib.cell_of_heap k4];rfl
   have d1:w2.cell? ⟨w.heap.size+1,1,none⟩=some (.int .i64 0):=by rw [Lib.cell_of_heap k4];rfl
   have f0:w2.frozen? ⟨w.heap.size+1,0,none⟩=false:=Lib.frozen_of_heap k4 0
   have f1:w2.frozen? ⟨w.heap.size+1,1,none⟩=false:=Lib.frozen_of_heap k4 1
   clear hb2 h k4
   go_wp2_with fail
   refine bodyPost_ret (v:=.tuple #[.agg #[.int .i64 0,.int .i64 0],.iface 95 (.int .i64 E)]) (by simp [results,Tryz.results17,go_sem,d0,d1]) rfl ⟨by rw [HV.out,HPE.out,HEr.out],?_⟩
   exact (HB2.out.setCell (by show w.heap.size≤w.heap.size+1;omega) _).setCell (by show w.heap.size≤w.heap.size+1;omega) _
end Go.Proofs.YtfgegmpoejilnaaGreatDoor
