/-
  How members count in a place's members, dim by dim, laid out: what weights of package roll answers, called in whatever memory.
-/
import Derived.Maps.AppendAt
import Derived.Deep.CutRange
import Derived.WalkSpells
import Derived.WalkLawsBesides
import Derived.Deep.RegionHeld
import Derived.Test.YtnegjdcedhnjdaaGreatDoorJDAX
import Derived.Test.YtnegjdcedhnjdaaGreatDoorJDBB
namespace Go.Proofs.YtnegjdcedhnjdaaGreatDoor
open Go.ChangeShapes Go.WideShapes Go.ChangeAt Go.RowKit
set_option maxRecDepth 20000
theorem SlB.row {w w':World} {g n k l c:Nat} {A:Option Addr} {L:Nat→List Int} (h:SlB w g n k L) (hk:k<n) (hb:∀ i,i<w.heap.size→i≠g→w'.heap[i]?=w.heap[i]?) (hg:w'.heap[g]?=(w.setCell ⟨g,k,none⟩ (.slice A l c)).heap[g]?) (hz:w.heap.size≤w'.heap.size) (hl:l=(L k).length) (hI:IntsAt w' A c (L k)):SlB w' g n (k+1) L:=by
 obtain ⟨cur,h1,h2,h3⟩:=h
 have hs:∀ x y,cur[0]?=some (.int x y)→False:=fun x y e=>by
  obtain ⟨A,l,c,h4,-⟩:=h3 0 (by omega)
  rw [h4] at e
  cases e
 refine ⟨cur.setIfInBounds k (.slice A l c),by rw [hg];simp [World.setCell,Array.getElem?_modify,h1],by simpa using h2,fun j hj=>?_⟩
 by_cases e:j=k
 ·subst e
  exact ⟨A,_,c,by simp [h2,hj],fun _=>⟨hl,hI⟩⟩
 ·obtain ⟨A',l',c',h4,h5⟩:=h3 j hj
  refine ⟨A',l',c',?_,fun hjk=>⟨(h5 (by omega)).1,(h5 (by omega)).2.off h1 hs hb hz⟩⟩
  rw [Array.getElem?_setIfInBounds_ne (fun h=>e h.symm)]
  exact h4
theorem SlB.off {w w':World} {g n k c:Nat} {A:Option Addr} {L:Nat→List Int} {X:List Int} (h:SlB w g n k L) (hn:0<n) (hI:IntsAt w A c X) (hb:∀ i,i<w.heap.size→i≠g→w'.heap[i]?=w.heap[i]?) (hz:w.heap.size≤w'.heap.size):IntsAt w' A c X:=by
 obtain ⟨cur,h1,h2,h3⟩:=h
 refine hI.off h1 (fun x y e=>?_) hb hz
 obtain ⟨A,l,c,h4,-⟩:=h3 0 hn
 rw [h4] at e
 cases e
theorem setCell_same {w w':World} {g k:Nat} {v:Value} (h:w.heap[g]?=w'.heap[g]?):(w.setCell ⟨g,k,none⟩ v).heap[g]?=(w'.setCell ⟨g,k,none⟩ v).heap[g]?:=by
 simp [World.setCell,Array.getElem?_modify,h]
def InnW (W wi:World) (g k:Nat) (v:Value):Prop:=(∀ i,i<W.heap.size→i≠g→wi.heap[i]?=W.heap[i]?)∧wi.heap[g]?=(W.setCell ⟨g,k,none⟩ v).heap[g]?∧W.heap.size≤wi.heap.size
section
variable {W wi w':World} {g k:Nat} {v:Value}
theorem InnW.start (o:Obj) (hg:g<W.heap.size):InnW W ((W.setCell ⟨g,k,none⟩ v).alloc o) g k v:=by
 have hz:(W.setCell ⟨g,k,none⟩ v).heap.size=W.heap.size:=by simp [World.setCell]
 refine ⟨fun i hi hne=>?_,?_,?_⟩
 ·rw [Below.heap_alloc _ _ _ (by rw [hz];exact hi),Below.heap_setCell _ ⟨g,k,none⟩ v i hne]
 ·rw [Below.heap_alloc _ _ _ (by rw [hz];exact hg)]
 ·simp [World.setCell]
theorem InnW.later (h:InnW W wi g k v) (hg:g<W.heap.size) (hB:Below wi.heap.size wi w'):InnW W w' g k v :=
 ⟨fun i hi hne=>(hB.block i (Nat.lt_of_lt_of_le hi h.2.2)).trans (h.1 i hi hne),(hB.block g (Nat.lt_of_lt_of_le hg h.2.2)).trans h.2.1,Nat.le_trans h.2.2 hB.size⟩
theorem InnW.store (h:InnW W wi g k v) (hg:g<W.heap.size) {q:Nat} (hq:W.heap.size≤q) (j:Nat) (x:Value):InnW W (wi.setCell ⟨q,j,none⟩ x) g k v :=
 ⟨fun i hi hne=>(Below.heap_setCell _ ⟨q,j,none⟩ x i (by show i≠q;omega)).trans (h.1 i hi hne),(Below.heap_setCell _ ⟨q,j,none⟩ x g (by show g≠q;omega)).trans h.2.1,by have:=h.2.2;simpa [World.setCell] using this⟩
theorem InnW.cell (h:InnW W wi g k v) {b o:Nat} (hb:b<W.heap.size) (hne:b≠g):wi.cell? ⟨b,o,none⟩=W.cell? ⟨b,o,none⟩:=World.cell?_of_block (a:=⟨b,o,none⟩) (h.1 b hb hne)
theorem InnW.at (h:InnW W wi g k v) {u:Value} (hu:W.cell? ⟨g,k,none⟩=some u):wi.cell? ⟨g,k,none⟩=some v:=by
 rw [World.cell?_of_block (a:=⟨g,k,none⟩) h.2.1]
 exact World.cell?_setCell_same _ _ _ hu
end
set_option maxHeartbeats 4000000 in
theorem rws_any (A0:Option Addr) (cap n:Nat) (D:Nat→Dm) (A:Nat→Option Addr) (C:Nat→Nat) (Ap:Option Addr) (cp:Nat) (p:List Int) (w:World) (hp:InO D n p) (hM:DimsV w A0 cap n D A C) (hP:PlAt w Ap cp p):Calls Tryz.prog 67 #[.agg #[.slice A0 n cap],.slice Ap p.length cp] w fun e w'=>(∃ g,e=.returned (.tuple #[.slice (some ⟨g,0,none⟩) n n,.nilIface])∧SlB w' g n n (wts D p))∧Below w.heap.size w w':=by
 have hB0:=ownOut_below w A0 n cap 24
 have h:=rls_any A0 cap n D A C Ap cp p (ownOut w A0 n cap 24) hp (hM.later hB0) (hP.later hB0)
 have HB0:Hid (Below w.heap.size w (ownOut w A0 n cap 24)):=hB0
 have HM:Hid (DimsV w A0 cap n D A C):=hM
 have HI:Hid (InO D n p):=hp
 obtain ⟨hn1,hn4,-,hd⟩:=allErr_some hp.right
 have HD:Hid (∀ i,i<n→(dimErr (D i)).2=0):=(allErr_right hp.right).2
 have HD2:Hid (∀ i,i<n→1≤(D i).n∧(D i).n≤12):=hd
 have hl:=hp.len
 obtain ⟨hcp,h0 | ⟨bp,op,rfl,hbp,hcell⟩⟩:=hP
 ·rw [h0] at hl;simp at hl;omega
 rw [hl] at h hcp
 rw [hl]
 have HC:Hid (∀ j,j<n→w.cell? ⟨bp,op+j,none⟩=some (.int .i64 (p.getD j 0))):=fun j hj=>hcell j (by omega)
 have hn':(n:Int)≤4:=by omega
 have hmk:=run_make_row' (P:=Tryz.prog) 89 26 (.slice none 0 0) 24 Tryz.underlying89 Tryz.infoSl rfl .i64 .i64 n (by omega) (by omega)
 clear hB0 hM hp hl hcell hd
 go_enter Tryz.func67,Tryz.ntmps67
 go_wp2_with fail
 refine h.mono ?_
 rintro e w1 ⟨⟨gb,rfl,hS⟩,hb1⟩
 have hB:Below w.heap.size w w1:=onB HB0.out hb1
 have hz:w.heap.size<w1.heap.size:=by have:=hb1.size;rw [ownOut_size] at this;omega
 have h2:w1.cell? ⟨w.heap.size,0,none⟩=some (.slice A0 n cap):=(hb1.cell (p:=⟨w.heap.size,0,none⟩) (by show w.heap.size<_;rw [ownOut_size];omega)).trans (ownOut_at ..)
 obtain ⟨hcap,h0 | ⟨b,o,rfl,hMs⟩⟩:=HM.out.later hB
 ·omega
 have HMs:Hid (DimsAt w1 b o n D A C):=hMs
 have HB:Hid (Below w.heap.size w w1):=hB
 have HS1:Hid (SlB w1 gb n n (lfs D p)):=hS
 have HC1:Hid (∀ j,j<n→w1.cell? ⟨bp,op+j,none⟩=some (.int .i64 (p.getD j 0))):=fun j hj=>(hB.cell (p:=⟨bp,op+j,none⟩) hbp).trans (HC.out j hj)
 have hbp1:bp<w1.heap.size:=Nat.lt_of_lt_of_le hbp hB.size
 clear hb1 h hMs hB hS
 go_wp2_with fail
 clear hmk
 go_loopg [31] n (fun g s31 wr => ∃ (k:Nat),k≤n∧g=n-k∧s31=.int .i64 k∧SlB wr w1.heap.size n k (wts D p)∧Below w1.heap.size w1 wr)
 case atStart=>exact ⟨0,Nat.zero_le _,rfl,rfl,SlB.made w1 n _,by go_grown⟩
 case round =>
  obtain ⟨wo,rfl⟩:∃ w2:World,w2=wr:=⟨_,rfl⟩
  obtain ⟨k,hk,rfl,rfl,hS,hBw⟩:=hrel
  have HBw:Hid (Below w1.heap.size w1 wo):=hBw
  have HS:Hid (SlB wo w1.heap.size n k (wts D p)):=hS
  by_cases hlt:k<n
  ·have hki:(k:Int)<(n:Int):=by omega
   obtain ⟨d0,d1,d2,h4⟩:=(HMs.out.later hBw).2 k hlt
   have hdk:=HD.out k hlt
   obtain ⟨hdn1,hdn2⟩:=HD2.out k hlt
   have e1:=(hBw.cell (p:=⟨bp,op+k,none⟩) hbp1).trans (HC1.out k hlt)
   have hbq:bp<wo.heap.size:=Nat.lt_of_lt_of_le hbp1 hBw.size
   have hlo:=HI.out.lo k hlt
   have hhi:=HI.out.hi k hlt
   obtain ⟨x,hx⟩:∃ x:Nat,p.getD k 0=x:=⟨(p.getD k 0).toNat,by omega⟩
   have HWt:Hid (∀ j∈lfs D p k,∀ w',Below w1.heap.size w1 w'→Calls Tryz.prog 98 #[dimV (D k) (A k) (C k),.int .i64 x,.int .i64 j] w' fun e w''=>e=.returned (.tuple #[.int .i64 (weightOf (D k).mem x j),.nilIface])∧Below w'.heap.size w' w''):=fun j hj w' hw'=>by
    obtain ⟨m,rfl,hm,hlf⟩:=lfs_mem j hj
    have ht:=tweight_any (D k) (A k) (C k) x m w' ((HMs.out.later hw').2 k hlt).2.2.2
    have he:wErr (D k) x m=0:=wErr_ok (by rw [treeErr_two hdk,if_neg (by omega)]) (by unfold leafIn at hlf;rw [Bool.and_eq_true] at hlf;simpa using hlf.1)
    rw [he,errV_zero,wVal_ok he] at ht
    exact ht
   have HLm:Hid (∀ j∈lfs D p k,∃ m:Nat,j=m∧m<(D k).n):=fun j hj=>by
    obtain ⟨m,h1,h2,-⟩:=lfs_mem j hj
    exact ⟨m,h1,h2⟩
   have hLl:(lfs D p k).length≤12:=Nat.le_trans (lfs_len D p k) hdn2
   obtain ⟨AL,cL,hcL,hIL⟩:=(HS1.out.later hBw).get hlt
   have hgbw:gb<wo.heap.size:=(HS1.out.later hBw).lt
   have HIL:Hid (IntsAt wo AL cL (lfs D p k)):=hIL
   have HWT:Hid (wts D p k=cnts (D k) x (lfs D p k)):=by show _=_;unfold wts;rw [hx]
   have HCL:Hid (∀ X,(cnts (D k) x X).length=(D k).n):=fun X=>cnts_len ..
   have HCN:Hid (cnts (D k) x []=List.replicate (D k).n 0):=cnts_nil ..
   have HCS:Hid (∀ X (j:Nat),(cnts (D k) x X).set j (weightOf (D k).mem x j)=cnts (D k) x (X ++ [(j:Int)])):=fun X j=>cnts_set
   have hmk:=run_make_row' (P:=Tryz.prog) 26 3 (.int .i64 0) 8 Tryz.underlying26 Tryz.infoIntP rfl .i64 .i64 (D k).n (by omega) (by omega)
   unfold dimV at HWt
   have hBx:Below wo.heap.size wo (ownDim wo (D k) (A k) (C k) 31):=ownDim_below ..
   have hFo:Four (ownDim wo (D k) (A k) (C k) 31) wo.heap.size bp (op+k) (.string (D k).name) (.int .i64 (D k).solve) (.slice (A k) (D k).n (C k)) (.int .i64 x):=by
    obtain ⟨x0,x1,x2⟩:=ownDim_at wo (D k) (A k) (C k) 31
    exact ⟨⟨by rw [ownDim_size];omega,Nat.lt_of_lt_of_le hbq hBx.size⟩,x0,x1,x2,(hBx.cell (p:=⟨bp,op+k,none⟩) hbq).trans (by rw [e1,hx])⟩
   have hzx:=ownDim_size wo (D k) (A k) (C k) 31
   obtain ⟨Wx,hWx⟩:∃ W,ownDim wo (D k) (A k) (C k) 31=W:=⟨_,rfl⟩
   rw [hWx] at hFo hBx hzx
   unfold ownDim at hWx
   have HFo:Hid (Four Wx wo.heap.size bp (op+k) (.string (D k).name) (.int .i64 (D k).solve) (.slice (A k) (D k).n (C k)) (.int .i64 x)):=hFo
   have HBx:Hid (Below wo.heap.size wo Wx):=hBx
   generalize (cnts (D k) x)=cn at HWT HCL HCN HCS
   generalize weightOf (D k).mem (x:Int)=wt at HWt HCS
   obtain ⟨-,f0,f1,f2,f3⟩:=hFo
   generalize (D k).name=dn at HWt HFo d0 hWx f0
   generalize (D k).solve=ds at HWt HFo d1 hWx f1
   generalize A k=Ak at HWt HFo d2 hWx f2
   generalize C k=Ck at HWt HFo d2 hWx f2
   generalize (D k).n=dk at HWt HFo d2 hWx HLm HCL HCN f2 hmk hdn1 hdn2
   obtain ⟨X,hX⟩:∃ X,lfs D p k=X:=⟨_,rfl⟩
   have HX:Hid (lfs D p k=X):=hX
   rw [hX] at HWt HLm hLl HIL HWT hcL
   have hSx:=HS.out.later hBx
   obtain ⟨A1,l1,c1,hc1,-⟩:=hSx.at hlt
   have hfr:=hSx.frozen k
   have hcLx:=(hBx.cell (p:=⟨gb,k,none⟩) hgbw).trans hcL
   have hdk':(dk:Int)≤12:=by omega
   have hg1:w1.heap.size<wo.heap.size:=HS.out.lt
   have hgx:w1.heap.size<Wx.heap.size:=by omega
   have hgb1:gb<w1.heap.size:=HS1.out.lt
   have hgbx:gb<Wx.heap.size:=by omega
   have HZX:Hid (Wx.heap.size=wo.heap.size+1):=hzx
   clear hBx hS hBw h4 hdk hX hIL hSx hlo hhi hx hzx
   go_wp2_with fail
   have HIn0:Hid (InnW Wx ((Wx.setCell ⟨w1.heap.size,k,none⟩ (.slice (some ⟨Wx.heap.size,0,none⟩) dk dk)).alloc (.cells (madeCells #[.int .i64 0] dk) 3)) w1.heap.size k (.slice (some ⟨Wx.heap.size,0,none⟩) dk dk)):=InnW.start _ hgx
   have HIB0:Hid (IntB ((Wx.setCell ⟨w1.heap.size,k,none⟩ (.slice (some ⟨Wx.heap.size,0,none⟩) dk dk)).alloc (.cells (madeCells #[.int .i64 0] dk) 3)) Wx.heap.size (cn [])):=by
    show IntB _ _ _
    rw [HCN.out]
    have hh:=IntB.made (Wx.setCell ⟨w1.heap.size,k,none⟩ (.slice (some ⟨Wx.heap.size,0,none⟩) dk dk)) dk
    rw [show (Wx.setCell ⟨w1.heap.size,k,none⟩ (.slice (some ⟨Wx.heap.size,0,none⟩) dk dk)).heap.size=Wx.heap.size by simp [World.setCell]] at hh
    exact hh
   clear hWx hmk d0 d1 d2 e1 f0 f1 f2 f3 hcL hcLx
   go_loopg [48] X.length (fun g s48 wi => ∃ (m:Nat),m≤X.length∧g=X.length-m∧s48=.int .i64 m∧IntB wi Wx.heap.size (cn (X.take m))∧InnW Wx wi w1.heap.size k (.slice (some ⟨Wx.heap.size,0,none⟩) dk dk)∧Below w1.heap.size w1 wi)
   case atStart=>exact ⟨0,Nat.zero_le _,rfl,rfl,HIB0.out,HIn0.out,((onB HBw.out HBx.out).setCell (p:=⟨w1.heap.size,k,none⟩) (Nat.le_refl _) _).alloc (by simp [World.setCell];omega) _⟩
   case round =>
    obtain ⟨wi,rfl⟩:∃ w2:World,w2=wr:=⟨_,rfl⟩
    obtain ⟨m,hm,rfl,rfl,hIB,hIn,hBi⟩:=hrel
    have HBi:Hid (Below w1.heap.size w1 wi):=hBi
    have HIn:Hid (InnW Wx wi w1.heap.size k (.slice (some ⟨Wx.heap.size,0,none⟩) dk dk)):=hIn
    have HIB:Hid (IntB wi Wx.heap.size (cn (X.take m))):=hIB
    have hoff:∀ i,i<wo.heap.size→i≠w1.heap.size→wi.heap[i]?=wo.heap[i]?:=fun i hi hne=>(hIn.1 i (by have:=HZX.out;omega) hne).trans (HBx.out.block i hi)
    have hoz:wo.heap.size≤wi.heap.size:=by have:=HZX.out;have:=hIn.2.2;omega
    by_cases hmt:m<X.length
    ·have hmi:(m:Int)<(X.length:Int):=by omega
     obtain ⟨hcL,h0 | ⟨bL,rfl,hbL,hLc⟩⟩:=HS.out.off (by omega) HIL.out hoff hoz
     ·rw [h0] at hmt;cases hmt
     have c0:=hLc m hmt
     obtain ⟨j,hj,hjd⟩:=HLm.out (X.getD m 0) (by rw [List.getD_eq_getElem?_getD,List.getElem?_eq_getElem hmt];exact List.getElem_mem hmt)
     have HWj:Hid (∀ w',Below w1.heap.size w1 w'→_):=HWt.out (X.getD m 0) (by rw [List.getD_eq_getElem?_getD,List.getElem?_eq_getElem hmt];exact List.getElem_mem hmt)
     rw [hj] at c0 HWj
     have HTk:Hid ((cn (X.take m)).set j (wt j)=cn (X.take (m+1))):=by
      show _=_
      rw [HCS.out]
      congr 1
      rw [List.take_succ_eq_append_getElem hmt]
      congr 2
      rw [←hj,List.getD_eq_getElem?_getD,List.getElem?_eq_getElem hmt];rfl
     obtain ⟨-,f0,f1,f2,f3⟩:=HFo.out
     have hFi:Four wi wo.heap.size bp (op+k) (.string dn) (.int .i64 ds) (.slice Ak dk Ck) (.int .i64 x) :=
      ⟨⟨by have:=HZX.out;have:=hIn.2.2;omega,by omega⟩,(hIn.cell (by have:=HZX.out;omega) (by omega)).trans f0,(hIn.cell (by have:=HZX.out;omega) (by omega)).trans f1,(hIn.cell (by have:=HZX.out;omega) (by omega)).trans f2,(hIn.cell (by have:=HZX.out;omega) (by omega)).trans f3⟩
     have HFi:Hid (Four wi wo.heap.size bp (op+k) (.string dn) (.int .i64 ds) (.slice Ak dk Ck) (.int .i64 x)):=hFi
     have hji:(j:Int)<(dk:Int):=by omega
     clear f0 f1 f2 f3 hLc hIB hIn hBi hoff hoz hj hFi
     go_wp2_with fail
     go_cut [13,14] (fun s13 s14 wx=>s13=.int .i64 (wt j)∧s14=.nilIface∧Below wi.heap.size wi wx)
     case first=>as_aux_lemma =>
      go_region_held3 (fun w'=>Below wi.heap.size wi w'∧w'.cell? ⟨wo.heap.size,0,none⟩=some (.string dn)∧w'.cell? ⟨wo.heap.size,1,none⟩=some (.int .i64 ds)∧w'.cell? ⟨wo.heap.size,2,none⟩=some (.slice Ak dk Ck)∧w'.cell? ⟨bp,op+k,none⟩=some (.int .i64 x))
       ((refine keep4 HFi.out ?_;go_grown;done))
       (first | (go_at_call 98;refine (HWj.out _ (onB HBi.out (by go_grown))).mono ?_;rintro e w3 ⟨rfl,hb3⟩;have hN3:=onB (W0:=wi) (by go_grown) hb3;have hy3:=hN3.size;clear hb3))
      all_goals go_wp2_with fail
      all_goals go_meet
      all_goals exact ⟨rfl,rfl,by go_grown⟩
     case rest=>as_aux_lemma =>
     obtain ⟨rfl,rfl,hb⟩:=hcut
     obtain ⟨w2,rfl⟩:∃ w2:World,w2=wc:=⟨_,rfl⟩
     have hI2:=HIn.out.later hgx hb
     have hB2:=HIB.out.later hb
     have HI2:Hid (InnW Wx w2 w1.heap.size k (.slice (some ⟨Wx.heap.size,0,none⟩) dk dk)):=hI2
     have HIB2:Hid (IntB w2 Wx.heap.size (cn (X.take m))):=hB2
     have HB2:Hid (Below w1.heap.size w1 w2):=onB HBi.out hb
     have g0:=hI2.at hc1
     have g1:=hB2.cell (j:=j) (by rw [HCL.out];exact hjd)
     have g2:=hB2.frozen j
     have hsz:=hB2.lt
     generalize (cn (X.take m)).getD j 0=old at g1
     clear hI2 hB2 hb HFi HWj c0
     go_wp2_with fail
     go_roundg (X.length-(m+1))
     case measure=>omega
     case rel =>
      refine ⟨m+1,by omega,rfl,by go_num,?_,HI2.out.store hgx (Nat.le_refl _) j _,HB2.out.setCell (by show w1.heap.size≤Wx.heap.size;omega) _⟩
      have:=HIB2.out.set j (wt j)
      rw [HTk.out] at this
      exact this
    ·have hme:m=X.length:=by omega
     have HOff:Hid (∀ i,i<wo.heap.size→i≠w1.heap.size→wi.heap[i]?=wo.heap[i]?):=hoff
     have HOz:Hid (wo.heap.size≤wi.heap.size):=hoz
     have HFin:Hid (IntB wi Wx.heap.size (wts D p k)):=by
      show IntB _ _ _
      rw [HWT.out]
      rw [hme,List.take_length] at hIB
      exact hIB
     have hmi : ¬ ((m:Int)<(X.length:Int)):=by omega
     clear hIB hIn hBi hoff hoz hme
     go_wp2_with fail
     go_roundg (n-(k+1))
     case measure=>omega
     case rel =>
      have hl:(wts D p k).length=dk:=by rw [HWT.out,HCL.out]
      refine ⟨k+1,by omega,rfl,by go_num,?_,HBi.out⟩
      refine HS.out.row hlt HOff.out (HIn.out.2.1.trans (setCell_same (HBx.out.block _ hg1))) HOz.out hl.symm ?_
      refine ⟨by rw [hl];exact Nat.le_refl _,Or.inr ⟨Wx.heap.size,rfl,HFin.out.lt,fun j hj=>HFin.out.cell hj⟩⟩
  ·have hke:k=n:=by omega
   subst hke
   clear hBw hS
   go_wp2_with fail
   go_ret2
   exact ⟨⟨_,rfl,HS.out⟩,onB HB.out HBw.out⟩
set_option maxHeartbeats 2000000 in
theorem rprod_any (g n:Nat) (D:Nat→Dm) (p:List Int) (Aq:Option Addr) (cq:Nat) (q:List Int) (w:World) (hq:InO D n q) (hS:SlB w g n n (wts D p)) (hQ:PlAt w Aq cq q):Calls Tryz.prog 68 #[.slice (some ⟨g,0,none⟩) n n,.slice Aq q.length cq] w fun e w'=>e=.returned (.int .i64 (prTo (wts D p) q n))∧Below w.heap.size w w':=by
 obtain ⟨hn1,hn4,-,hd⟩:=allErr_some hq.right
 have hl:=hq.len
 obtain ⟨hcp,h0 | ⟨bq,oq,rfl,hbq,hcell⟩⟩:=hQ
 ·rw [h0] at hl;simp at hl;omega
 rw [hl] at hcp hcell ⊢
 have HC:Hid (∀ j,j<n→w.cell? ⟨bq,oq+j,none⟩=some (.int .i64 (q.getD j 0))):=hcell
 have HS:Hid (SlB w g n n (wts D p)):=hS
 have HQ:Hid (InO D n q):=hq
 have hn':(n:Int)≤4:=by omega
 clear hcell hS hq hl
 go_enter Tryz.func68,Tryz.ntmps68
 go_wp2_with fail
 go_loopg [5,10] n (fun g' s5 s10 wr => ∃ (k:Nat),k≤n∧g'=n-k∧s10=.int .i64 k∧s5=.int .i64 (prTo (wts D p) q k)∧Below w.heap.size w wr)
 case atStart=>exact ⟨0,Nat.zero_le _,rfl,rfl,rfl,Below.refl _ _⟩
 case round =>
  obtain ⟨k,hk,rfl,rfl,rfl,hBw⟩:=hrel
  have HBw:Hid (Below w.heap.size w wr):=hBw
  by_cases hlt:k<n
  ·have hki:(k:Int)<(n:Int):=by omega
   obtain ⟨AL,cL,hcL,hcl,hIL⟩:=(HS.out.later hBw).get hlt
   have hlen:(wts D p k).length=(D k).n:=cnts_len ..
   have e1:=(hBw.cell (p:=⟨bq,oq+k,none⟩) hbq).trans (HC.out k hlt)
   obtain ⟨x,hx⟩:∃ x:Nat,q.getD k 0=x:=⟨(q.getD k 0).toNat,by have:=HQ.out.lo k hlt;omega⟩
   have hxn:x<(D k).n:=by have:=HQ.out.hi k hlt;omega
   obtain ⟨hdn1,hdn2⟩:=hd k hlt
   rcases hIL with h0 | ⟨bL,rfl,hbL,hLc⟩
   ·rw [h0] at hlen;simp at hlen;omega
   have e2:=hLc x (by omega)
   rw [hlen] at hcL hcl
   rw [hx] at e1
   have HPr:Hid (prTo (wts D p) q (k+1)=prTo (wts D p) q k*(wts D p k).getD x 0):=by show _=_;rw [prTo,hx,Int.toNat_natCast]
   have hs1:=prTo_small HQ.out.right p q (k+1) (by omega)
   rw [HPr.out] at hs1
   obtain ⟨hs1,hs2⟩:=hs1
   generalize (wts D p k).getD x 0=y at e2 HPr hs1 hs2
   generalize (D k).n=dk at hcL hcl hdn1 hdn2 hxn
   generalize prTo (wts D p) q k=z at HPr hs1 hs2
   have hxi:(x:Int)<(dk:Int):=by omega
   have hdi:(dk:Int)≤12:=by omega
   clear hBw hLc hlen hx
   go_wp2_with fail
   first | go_quiet (fail) | skip
   go_wp2_with fail
   go_roundg (n-(k+1))
   case measure=>omega
   case rel=>exact ⟨k+1,by omega,rfl,by go_num,by rw [HPr.out],by first | exact HBw.out | exact below_drewN HBw.out _⟩
  ·have hke:k=n:=by omega
   subst hke
   clear hBw
   go_wp2_with fail
   go_ret
   exact ⟨rfl,HBw.out⟩
noncomputable def badD (D:Nat→Dm) (i:Nat):Bool:=decide ((rErr (D i)).2≠0)
noncomputable def ruErr (D:Nat→Dm) (n:Nat):Int×Int×Int :=
 if (allErr D n).2.2≠0 then allErr D n
 else if 0≤findFrom (badD D) n 0 then (findFrom (badD D) n 0,rErr (D (findFrom (badD D) n 0).toNat))
 else (-1,-1,0)
theorem ru0 {D:Nat→Dm} {n:Nat} (h:(allErr D n).2.2≠0):ruErr D n=allErr D n:=by unfold ruErr;rw [if_pos h]
theorem ru1 {D:Nat→Dm} {n i:Nat} (h:(allErr D n).2.2=0) (hi:i<n) (hb:(rErr (D i)).2≠0) (hf:∀ j,j<i→(rErr (D j)).2=0):ruErr D n=((i:Int),(rErr (D i)).1,(rErr (D i)).2):=by
 have e:findFrom (badD D) n 0=(i:Int):=findFrom_at (Nat.zero_le _) (by omega) (decide_eq_true hb) fun j _ hj=>decide_eq_false (by simpa using hf j hj)
 unfold ruErr
 rw [if_neg (by simpa using h),e,if_pos (by omega),Int.toNat_natCast]
theorem ru2 {D:Nat→Dm} {n:Nat} (h:(allErr D n).2.2=0) (hf:∀ j,j<n→(rErr (D j)).2=0):ruErr D n=(-1,-1,0):=by
 unfold ruErr
 rw [if_neg (by simpa using h),findFrom_none (p:=badD D) fun j _ hj=>decide_eq_false (by simpa using hf j (by omega)),if_neg (by omega)]
set_option maxHeartbeats 4000000 in
theorem rulall_any (A0:Option Addr) (cap n:Nat) (D:Nat→Dm) (A:Nat→Option Addr) (C:Nat→Nat) (w:World) (hM:DimsV w A0 cap n D A C):Calls Tryz.prog 10 #[.agg #[.slice A0 n cap]] w fun e w'=>e=.returned (.tuple #[.int .i64 (ruErr D n).1,.int .i64 (ruErr D n).2.1,errV (ruErr D n).2.2])∧Below w.heap.size w w':=by
 have hB0:=ownOut_below w A0 n cap 24
 have hS:=ownOut_size w A0 n cap 24
 have hA:=ownOut_at w A0 n cap 24
 have hal:=all_any A0 cap n D A C (ownOut w A0 n cap 24) (hM.later hB0)
 obtain ⟨W,hW⟩:∃ W,ownOut w A0 n cap 24=W:=⟨_,rfl⟩
 rw [hW] at hB0 hS hA hal
 unfold ownOut at hW
 have HB0:Hid (Below w.heap.size w W):=hB0
 have HM:Hid (DimsV w A0 cap n D A C):=hM
 have hsz:w.heap.size<W.heap.size:=by omega
 clear hM hB0
 by_cases he:(allErr D n).2.2=0
 case neg =>
  rw [ru0 he]
  rw [errV_some he] at hal ⊢
  generalize (allErr D n).1=x at hal ⊢
  generalize (allErr D n).2.1=y at hal ⊢
  generalize (allErr D n).2.2=c at hal ⊢
  clear he
  go_enter Tryz.func10,Tryz.ntmps10
  go_wp2_with fail
  refine hal.mono ?_
  rintro e w1 ⟨rfl,hb1⟩
  go_wp2_with fail
  go_returns
  exact ⟨rfl,onB HB0.out hb1⟩
 obtain ⟨hn1,hn4,-,-⟩:=allErr_some he
 have HE:Hid ((allErr D n).2.2=0):=he
 rw [he,errV_zero] at hal
 generalize (allErr D n).1=x at hal
 generalize (allErr D n).2.1=y at hal
 have hnI:(n:Int)≤4:=by omega
 have HA:Hid (W.cell? ⟨w.heap.size,0,none⟩=some (.slice A0 n cap)):=hA
 clear he
 go_enter Tryz.func10,Tryz.ntmps10
 go_wp2_with fail
 refine hal.mono ?_
 rintro e w1 ⟨rfl,hb1⟩
 have HB1:Hid (Below W.heap.size W w1):=hb1
 have c1:w1.cell? ⟨w.heap.size,0,none⟩=some (.slice A0 n cap):=(hb1.cell (p:=⟨w.heap.size,0,none⟩) hsz).trans hA
 have hsz1:w.heap.size<w1.heap.size:=Nat.lt_of_lt_of_le hsz hb1.size
 clear hb1 hal hA hW
 go_wp2_with fail
 go_loopg [26] n (fun g s26 wr => ∃ (k:Nat),k≤n∧g=n-k∧s26=.int .i64 k∧Hid (∀ j,j<k→(rErr (D j)).2=0)∧Below W.heap.size W wr)
 case atStart=>exact ⟨0,Nat.zero_le _,rfl,rfl,(fun j hj=>absurd hj (Nat.not_lt_zero _):∀ j,j<0→_),HB1.out⟩
 case round =>
  obtain ⟨k,hk,rfl,rfl,HK,hBw⟩:=hrel
  have HBw:Hid (Below W.heap.size W wr):=hBw
  by_cases hlt:k<n
  ·have hki:(k:Int)<(n:Int):=by omega
   obtain ⟨hcap,h0 | ⟨b,o,rfl,hMs⟩⟩:=HM.out.later (onB HB0.out hBw)
   ·omega
   have hcapI:(n:Int)≤(cap:Int):=by omega
   obtain ⟨h0,h1,h2,h3⟩:=hMs.2 k hlt
   have hbl:b<wr.heap.size:=hMs.1
   have hBo:=ownDim_below wr (D k) (A k) (C k) 31
   have hck:=rcheck_any (D k) (A k) (C k) (ownDim wr (D k) (A k) (C k) 31) (h3.later hBo)
   obtain ⟨d0,d1,d2,hqW⟩:=dim_cells (w:=wr) (d:=D k) (A:=A k) (cap:=C k) (Below.refl _ _)
   have HBo:Hid (Below wr.heap.size wr (ownDim wr (D k) (A k) (C k) 31)):=hBo
   unfold dimV at hck
   obtain ⟨W2,hW2⟩:∃ W2,ownDim wr (D k) (A k) (C k) 31=W2:=⟨_,rfl⟩
   rw [hW2] at d0 d1 d2 hqW HBo hck
   unfold ownDim at hW2
   clear h3 hMs hBo hBw
   by_cases he:(rErr (D k)).2=0
   ·rw [he,errV_zero] at hck
    have HK2:Hid (∀ j,j<k+1→(rErr (D j)).2=0):=fun j hj=>by
     by_cases e:j=k
     ·rw [e];exact he
     ·exact HK.out j (by omega)
    generalize (rErr (D k)).1=z at hck
    clear he
    go_wp2_with fail
    refine hck.mono ?_
    rintro e w2 ⟨rfl,hb2⟩
    have HB2:Hid (Below W.heap.size W w2):=onB HBw.out (onB HBo.out hb2)
    clear hb2 hck
    go_wp2_with fail
    go_roundg (n-(k+1))
    case measure=>omega
    case rel=>exact ⟨k+1,by omega,rfl,by go_num,HK2,HB2.out⟩
   ·have HRu:Hid (ruErr D n=((k:Int),(rErr (D k)).1,(rErr (D k)).2)):=ru1 HE.out hlt he HK.out
    have HEe:Hid ((rErr (D k)).2≠0):=he
    rw [errV_some he] at hck
    generalize (rErr (D k)).1=z at hck HRu
    generalize (rErr (D k)).2=c at hck HRu HEe
    clear he
    go_wp2_with fail
    refine hck.mono ?_
    rintro e w2 ⟨rfl,hb2⟩
    have HB2:Hid (Below W.heap.size W w2):=onB HBw.out (onB HBo.out hb2)
    clear hb2 hck
    go_wp2_with fail
    go_returns
    rw [HRu.out]
    exact ⟨by rw [errV_some HEe.out];rfl,onB HB0.out HB2.out⟩
  ·have hke:k=n:=by omega
   subst hke
   have HRu:Hid (ruErr D k=(-1,-1,0)):=ru2 HE.out HK.out
   clear hBw
   go_wp2_with fail
   go_returns
   rw [HRu.out]
   exact ⟨rfl,onB HB0.out HBw.out⟩
theorem by_hit {D:Nat→Dm} {p:List Int} {k:Nat} (h1:leafB (D k).mem (D k).n (p.getD k 0).toNat=false) (h2:byTo D p k<0∨(D (byTo D p k).toNat).solve<(D k).solve):byTo D p (k+1)=(k:Int):=by rw [byTo,if_pos ⟨h1,h2⟩]
theorem by_miss {D:Nat→Dm} {p:List Int} {k:Nat} (h : ¬ (leafB (D k).mem (D k).n (p.getD k 0).toNat=false∧(byTo D p k<0∨(D (byTo D p k).toNat).solve<(D k).solve))):byTo D p (k+1)=byTo D p k:=by rw [byTo,if_neg h]
noncomputable def cuErr (D:Nat→Dm) (n:Nat) (l:List En):Int:=if (ruErr D n).2.2≠0 then (ruErr D n).2.2 else entsErr D n l
structure R2 where
 xs:List RL
 A:Option Addr
 c:Nat
end Go.Proofs.YtnegjdcedhnjdaaGreatDoor
namespace Go.Proofs.YtnegjdcedhnjdaaGreatDoor
open Go Go.ChangeShapes Go.WideShapes Go.ChangeAt Go.RowKit
set_option maxRecDepth 20000
def rwL (D:Nat→Dm) (n:Nat) (l:List En) (m:Nat):List (Int×Int):=(List.range m).map fun x=>getE l (placeL D n x)
theorem rwL_len (D:Nat→Dm) (n:Nat) (l:List En) (m:Nat):(rwL D n l m).length=m:=by simp [rwL]
theorem wr_none {D:Nat→Dm} {n x:Nat}:∀ (l:List En) (L:List (Int×Int)),(∀ e∈l,InO D n e.pl)→L.length=prodN D n→(∀ e∈l,(numI D e.pl n).toNat≠x)→(l.foldl (wrStep D n) L).getD x (0,0)=L.getD x (0,0)
 | [],_,_,_,_=>rfl
 | e :: r,L,hi,hL,h=>by
  obtain ⟨h1,h2,-⟩:=numI_bound (hi e (List.mem_cons_self ..)) (Nat.le_refl n)
  rw [List.foldl_cons,wr_none r _ (fun y hy=>hi y (List.mem_cons_of_mem _ hy)) (by unfold wrStep;rw [List.length_set];exact hL) fun y hy=>h y (List.mem_cons_of_mem _ hy)]
  unfold wrStep
  have:=h e (List.mem_cons_self ..)
  simp [List.getD,List.getElem?_set_ne this]
theorem wr_some {D:Nat→Dm} {n:Nat} {e:En}:∀ (l:List En) (L:List (Int×Int)),(∀ y∈l,InO D n y.pl)→(l.Pairwise fun a b=>lessL a.pl b.pl=true)→L.length=prodN D n→e∈l→(l.foldl (wrStep D n) L).getD (numI D e.pl n).toNat (0,0)=(1,e.n)
 | [],_,_,_,_,h=>by cases h
 | y :: r,L,hi,hr,hL,h=>by
  have hr':=List.pairwise_cons.1 hr
  have hiy:=hi y (List.mem_cons_self ..)
  have hir:=fun z hz=>hi z (List.mem_cons_of_mem y hz)
  obtain ⟨h1,h2,-⟩:=numI_bound hiy (Nat.le_refl n)
  rw [List.foldl_cons]
  have hL':(wrStep D n L y).length=prodN D n:=by unfold wrStep;rw [List.length_set];exact hL
  rcases List.mem_cons.1 h with rfl | h
  ·rw [wr_none r _ hir hL' fun z hz=>by
    have h3:=less_num hiy (hir z hz) (hr'.1 z hz)
    obtain ⟨h4,-,-⟩:=numI_bound (hir z hz) (Nat.le_refl n)
    omega]
   unfold wrStep
   have:(numI D e.pl n).toNat<L.length:=by omega
   simp [List.getD,this]
  ·exact wr_some r _ hir hr'.2 hL' h
theorem wr_rwL {D:Nat→Dm} {n:Nat} {l:List En} (h:Ens D n l):wrV D n l=rwL D n l (prodN D n):=by
 apply List.ext_getElem (by rw [wrV_len,rwL_len])
 intro x h1 h2
 rw [wrV_len] at h1
 have e1:(wrV D n l).getD x (0,0)=getE l (placeL D n x):=by
  unfold wrV
  by_cases hx:∃ e,e∈l∧(numI D e.pl n).toNat=x
  ·obtain ⟨e,he,hn⟩:=hx
   have h3:=wr_some l (List.replicate (prodN D n) (0,0)) (fun y hy=>(h.each y hy).1) h.rise (by simp) he
   rw [hn] at h3
   rw [h3,←hn,place_num (h.each e he).1,get_mem h.rise he]
  ·rw [wr_none l _ (fun y hy=>(h.each y hy).1) (by simp) fun e he hn=>hx ⟨e,he,hn⟩]
   rw [(get_none h.rise fun e he e2=>hx ⟨e,he,by rw [e2,num_place h.right h1];omega⟩).1]
   simp [List.getD,h1]
 have h3:x<(wrV D n l).length:=by rw [wrV_len];exact h1
 rw [List.getD_eq_getElem?_getD,List.getElem?_eq_getElem h3] at e1
 simp only [Option.getD_some] at e1
 rw [e1]
 simp [rwL]
end Go.Proofs.YtnegjdcedhnjdaaGreatDoor
namespace Go.Proofs.YtnegjdcedhnjdaaGreatDoor
open Go.ChangeShapes Go.WideShapes Go.ChangeAt Go.RowKit
set_option maxRecDepth 20000
def ToldP (D:Nat→Dm) (n:Nat) (p:List Int) (T:List Int):Prop:=T.Pairwise (· < ·)∧T.length≤12∧∀ z,z∈T↔∃ b:Nat,byTo D p n=(b:Int)∧∃ x∈mNd (D b) (p.getD b 0).toNat,z=numI D (p.set b x) n
end Go.Proofs.YtnegjdcedhnjdaaGreatDoor
namespace Go.Proofs.YtnegjdcedhnjdaaGreatDoor
section
variable {D:Nat→Dm} {n:Nat}
theorem told_less (hR:AllR D n) (hE:(allErr D n).2.2=0) {i:Nat} {T:List Int} (hT:ToldP D n (placeL D n i) T) {z:Int} (hz:z∈T):∃ j:Nat,z=(j:Int)∧j<prodN D n∧msrTo D (placeL D n j) n<msrTo D (placeL D n i) n:=by
 obtain ⟨b,hb,x,hx,rfl⟩:=(hT.2.2 z).1 hz
 have hI:InO D n (placeL D n i):=placeL_in hE
 have hbn:b<n:=by
  rcases by_in D (placeL D n i) n with h | ⟨b',h1,h2⟩
  ·omega
  ·omega
 have hxi:=mNd_in hx
 have hI2:=inO_set hI hbn hxi.1 hxi.2
 have hp0:=hI.lo b hbn
 have hp1:=hI.hi b hbn
 have hrk:=rk_less (hR b hbn) (i:=((placeL D n i).getD b 0).toNat) (by omega) hx
 rw [Int.toNat_of_nonneg hp0] at hrk
 have hms:=(msr_less (by rw [hI.len];exact hbn) hrk n).2 hbn
 obtain ⟨j,hj⟩:∃ j:Nat,numI D ((placeL D n i).set b x) n=(j:Int):=⟨(numI D ((placeL D n i).set b x) n).toNat,by have:=(numI_bound hI2 (Nat.le_refl n)).1;omega⟩
 refine ⟨j,hj,by have:=(numI_bound hI2 (Nat.le_refl n)).2.1;omega,?_⟩
 have hpn:=place_num hI2
 rw [hj,Int.toNat_natCast] at hpn
 rw [hpn]
 exact hms
end
end Go.Proofs.YtnegjdcedhnjdaaGreatDoor
namespace Go.Proofs.YtnegjdcedhnjdaaGreatDoor
open Go.ChangeShapes Go.WideShapes Go.ChangeAt Go.RowKit
section
variable {D:Nat→Dm} {n:Nat}
theorem told_inn (hR:AllR D n) (hE:(allErr D n).2.2=0) {N:List (List Int)} (hl:N.length=prodN D n) (hT:∀ i,i<prodN D n→ToldP D n (placeL D n i) (N.getD i [])):Inn N:=fun i hi x hx=>by
 obtain ⟨j,h1,h2,-⟩:=told_less hR hE (hT i (by omega)) hx
 omega
theorem told_acyc (hR:AllR D n) (hE:(allErr D n).2.2=0) {N:List (List Int)} (hl:N.length=prodN D n) (hT:∀ i,i<prodN D n→ToldP D n (placeL D n i) (N.getD i [])) (i:Nat) (hi:i<N.length):cycB N i=false:=by
 rw [cyc_not]
 intro hr
 have key:∀ {a b:Int},Rch N a b→∀ x:Nat,a=(x:Int)→x<prodN D n→∃ y:Nat,b=(y:Int)∧y<prodN D n∧msrTo D (placeL D n y) n<msrTo D (placeL D n x) n:=by
  intro a b hab
  induction hab with
  | one hx =>
   intro x hax hxn
   subst hax
   unfold rowN at hx
   rw [Int.toNat_natCast] at hx
   exact told_less hR hE (hT x hxn) hx
  | more hx _ ih =>
   intro x hax hxn
   subst hax
   unfold rowN at hx
   rw [Int.toNat_natCast] at hx
   obtain ⟨y,h1,h2,h3⟩:=told_less hR hE (hT x hxn) hx
   obtain ⟨z,h4,h5,h6⟩:=ih y h1 h2
   exact ⟨z,h4,h5,by omega⟩
 obtain ⟨y,h1,-,h3⟩:=key hr i rfl (by omega)
 have:y=i:=by omega
 subst this
 omega
end
section
variable {D:Nat→Dm} {n:Nat}
def StpN (D:Nat→Dm) (n i j:Nat):Prop := ∃ b:Nat,byTo D (placeL D n i) n=(b:Int)∧∃ x∈mNd (D b) ((placeL D n i).getD b 0).toNat,(j:Int)=numI D ((placeL D n i).set b x) n
theorem stp_iff {i j:Nat} {T:List Int} (hT:ToldP D n (placeL D n i) T):StpN D n i j↔(j:Int)∈T:=(hT.2.2 _).symm
end
section
variable {D:Nat→Dm} {n:Nat}
noncomputable def stpB (D:Nat→Dm) (n i j:Nat):Bool := @decide (StpN D n i j) (Classical.propDecidable _)
theorem stpB_iff {i j:Nat}:stpB D n i j=true↔StpN D n i j:=by unfold stpB;exact @decide_eq_true_iff _ (Classical.propDecidable _)
noncomputable def telL (D:Nat→Dm) (n i:Nat):List Int:=selTo (stpB D n i) (prodN D n)
theorem told_eq (hR:AllR D n) (hE:(allErr D n).2.2=0) {i:Nat} {T:List Int} (hT:ToldP D n (placeL D n i) T):T=telL D n i :=
 rise_eq _ _ hT.1 (sel_rise _ _) fun x=>⟨fun hx=>by
  obtain ⟨j,rfl,hj,-⟩:=told_less hR hE hT hx
  exact sel_has hj (stpB_iff.2 ((stp_iff hT).2 hx)),fun hx=>by
  obtain ⟨m,rfl,-,hp⟩:=selTo_mem _ hx
  exact (stp_iff hT).1 (stpB_iff.1 hp)⟩
noncomputable def rowsL (D:Nat→Dm) (n:Nat):List (List Int):=(List.range (prodN D n)).map (telL D n)
theorem rows_len:(rowsL D n).length=prodN D n:=by simp [rowsL]
theorem rows_at {i:Nat} (hi:i<prodN D n):(rowsL D n).getD i []=telL D n i:=by
 unfold rowsL
 rw [List.getD_eq_getElem?_getD,List.getElem?_map,List.getElem?_range hi]
 rfl
noncomputable def caL (D:Nat→Dm) (n:Nat) (l:List En):List (Int×Int):=if cuErr D n l=0 then (List.range (prodN D n)).map (fun j=>solV D n (getE l) (placeL D n j)) else []
theorem caL_bad {l:List En} (h:cuErr D n l≠0):caL D n l=[]:=by unfold caL;rw [if_neg h]
theorem caL_len {l:List En} (h:cuErr D n l=0):(caL D n l).length=prodN D n:=by unfold caL;rw [if_pos h];simp
theorem caL_at {l:List En} (h:cuErr D n l=0) {j:Nat} (hj:j<prodN D n):(caL D n l).getD j noC=solV D n (getE l) (placeL D n j):=by
 unfold caL
 rw [if_pos h,List.getD_eq_getElem?_getD,List.getElem?_map,List.getElem?_range hj]
 rfl
theorem ca_eq {l:List En} (h:cuErr D n l=0) {L:List (Int×Int)} (hl:L.length=prodN D n) (hv:∀ j,j<prodN D n→L.getD j noC=solV D n (getE l) (placeL D n j)):L=caL D n l:=by
 refine List.ext_getElem (by rw [hl,caL_len h]) fun i h1 h2=>?_
 have h3:i<prodN D n:=by omega
 have e:=(hv i h3).trans (caL_at h h3).symm
 rw [List.getD_eq_getElem?_getD,List.getElem?_eq_getElem h1,List.getD_eq_getElem?_getD,List.getElem?_eq_getElem h2] at e
 exact e
theorem cu_ru {l:List En} (h:cuErr D n l=0):(ruErr D n).2.2=0∧entsErr D n l=0:=by
 have h4:(ruErr D n).2.2=0:=by
  by_cases h2:(ruErr D n).2.2=0
  ·exact h2
  ·unfold cuErr at h;rw [if_pos h2] at h;exact absurd h h2
 exact ⟨h4,by unfold cuErr at h;rw [h4,if_neg (by simp)] at h;exact h⟩
end
end Go.Proofs.YtnegjdcedhnjdaaGreatDoor
namespace Go.Proofs.YtnegjdcedhnjdaaGreatDoor
open Go.ChangeShapes Go.WideShapes Go.ChangeAt Go.RowKit
set_option maxRecDepth 20000
section
variable {D:Nat→Dm} {n:Nat}
theorem cu_right {l:List En} (hr:(ruErr D n).2.2=0) (hl:Ens D n l):cuErr D n l=0:=by unfold cuErr;rw [if_neg (by simpa using hr)];exact hl.ok
end
end Go.Proofs.YtnegjdcedhnjdaaGreatDoor
namespace Go.Proofs.YtnegjdcedhnjdaaGreatDoor
set_option maxRecDepth 20000
def someP (M:Nat→Mem) (f:Int→Int×Int) (k:Int):Bool := !((M k.toNat).sign == 0) && ((f k).1 == 1)
theorem parts_sum {M:Nat→Mem} {f:Int→Int×Int} (P:List Int) (a b:Int) (hs:∀ k∈P,-1≤(M k.toNat).sign∧(M k.toNat).sign≤1) (hf:∀ k∈P,((f k).1=1∨((f k).1=0∧(f k).2=0))∧-3000000000≤(f k).2∧(f k).2≤3000000000) (hab:a=1∨(a=0∧b=0)) (h1 : -(1000000000000-3000000000*(P.length:Int))≤b) (h2:b≤1000000000000-3000000000*(P.length:Int)) :
  P.foldl (partStep M f) (a,b)=(if (decide (a=1) || P.any (someP M f))=true then 1 else 0,b+sumP (fun k=>(M k.toNat).sign*(f k).2) P):=by
 induction P generalizing a b with
 | nil =>
  simp only [List.foldl_nil,List.any_nil,Bool.or_false,sumP,Int.add_zero]
  rcases hab with rfl | ⟨rfl,rfl⟩ <;> simp
 | cons k r ih =>
  have hsk:=hs k (List.mem_cons_self ..)
  obtain ⟨hfk,hb1,hb2⟩:=hf k (List.mem_cons_self ..)
  have hs':=fun j hj=>hs j (List.mem_cons_of_mem k hj)
  have hf':=fun j hj=>hf j (List.mem_cons_of_mem k hj)
  simp only [List.length_cons] at h1 h2
  have hlen:(0:Int)≤(r.length:Int):=by omega
  rw [List.foldl_cons,List.any_cons,sumP]
  have e3:(M k.toNat).sign=1∨(M k.toNat).sign = -1∨(M k.toNat).sign=0:=by omega
  rcases e3 with e3 | e3 | e3
  ·have hst:partStep M f (a,b) k=(if (decide (a=1) || decide ((f k).1=1))=true then 1 else 0,b+(f k).2):=by
    unfold partStep
    rw [if_pos e3]
    show plusP a b (f k).1 (f k).2=_
    rcases hab with rfl | ⟨rfl,rfl⟩
    ·rcases hfk with hk | ⟨hk,hk2⟩
     ·rw [hk];unfold plusP joinP;rw [ofP_in (by omega) (by omega)];rfl
     ·rw [hk,hk2];unfold plusP joinP;rw [ofP_in (by omega) (by omega)];rfl
    ·rcases hfk with hk | ⟨hk,hk2⟩
     ·rw [hk];unfold plusP joinP;rw [ofP_in (by omega) (by omega)];rfl
     ·rw [hk,hk2];rfl
   rw [hst,ih _ _ hs' hf' ?_ (by omega) (by omega)]
   ·have hsp:someP M f k=decide ((f k).1=1):=by
     unfold someP
     rw [e3]
     simp
     rfl
    rw [hsp]
    refine Prod.ext ?_ (by simp only [e3];omega)
    simp only
    by_cases ha:a=1
    ·simp [ha]
    ·by_cases hk:(f k).1=1
     ·simp [hk]
     ·simp [ha,hk]
   ·rcases hab with rfl | ⟨rfl,rfl⟩
    ·left;simp
    ·rcases hfk with hk | ⟨hk,hk2⟩
     ·left;simp [hk]
     ·right;simp [hk,hk2]
  ·have hst:partStep M f (a,b) k=(if (decide (a=1) || decide ((f k).1=1))=true then 1 else 0,b-(f k).2):=by
    unfold partStep
    rw [if_neg (by omega),if_pos e3]
    show minusP a b (f k).1 (f k).2=_
    rcases hab with rfl | ⟨rfl,rfl⟩
    ·rcases hfk with hk | ⟨hk,hk2⟩
     ·rw [hk];unfold minusP joinP;rw [ofP_in (by omega) (by omega)];rfl
     ·rw [hk,hk2];unfold minusP joinP;rw [ofP_in (by omega) (by omega)];rfl
    ·rcases hfk with hk | ⟨hk,hk2⟩
     ·rw [hk];unfold minusP joinP;rw [ofP_in (by omega) (by omega)];rfl
     ·rw [hk,hk2];rfl
   rw [hst,ih _ _ hs' hf' ?_ (by omega) (by omega)]
   ·have hsp:someP M f k=decide ((f k).1=1):=by
     unfold someP
     rw [e3]
     simp
     rfl
    rw [hsp]
    refine Prod.ext ?_ (by simp only [e3];omega)
    simp only
    by_cases ha:a=1
    ·simp [ha]
    ·by_cases hk:(f k).1=1
     ·simp [hk]
     ·simp [ha,hk]
   ·rcases hab with rfl | ⟨rfl,rfl⟩
    ·left;simp
    ·rcases hfk with hk | ⟨hk,hk2⟩
     ·left;simp [hk]
     ·right;simp [hk,hk2]
  ·have hst:partStep M f (a,b) k=(a,b):=by
    unfold partStep
    rw [if_neg (by omega),if_neg (by omega)]
   rw [hst,ih _ _ hs' hf' hab (by omega) (by omega)]
   have hsp:someP M f k=false:=by
    unfold someP
    rw [e3]
    rfl
   rw [hsp,e3,Int.zero_mul,Int.zero_add,Bool.false_or]
section
variable {D:Nat→Dm} {n dim:Nat} {l:List En} (hE:Ens D n l) (hd:dim<n) {S:Nat→Bool} (hS:S dim=false)
def addS (S:Nat→Bool) (dim:Nat) (k:Nat):Bool:=S k || decide (k=dim)
include hE hd
theorem leaf_dim {e:En} (he:e∈l):∃ j:Nat,e.pl.getD dim 0=j∧j<(D dim).n∧leafB (D dim).mem (D dim).n j=true:=by
 obtain ⟨h1,h2,-⟩:=hE.each e he
 have h3:=h1.lo dim hd
 have h4:=h1.hi dim hd
 have h5:=leaf_each h2 dim hd
 refine ⟨(e.pl.getD dim 0).toNat,by omega,by omega,h5⟩
include hS
theorem gw_bare {e:En} (he:e∈l) {p:List Int} {m:Nat} (hm:m<(D dim).n) (hp:p.getD dim 0=m) (hP:partsOf (D dim).mem (D dim).n (m:Int)=[]):gwTo D (addS S dim) p e.pl n=gwTo D S p e.pl n:=by
 have ht:Tr (D dim).mem (D dim).n:=Tr.of ((allErr_right hE.right).2 dim hd)
 obtain ⟨j,hj,hjn,-⟩:=leaf_dim hE hd he
 refine gw_congr n fun k hk=>?_
 by_cases e1:k=dim
 ·subst e1
  unfold facS addS
  rw [hS,hp,hj]
  simp only [decide_true,Bool.or_true,if_true,Bool.false_eq_true,if_false]
  by_cases e2:m=j
  ·subst e2
   rw [if_pos rfl,weightOf,pathOf_cons ht hm,wgt_hit]
  ·rw [if_neg (by omega),weightOf,wgt_out]
   intro h
   obtain ⟨q,h1,h2⟩:=part_has ht (j+1) j hjn (by omega) (fun h=>e2 h.symm) h
   have:=sel_in h1 h2
   rw [show selTo (partB (D k).mem (m:Int)) (D k).n=[] from hP] at this
   cases this
 ·unfold facS addS
  simp [e1]
omit hS
theorem gw_parts {e:En} (he:e∈l) {p:List Int} {m:Nat} (hp:p.getD dim 0=m) (hP:partsOf (D dim).mem (D dim).n (m:Int)≠[]) (pk:Int→List Int) (hpk:∀ k,k∈partsOf (D dim).mem (D dim).n (m:Int)→(pk k).getD dim 0=k∧∀ i,i<n→i≠dim→(pk k).getD i 0=p.getD i 0) :
  gwTo D (addS S dim) p e.pl n=sumP (fun k=>((D dim).mem k.toNat).sign*gwTo D (addS S dim) (pk k) e.pl n) (partsOf (D dim).mem (D dim).n (m:Int)) ∧
  (gwTo D (addS S dim) p e.pl n≠0↔∃ k,k∈partsOf (D dim).mem (D dim).n (m:Int)∧((D dim).mem k.toNat).sign≠0∧gwTo D (addS S dim) (pk k) e.pl n≠0):=by
 have ht:Tr (D dim).mem (D dim).n:=Tr.of ((allErr_right hE.right).2 dim hd)
 obtain ⟨j,hj,hjn,hjl⟩:=leaf_dim hE hd he
 have hne:j≠m:=fun e=>hP (by rw [←e];exact leaf_parts hjl)
 have hfac:∀ q:List Int,facS D (addS S dim) q e.pl dim=weightOf (D dim).mem (q.getD dim 0) (j:Int):=fun q=>by unfold facS addS;rw [hj];simp
 have hw:∀ q:List Int,gwTo D (addS S dim) q e.pl n=grTo D (addS S dim) dim q e.pl n*weightOf (D dim).mem (q.getD dim 0) (j:Int):=fun q=>by rw [gw_split D (addS S dim) dim q e.pl n,if_pos hd,hfac]
 obtain ⟨c,hc⟩:∃ c,grTo D (addS S dim) dim p e.pl n=c:=⟨_,rfl⟩
 have hwk:∀ k,k∈partsOf (D dim).mem (D dim).n (m:Int)→gwTo D (addS S dim) (pk k) e.pl n=c*weightOf (D dim).mem k (j:Int):=fun k hk=>by
  obtain ⟨h1,h2⟩:=hpk k hk
  rw [hw,h1,←hc,gr_congr n h2]
 rw [hw,hp,hc]
 rcases part_cases ht hjn hne with ⟨h0,hz⟩ | ⟨k0,hk0,hp0,h0,hz⟩
 ·have hall:∀ k,k∈partsOf (D dim).mem (D dim).n (m:Int)→gwTo D (addS S dim) (pk k) e.pl n=0:=fun k hk=>by
   obtain ⟨q,rfl,hq,hpq⟩:=selTo_mem k hk
   rw [hwk _ hk,hz q hq hpq,Int.mul_zero]
  rw [h0,Int.mul_zero]
  refine ⟨(sumP_zero fun k hk=>by rw [hall k hk,Int.mul_zero]).symm,fun h=>absurd rfl h,fun ⟨k,hk,_,h⟩=>absurd (hall k hk) h⟩
 ·have hk0m:(k0:Int)∈partsOf (D dim).mem (D dim).n (m:Int):=sel_in hk0 hp0
  have hkz:∀ q,q<(D dim).n→partB (D dim).mem (m:Int) q=true→q≠k0→gwTo D (addS S dim) (pk (q:Int)) e.pl n=0:=fun q hq hpq hqn=>by rw [hwk _ (sel_in hq hpq),hz q hq hpq hqn,Int.mul_zero]
  have e1:c*weightOf (D dim).mem (m:Int) (j:Int)=((D dim).mem k0).sign*gwTo D (addS S dim) (pk (k0:Int)) e.pl n:=by rw [h0,hwk _ hk0m,←Int.mul_assoc,Int.mul_comm c,Int.mul_assoc]
  rw [e1]
  refine ⟨?_,fun h=>⟨k0,hk0m,fun h1=>h (by rw [show ((k0:Int)).toNat=k0 by omega] at h1;rw [h1,Int.zero_mul]),fun h1=>h (by rw [h1,Int.mul_zero])⟩,fun ⟨k,hk,hs,hg⟩=>?_⟩
  ·have:=sel_single (f:=fun k=>((D dim).mem k.toNat).sign*gwTo D (addS S dim) (pk k) e.pl n) (D dim).n hk0 hp0 fun q hq hpq hqn=>by rw [hkz q hq hpq hqn,Int.mul_zero]
   exact this.symm
  ·obtain ⟨q,rfl,hq,hpq⟩:=selTo_mem k hk
   by_cases e2:q=k0
   ·subst e2
    rw [show ((q:Int)).toNat=q by omega] at hs
    exact Int.mul_ne_zero hs hg
   ·exact absurd (hkz q hq hpq e2) hg
end
theorem gN_parts {D:Nat→Dm} {n:Nat} {S:Nat→Bool} {p:List Int} {P:List Int} {sg:Int→Int} {pk:Int→List Int}:∀ l:List En,(∀ e∈l,gwTo D S p e.pl n=sumP (fun k=>sg k*gwTo D S (pk k) e.pl n) P)→gN D n S p l=sumP (fun k=>sg k*gN D n S (pk k) l) P
 | [],_=>by
  rw [gN]
  exact (sumP_zero fun k _=>by rw [gN,Int.mul_zero]).symm
 | e :: r,h=>by
  rw [gN,gN_parts r fun x hx=>h x (List.mem_cons_of_mem _ hx),h e (List.mem_cons_self ..),←sumP_mul,←sumP_add]
  exact sumP_congr fun k _=>by rw [gN,Int.mul_add,Int.mul_assoc]
section
variable {D:Nat→Dm} {n dim:Nat} {l:List En} (hE:Ens D n l) (hd:dim<n) {S:Nat→Bool}
include hE hd
theorem gL_fix {m:Nat}:FixAt D n dim m (gL D n (addS S dim) l):=fun y hy hm hP=>by
 rw [gL_len] at hy
 have hR:=hE.right
 obtain ⟨-,-,hp3,hdn⟩:=allErr_some hR
 have hdk:=(allErr_right hR).2 dim hd
 have hpos:∀ i,i<n→1≤(D i).n:=fun i hi=>(hdn i hi).1
 have ht:=Tr.of hdk
 have hsg:=Sg.of hdk
 rw [gL_at hy]
 obtain ⟨pk,hpkd⟩:∃ pk:Int→List Int,pk=fun k=>placeL D n (((y:Int)+(k-(m:Int))*(stepD D n dim:Int)).toNat):=⟨_,rfl⟩
 have hat:∀ k,k∈partsOf (D dim).mem (D dim).n (m:Int)→atP D n dim m y (gL D n (addS S dim) l) k=gV D n (addS S dim) l (pk k)∧((pk k).getD dim 0=k∧∀ i,i<n→i≠dim→(pk k).getD i 0=(placeL D n y).getD i 0):=fun k hk=>by
  obtain ⟨j,rfl,h1,h2,-⟩:=part_behind ht hk
  obtain ⟨z,hz,hzl,hzd,hzo⟩:=part_place hpos hd hy hm h2
  have e:pk (j:Int)=placeL D n z:=by rw [hpkd];simp only;rw [hz];rfl
  rw [e]
  refine ⟨?_,?_,fun i hi hne=>?_⟩
  ·unfold atP cAt
   rw [hz]
   exact gL_at hzl
  ·rw [placeL_at hd,digit_step hd,hzd]
  ·rw [placeL_at hi,placeL_at hi,hzo i hi hne]
 have hpd:(placeL D n y).getD dim 0=(m:Int):=by rw [placeL_at hd,digit_step hd,hm]
 have hgp:=fun e he=>gw_parts (S:=S) hE hd (e:=e) he hpd hP pk fun k hk=>(hat k hk).2
 unfold partsV
 rw [parts_same (g:=fun k=>gV D n (addS S dim) l (pk k)) _ _ fun k hk=>(hat k hk).1]
 have hfew:=hE.few
 have hPl:(partsOf (D dim).mem (D dim).n (m:Int)).length≤12:=Nat.le_trans (selTo_len _ _) (hdn dim hd).2
 rw [parts_sum _ 0 0 (fun k hk=>by obtain ⟨j,rfl,-,h2,-⟩:=part_behind ht hk;exact hsg j h2) (fun k _=>by
  have hb:=gN_bound (D:=D) (n:=n) (addS S dim) (pk k) l hE.each
  refine ⟨?_,by unfold gV;simp only;omega,by unfold gV;simp only;omega⟩
  unfold gV
  simp only
  cases ha:l.any (gB D n (addS S dim) (pk k))
  ·right;exact ⟨by simp,gN_none ha⟩
  ·left;simp) (Or.inr ⟨rfl,rfl⟩) (by omega) (by omega)]
 unfold gV
 refine Prod.ext ?_ ?_
 ·simp only
  have:l.any (gB D n (addS S dim) (placeL D n y))=(decide ((0:Int)=1) || (partsOf (D dim).mem (D dim).n (m:Int)).any (someP (D dim).mem fun k=>(if l.any (gB D n (addS S dim) (pk k))=true then 1 else 0,gN D n (addS S dim) (pk k) l))):=by
   rw [show decide ((0:Int)=1)=false from rfl,Bool.false_or,Bool.eq_iff_iff,List.any_eq_true,List.any_eq_true]
   constructor
   ·rintro ⟨e,he,hb⟩
    have hb':gwTo D (addS S dim) (placeL D n y) e.pl n≠0:=by unfold gB at hb;simpa using hb
    obtain ⟨k,hk,hs,hg⟩:=(hgp e he).2.1 hb'
    refine ⟨k,hk,?_⟩
    unfold someP
    have:l.any (gB D n (addS S dim) (pk k))=true:=List.any_eq_true.2 ⟨e,he,by unfold gB;simpa using hg⟩
    simp [this,hs]
   ·rintro ⟨k,hk,hb⟩
    unfold someP at hb
    simp only [Bool.and_eq_true] at hb
    have hs:((D dim).mem k.toNat).sign≠0:=by simpa using hb.1
    have hany:l.any (gB D n (addS S dim) (pk k))=true:=by
     cases ha:l.any (gB D n (addS S dim) (pk k))
     ·rw [ha] at hb;simp at hb
     ·rfl
    obtain ⟨e,he,hg⟩:=List.any_eq_true.1 hany
    refine ⟨e,he,?_⟩
    have:=(hgp e he).2.2 ⟨k,hk,hs,by unfold gB at hg;simpa using hg⟩
    unfold gB
    simpa using this
  rw [this]
 ·simp only [Int.zero_add]
  exact gN_parts l fun e he=>(hgp e he).1
end
end Go.Proofs.YtnegjdcedhnjdaaGreatDoor
namespace Go.Proofs.YtnegjdcedhnjdaaGreatDoor
open Go Go.ChangeShapes Go.WideShapes Go.ChangeAt Go.RowKit Go.Deep
set_option maxRecDepth 100000
section
variable {H:Type} {enc:TypeId×Value→H} {w:World} {held:Bool}
theorem outline_cap {d:DataW H} {p:List MemPlace} {A0:Option Addr} {n cap:Nat} (h:DataW.Trod enc Tryz.prog w 0 (fun _=>true) held 24 (.agg #[.slice A0 n cap]) d p):n≤9223372036854775807:=by
 obtain ⟨fuel,hf⟩:=h
 obtain ⟨xs,k,_,hx,hl,hlen,hfs⟩:=DataW.trod_struct Tryz.underlying24 hf
 match xs,hlen with
 | [y],_ =>
  have h0:=hfs 0 _ rfl
  have h1:DataW.trod enc Tryz.prog w 0 (fun _=>true) held k 22 [.slice A0 n cap]=some y:=h0
  rcases open_slice Tryz.underlying22 h1 with ⟨e,-⟩ | ⟨a,len,cap',m,k,E,Pl,e,-,hl,hcm,-⟩
  ·simp at e
   omega
  ·simp at e
   obtain ⟨rfl,rfl,rfl⟩:=e
   unfold maxLen at hcm
   omega
end
end Go.Proofs.YtnegjdcedhnjdaaGreatDoor
