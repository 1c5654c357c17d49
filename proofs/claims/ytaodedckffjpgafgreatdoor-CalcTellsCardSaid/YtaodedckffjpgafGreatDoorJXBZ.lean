/-
  What the document's own Solve answers, in whatever memory: all cells, by number, each what is told at its place.
-/
import Derived.Test.YtaodedckffjpgafGreatDoorJXBX
import Derived.Test.YtaodedckffjpgafGreatDoorJXBY
namespace Go.Proofs.YtaodedckffjpgafGreatDoor
open Go.ChangeShapes Go.WideShapes Go.ChangeAt Go.RowKit
set_option maxRecDepth 20000
def okS (f:Nat→Bool) (R:List Int) (i u:Nat):Bool := !(f i) && (R.take u).all fun z=>f z.toNat
theorem okS_next {f:Nat→Bool} {R:List Int} {i u:Nat} (h:okS f R i u=true) (hu:u<R.length):okS f R i (u+1)=f (R.getD u 0).toNat:=by
 unfold okS at *
 rw [Bool.and_eq_true] at h
 rw [h.1,Bool.true_and,List.take_succ_eq_append_getElem hu,List.all_append,h.2,Bool.true_and,List.getD_eq_getElem?_getD,List.getElem?_eq_getElem hu]
 simp
theorem okS_yes {f:Nat→Bool} {R:List Int} {i:Nat} (h:okS f R i R.length=true):f i=false∧∀ z∈R,f z.toNat=true:=by
 unfold okS at h
 rw [Bool.and_eq_true,List.take_length,List.all_eq_true] at h
 exact ⟨by simpa using h.1,h.2⟩
theorem okS_no {f:Nat→Bool} {R:List Int} {i u:Nat} (h:okS f R i u=false):f i=false→∃ z∈R,f z.toNat=false:=by
 intro hf
 unfold okS at h
 rw [hf] at h
 simp only [Bool.not_false,Bool.true_and] at h
 rw [List.all_eq_false] at h
 obtain ⟨z,hz,hz2⟩:=h
 exact ⟨z,List.mem_of_mem_take hz,by simpa using hz2⟩
theorem stell_all (A0:Option Addr) (cap n:Nat) (D:Nat→Dm) (A:Nat→Option Addr) (C:Nat→Nat) (Ae:Option Addr) (ce:Nat) (xs:List EnL) (Ap:Option Addr) (cp:Nat) (Ac:Option Addr) (cc:Nat) (CL:List (Int×Int)) (i:Nat) (T:List Int) (w:World) (hE:(allErr D n).2.2=0) (hR:AllR D n) (hx:xs.length≤3000) (hS:Short xs (placeL D n i)) (hM:DimsV w A0 cap n D A C) (hEn:EnsV w Ae ce xs) (hP:PlAt w Ap cp (placeL D n i)) (hC:CelV w Ac cc CL) (hCL:CL.length=prodN D n) (hgd:goodL CL) (hT:ToldP D n (placeL D n i) T) (hc:∀ z∈T,CL.getD z.toNat noC=solV D n (getE (lE xs)) (placeL D n z.toNat)) :
  Calls Tryz.prog 37 #[.agg #[.slice A0 n cap],.slice Ae xs.length ce,.slice Ap (placeL D n i).length cp,.slice Ac CL.length cc] w fun e w'=>e=.returned (.agg #[.int .i64 (solV D n (getE (lE xs)) (placeL D n i)).1,.int .i64 (solV D n (getE (lE xs)) (placeL D n i)).2])∧Below w.heap.size w w':=by
 have hI:InO D n (placeL D n i):=placeL_in hE
 rcases by_in D (placeL D n i) n with h | ⟨b,hb,hbn⟩
 ·have h1:=stell_leaf A0 cap n D A C Ae ce xs Ap cp (placeL D n i) (.slice Ac CL.length cc) w hI hM hP hx hEn hS (by omega)
  rw [sol_leaf _ (by omega)]
  exact h1
 ·rw [sol_at hR hE (getE (lE xs)) (fun y=>CL.getD y noC) hT hc hb]
  by_cases hf:((D b).mem ((placeL D n i).getD b 0).toNat).formula.size=0
  ·exact stell_parts A0 cap n D A C _ Ap cp (placeL D n i) Ac cc CL b _ w hI hM hP hC hCL hgd hb rfl hf
  ·exact stell_form A0 cap n D A C _ Ap cp (placeL D n i) Ac cc CL b _ w hI hM hP hC hCL hgd hb rfl hR hf
def SInv (w1:World) (g gT N:Nat) (v:Nat→Int×Int) (L:List (Int×Int)) (f:Nat→Bool) (w:World):Prop:=CelB w g L∧L.length=N∧BolB w gT N f∧goodL L∧(∀ j,j<N→f j=true→L.getD j noC=v j)∧Below g w1 w
theorem SInv.later {w1 w w':World} {g gT N:Nat} {v:Nat→Int×Int} {L:List (Int×Int)} {f:Nat→Bool} (h:SInv w1 g gT N v L f w) (hB:Below w.heap.size w w'):SInv w1 g gT N v L f w':=by
 obtain ⟨h1,h2,h3,h4,h5,h6⟩:=h
 have hl:=h1.lt
 exact ⟨h1.later hB,h2,h3.later hB,h4,h5,⟨hB.os.trans h6.os,hB.tape.trans h6.tape,hB.output.trans h6.output,Nat.le_trans h6.size hB.size,fun i hi=>(hB.block i (by omega)).trans (h6.block i hi)⟩⟩
theorem SInv.put {w1 w:World} {g gT N:Nat} {v:Nat→Int×Int} {L:List (Int×Int)} {f:Nat→Bool} (h:SInv w1 g gT N v L f w) (hgT:g<gT) {i:Nat} {a b:Int} (hi:i<N) (hv:v i=(a,b)) (hgd:goodC (a,b)):SInv w1 g gT N v (L.set i (a,b)) (putF f i) (((w.setCell ⟨g,i*2,none⟩ (.int .i64 a)).setCell ⟨g,i*2+1,none⟩ (.int .i64 b)).setCell ⟨gT,i,none⟩ (.bool true)):=by
 obtain ⟨h1,h2,h3,h4,h5,h6⟩:=h
 refine ⟨(h1.set (by omega) a b).same (setCell_off _ _ _ _ _ (by omega)),by rw [List.length_set];exact h2,?_,goodL_set h4 i hgd,fun j hj hf=>?_,below_set (below_set (below_set h6 (Nat.le_refl _)) (Nat.le_refl _)) (by omega)⟩
 ·refine BolB.set (f:=f) ?_ fun j _=>rfl
  unfold BolB at h3 ⊢
  rw [setCell_off _ _ _ _ _ (by omega),setCell_off _ _ _ _ _ (by omega)]
  exact h3
 ·by_cases e:j=i
  ·subst e
   rw [List.getD_eq_getElem?_getD,List.getElem?_set_self (by omega)]
   exact hv.symm
  ·rw [List.getD_eq_getElem?_getD,List.getElem?_set_ne (fun h=>e h.symm),←List.getD_eq_getElem?_getD]
   exact h5 j hj (by simpa [putF,e] using hf)
def WaitP (ys:List RL) (f:Nat→Bool) (ag:Bool) (i:Nat):Prop:=ag=false→∀ j,j<i→f j=false→∃ z∈(ys.getD j noR).p,f z.toNat=false
theorem wait_true (ys:List RL) (f:Nat→Bool) (i:Nat):WaitP ys f true i:=fun h=>by cases h
set_option maxHeartbeats 16000000 in
theorem ssolve_any (A0:Option Addr) (cap n:Nat) (D:Nat→Dm) (A:Nat→Option Addr) (C:Nat→Nat) (Ae:Option Addr) (ce:Nat) (xs:List EnL) (w:World) (hE:(allErr D n).2.2=0) (hR:AllR D n) (hEs:Ens D n (lE xs)) (hM:DimsV w A0 cap n D A C) (hEn:EnsV w Ae ce xs) :
  Calls Tryz.prog 16 #[.agg #[.slice A0 n cap],.slice Ae xs.length ce] w fun e w'=>(∃ g L,e=.returned (.slice (some ⟨g,0,none⟩) (prodN D n) (prodN D n))∧L.length=prodN D n∧CelB w' g L∧∀ j,j<prodN D n→L.getD j noC=solV D n (getE (lE xs)) (placeL D n j))∧Below w.heap.size w w':=by
 obtain ⟨hn1,hn4,hp3,hd⟩:=allErr_some hE
 have hfew:xs.length≤3000:=by have:=hEs.few;rw [lE_len] at this;exact this
 have HSh:Hid (∀ x,Short xs (placeL D n x)):=fun x=>⟨fun k hk=>by
  have hmem:(xs.getD k noL).e∈lE xs:=List.mem_map.2 ⟨_,enl_mem hk,rfl⟩
  have:=(hEs.each _ hmem).1.len
  omega,by rw [placeL_len];omega⟩
 have hB0:=ownOut_below w A0 n cap 42
 have hS:=ownOut_size w A0 n cap 42
 have hA:=ownOut_at w A0 n cap 42
 obtain ⟨W,hW⟩:∃ W,ownOut w A0 n cap 42=W:=⟨_,rfl⟩
 rw [hW] at hB0 hS hA
 unfold ownOut at hW
 have hall:=salltold_any A0 cap n D A C W hR hE (hM.later hB0)
 have HB0:Hid (Below w.heap.size w W):=hB0
 have HM:Hid (DimsV w A0 cap n D A C):=hM
 have HEn:Hid (EnsV w Ae ce xs):=hEn
 have HR:Hid (AllR D n):=hR
 have HE:Hid ((allErr D n).2.2=0):=hE
 have HEs:Hid (Ens D n (lE xs)):=hEs
 have HA:Hid (W.cell? ⟨w.heap.size,0,none⟩=some (.slice A0 n cap)):=hA
 have hsz:w.heap.size<W.heap.size:=by omega
 have hnI:(n:Int)≤4:=by omega
 obtain ⟨N,hN⟩:∃ N,prodN D n=N:=⟨_,rfl⟩
 have HN:Hid (prodN D n=N):=hN
 obtain ⟨v,hv⟩:∃ v:Nat→Int×Int,v=fun j=>solV D n (getE (lE xs)) (placeL D n j):=⟨_,rfl⟩
 have HV:Hid (∀ j,v j=solV D n (getE (lE xs)) (placeL D n j)):=fun j=>by rw [hv]
 have HVg:Hid (∀ j,goodC (v j)):=fun j=>by rw [hv];exact good_sol hR (good_getE hEs) _ _ (placeL_in hE) (Nat.lt_succ_self _)
 rw [hN] at hall hp3
 have hNI:(N:Int)≤3000:=by omega
 have hmk:=run_make_cells N hp3
 have hmb:=run_make_bols N hp3
 have HXf:Hid (xs.length≤3000):=hfew
 obtain ⟨xl,hxl⟩:∃ xl,xs.length=xl:=⟨_,rfl⟩
 have HXl:Hid (xs.length=xl):=hxl
 rw [hxl]
 clear hE hR hEs hM hEn hB0 hS hfew hxl hv hN hd
 go_enter Tryz.func16,Tryz.ntmps16
 go_wp2_with fail
 refine hall.mono ?_
 rintro e w1 ⟨⟨A1,c1,ys,rfl,hyl,hY,hT⟩,hb1⟩
 have HB1:Hid (Below w.heap.size w w1):=onB HB0.out hb1
 have HY:Hid (RowsV w1 A1 c1 ys):=hY
 have HT:Hid (∀ i,i<N→ToldP D n (placeL D n i) (ys.getD i noR).p):=hT
 have HYl:Hid (ys.length=N):=hyl
 have HCo:Hid (w1.cell? ⟨w.heap.size,0,none⟩=some (.slice A0 n cap)):=(hb1.cell (p:=⟨w.heap.size,0,none⟩) hsz).trans HA.out
 have hsz1:w.heap.size<w1.heap.size:=Nat.lt_of_lt_of_le hsz hb1.size
 have HIn:Hid (∀ i,i<N→∀ z∈(ys.getD i noR).p,∃ j:Nat,z=(j:Int)∧j<N):=fun i hi z hz=>by
  obtain ⟨j,h1,h2,-⟩:=told_less HR.out HE.out (hT i hi) hz
  exact ⟨j,h1,by rw [←HN.out];exact h2⟩
 have HNone:Hid (∀ f:Nat→Bool,(∀ i,i<N→f i=false→∃ z∈(ys.getD i noR).p,f z.toNat=false)→∀ i,i<N→f i=true):=fun f h i hi=>none_waits HR.out HE.out (fun i=>(ys.getD i noR).p) (fun j hj=>hT j (by rw [←HN.out];exact hj)) f (fun j hj hf=>h j (by rw [←HN.out];exact hj) hf) i (by rw [HN.out];exact hi)
 obtain ⟨y1,hy1⟩:∃ y,w1.alloc (.cells (madeCells #[.int .i64 0,.int .i64 0] (N*2)) 48)=y:=⟨_,rfl⟩
 have hBy1:Below w1.heap.size w1 y1:=by rw [←hy1];go_grown
 have hCy1:CelB y1 w1.heap.size (List.replicate N (0,0)):=by rw [←hy1];exact celB_made w1 N
 have hs1:y1.heap.size=w1.heap.size+1:=by rw [←hy1];simp
 obtain ⟨y2,hy2⟩:∃ y,y1.alloc (.cells (madeCells #[.bool false] N) 4)=y:=⟨_,rfl⟩
 have hBy2:Below y1.heap.size y1 y2:=by rw [←hy2];go_grown
 have hTy2:BolB y2 y1.heap.size N fun _=>false:=by rw [←hy2];exact BolB.made y1 N
 have HI0:Hid (SInv w1 w1.heap.size y1.heap.size N v (List.replicate N (0,0)) (fun _=>false) y2):=by
  refine ⟨hCy1.later hBy2,by simp,hTy2,fun c hc=>?_,fun j _ h=>(by cases h),onB hBy1 hBy2⟩
  rw [(List.mem_replicate.1 hc).2]
  exact good_zero
 have hgT:w1.heap.size<y1.heap.size:=by omega
 clear hall hb1 hyl hY hT hBy1 hCy1 hBy2 hTy2 hs1 hA hW
 go_wp2_with fail
 clear hmk hmb hy1 hy2
 go_loopg [8] (muF (fun _=>false) true N) (fun gg s8 wr => ∃ (ag:Bool) (L:List (Int×Int)) (f:Nat→Bool),gg=muF f ag N∧s8=.bool ag∧Hid (SInv w1 w1.heap.size y1.heap.size N v L f wr)∧Hid (WaitP ys f ag N))
 case atStart=>exact ⟨true,_,_,rfl,rfl,HI0,wait_true _ _ _⟩
 case round =>
  obtain ⟨ag,L,f,rfl,rfl,HI,HWt⟩:=hrel
  cases ag
  ·have HAll:Hid (∀ i,i<N→f i=true):=HNone.out f (HWt.out rfl)
   go_wp2_with fail
   go_ret
   refine ⟨⟨w1.heap.size,L,by rw [HN.out];rfl,by rw [HN.out];exact HI.out.2.1,HI.out.1,fun j hj=>?_⟩,?_⟩
   ·rw [HN.out] at hj
    rw [HI.out.2.2.2.2.1 j hj (HAll.out j hj)]
    exact HV.out j
   ·exact onB HB1.out HI.out.2.2.2.2.2
  ·go_wp2_with fail
   go_loopg [8,9] N (fun gg s8 s9 wi => ∃ (i:Nat) (ag:Bool) (L':List (Int×Int)) (f':Nat→Bool),i≤N∧gg=N-i∧s8=.bool ag∧s9=.int .i64 i∧Hid (SInv w1 w1.heap.size y1.heap.size N v L' f' wi)∧Hid (WaitP ys f' ag i)∧Hid (PassP N f f' ag))
   case atStart=>exact ⟨0,false,L,f,Nat.zero_le _,rfl,rfl,rfl,HI,(fun _ j hj=>absurd hj (Nat.not_lt_zero _):WaitP ys f false 0),(⟨fun h=>(by cases h),fun _=>rfl⟩:PassP N f f false)⟩
   case round =>
    obtain ⟨wi,rfl⟩:∃ wi:World,wi=wr:=⟨_,rfl⟩
    obtain ⟨i,ag,L',f',hi,rfl,rfl,rfl,HI',HWt',HPs⟩:=hrel
    by_cases hlt:i<N
    ·have hii:(i:Int)<(N:Int):=by omega
     have hBi:=HI'.out.2.2.2.2.2
     obtain ⟨hcap,h0 | ⟨b,rfl,hbw,hcl⟩,hrw⟩:=HY.out.later hBi
     ·have:=HYl.out;rw [h0] at this;simp at this;omega
     have cj:=hcl i (by rw [HYl.out];exact hlt)
     have hrj:=hrw _ (rl_mem (k:=i) (by rw [HYl.out];exact hlt))
     rw [HYl.out] at hcap
     have hcapI:(N:Int)≤(c1:Int):=by omega
     have hT12:=(HT.out i hlt).2.1
     have hIz:=HIn.out i hlt
     obtain ⟨R,hRe⟩:∃ R,(ys.getD i noR).p=R:=⟨_,rfl⟩
     have HRe:Hid ((ys.getD i noR).p=R):=hRe
     rw [hRe] at cj hrj hT12 hIz
     have HIz:Hid (∀ z∈R,∃ j:Nat,z=(j:Int)∧j<N):=hIz
     generalize (ys.getD i noR).A=Aj at cj hrj
     generalize (ys.getD i noR).c=cjj at cj hrj
     have HTj:Hid (IntT wi Aj cjj R):=hrj
     obtain ⟨r,hr⟩:∃ r,R.length=r:=⟨_,rfl⟩
     have HRr:Hid (R.length=r):=hr
     rw [hr] at cj hT12
     have hrI:(r:Int)≤12:=by omega
     have cg:=HI'.out.2.2.1.cell hlt
     have hgl:=HI'.out.2.2.1.lt
     have HOk0:Hid (okS f' R i 0 = !f' i):=by show _=_;unfold okS;simp
     generalize f' i=ij at cg HOk0
     clear hcl hrw hrj hRe hIz hr hBi
     go_wp2_with fail
     go_loopg [10,11] r (fun gg s10 s11 wk => ∃ (u:Nat) (ok:Bool),u≤r∧gg=r-u∧s10=.bool ok∧s11=.int .i64 u∧Hid (okS f' R i u=ok)∧wk=wi)
     case atStart=>exact ⟨0,_,Nat.zero_le _,rfl,rfl,rfl,HOk0,rfl⟩
     case round =>
      obtain ⟨u,ok,hu,rfl,rfl,rfl,HU,hwk⟩:=hrel
      have hwk2:wi=wr:=hwk.symm
      clear hwk
      subst hwk2
      cases ok
      ·have HNo:Hid (f' i=false→∃ z∈(ys.getD i noR).p,f' z.toNat=false):=fun h=>by rw [HRe.out];exact okS_no HU.out h
       have HWn:Hid (WaitP ys f' ag (i+1)):=fun ha j hj hf=>by
        by_cases e:j=i
        ·subst e;exact HNo.out hf
        ·exact HWt'.out ha j (by omega) hf
       by_cases hul:u<r
       ·have hui:(u:Int)<(r:Int):=by omega
        go_wp2_with fail
        go_roundg (N-(i+1))
        case measure=>omega
        case rel=>exact ⟨i+1,ag,L',f',by omega,rfl,rfl,by go_num,HI',HWn,HPs⟩
       ·have hue:u=r:=by omega
        subst hue
        go_wp2_with fail
        go_roundg (N-(i+1))
        case measure=>omega
        case rel=>exact ⟨i+1,ag,L',f',by omega,rfl,rfl,by go_num,HI',HWn,HPs⟩
      ·by_cases hul:u<r
       ·have hui:(u:Int)<(r:Int):=by omega
        obtain ⟨hcR,-,hR0 | ⟨br,cs,fr,rfl,hbr,hcr⟩⟩:=HTj.out
        ·have:=HRr.out;rw [hR0] at this;simp at this;omega
        have cu:=hcr u (by rw [HRr.out];exact hul)
        rw [HRr.out] at hcR
        have hcRi:(r:Int)≤(cjj:Int):=by omega
        have hbrl:br<wi.heap.size:=(Array.getElem?_eq_some_iff.1 hbr).1
        have HNx:Hid (okS f' R i (u+1)=f' (R.getD u 0).toNat):=okS_next HU.out (by rw [HRr.out];exact hul)
        obtain ⟨z,hz,hzn⟩:=HIz.out (R.getD u 0) (mem_at (by rw [HRr.out];exact hul))
        rw [hz] at cu HNx
        rw [Int.toNat_natCast] at HNx
        have hzI:(z:Int)<(N:Int):=by omega
        have cz:=HI'.out.2.2.1.cell hzn
        generalize f' z=zb at cz HNx
        clear hcr hbr hz
        go_wp2_with fail
        go_roundg (r-(u+1))
        case measure=>omega
        case rel=>exact ⟨u+1,zb,by omega,rfl,rfl,by go_num,HNx,rfl⟩
       ·have hue:u=r:=by omega
        subst hue
        have hyes:f' i=false∧∀ z∈R,f' z.toNat=true:=okS_yes (by rw [HRr.out];exact HU.out)
        have HFi:Hid (f' i=false):=hyes.1
        have HRd:Hid (∀ z∈R,L'.getD z.toNat noC=solV D n (getE (lE xs)) (placeL D n z.toNat)):=fun z hz=>by
         obtain ⟨j,rfl,hj⟩:=HIz.out z hz
         rw [Int.toNat_natCast]
         have h:=HI'.out.2.2.2.2.1 j hj (by have:=hyes.2 _ hz;rwa [Int.toNat_natCast] at this)
         rw [h]
         exact HV.out j
        have hBi:=onB HB1.out HI'.out.2.2.2.2.2
        have HBi:Hid (Below w.heap.size w wi):=hBi
        have HAtc:Hid (∀ w',Below wi.heap.size wi w'→Calls Tryz.prog 24 #[.agg #[.slice A0 n cap],.int .i64 i] w' fun e w''=>(∃ A' c',e=.returned (.slice A' n c')∧PlAt w'' A' c' (placeL D n i))∧Below w'.heap.size w' w''):=fun w' hw'=>by
         have h:=rat_any A0 cap n D A C i w' HE.out (by rw [HN.out];exact hlt) (HM.out.later (onB HBi.out hw'))
         rw [placeL_len] at h
         exact h
        obtain ⟨⟨ra,rb⟩,hRv⟩:∃ q,v i=q:=⟨_,rfl⟩
        have HRv:Hid (v i=(ra,rb)):=hRv
        have HTl:Hid (∀ w' A' c',Below wi.heap.size wi w'→PlAt w' A' c' (placeL D n i)→Calls Tryz.prog 37 #[.agg #[.slice A0 n cap],.slice Ae xl ce,.slice A' n c',.slice (some ⟨w1.heap.size,0,none⟩) N N] w' fun e w''=>e=.returned (.agg #[.int .i64 ra,.int .i64 rb])∧Below w'.heap.size w' w''):=fun w' A' c' hw' hp=>by
         have hS':=HI'.out.later hw'
         have h:=stell_all A0 cap n D A C Ae ce xs A' c' (some ⟨w1.heap.size,0,none⟩) N L' i (ys.getD i noR).p w' HE.out HR.out HXf.out (HSh.out i) (HM.out.later (onB HBi.out hw')) (HEn.out.later (onB HBi.out hw')) hp ⟨by rw [hS'.2.1];exact Nat.le_refl _,by omega,Or.inr ⟨_,0,rfl,hS'.1.celAt⟩⟩ (by rw [hS'.2.1];exact HN.out.symm) hS'.2.2.2.1 (HT.out i hlt) (by rw [HRe.out];exact HRd.out)
         rw [←HV.out i,HRv.out,placeL_len,HXl.out,hS'.2.1] at h
         exact h
        have co:wi.cell? ⟨w.heap.size,0,none⟩=some (.slice A0 n cap):=(HI'.out.2.2.2.2.2.cell (p:=⟨w.heap.size,0,none⟩) hsz1).trans HCo.out
        have hswi:w.heap.size<wi.heap.size:=Nat.lt_of_lt_of_le hsz1 HI'.out.2.2.2.2.2.size
        have HKp:Hid (∀ w',Below wi.heap.size wi w'→Below wi.heap.size wi w'∧w'.cell? ⟨w.heap.size,0,none⟩=some (.slice A0 n cap)):=fun w' h=>⟨h,(h.cell (p:=⟨w.heap.size,0,none⟩) hswi).trans co⟩
        clear hyes hBi hRv
        go_upto_region 16 with fail
        go_cut [12] from 22 to 69 (fun s12 wx => ∃ q,s12=.pointer (some ⟨q,0,none⟩)∧At q ra rb wx∧Below wi.heap.size wi wx)
        case first =>
         go_region_held3 (fun w'=>Below wi.heap.size wi w'∧w'.cell? ⟨w.heap.size,0,none⟩=some (.slice A0 n cap))
          ((refine HKp.out _ ?_;go_grown;done))
          (first | (go_at_call 24;refine (HAtc.out _ (by go_grown)).mono ?_;rintro e w6 ⟨⟨A6,c6,rfl,hP6⟩,hb6⟩;have hN6:=onB (W0:=wi) (by go_grown) hb6;have HP6:Hid (PlAt w6 A6 c6 (placeL D n i)):=hP6;have hy6:=hN6.size;obtain ⟨hc6,hf6⟩:=bcell hb6;have hz6:=bsize hb6;(try simp [Nat.add_one_le_iff] at hz6);clear hb6 hP6) | (go_at_call 37;refine (HTl.out _ _ _ (by go_grown) (HP6.out.later (by go_grown))).mono ?_;rintro e w7 ⟨rfl,hb7⟩;have hN7:=onB (W0:=wi) (by go_grown) hb7;have hy7:=hN7.size;obtain ⟨hc7,hf7⟩:=bcell hb7;have hz7:=bsize hb7;(try simp [Nat.add_one_le_iff] at hz7);(try have ha7:wi.heap.size<w7.heap.size:=by omega);clear hb7))
         all_goals go_wp2_with fail
         all_goals go_meet
         all_goals
          refine ⟨_,rfl,?_,by go_grown⟩
          first
           | exact At.new _ _ _ _
           | (refine At.set (u:=.int .i64 0) (v:=.int .i64 0) (by omega) ?_ ?_ <;> (rw [hc7 _ _ (by simp)];simp;done))
           | (refine At.set (u:=.int .i64 0) (v:=.int .i64 0) (by omega) ?_ ?_ <;> (rw [hc7 _ _ (by omega),hc6 _ _ (by simp)];simp;done))
        case rest =>
        obtain ⟨q,rfl,⟨hql,p0,p1⟩,hBc⟩:=hcut
        obtain ⟨w9,rfl⟩:∃ w9:World,w9=wc:=⟨_,rfl⟩
        have HI9:Hid (SInv w1 w1.heap.size y1.heap.size N v L' f' w9):=HI'.out.later hBc
        obtain ⟨z0,z1⟩:=HI9.out.1.at (k:=i) (by rw [HI9.out.2.1];exact hlt)
        have z2:=HI9.out.2.2.1.cell hlt
        have x0:=HI9.out.1.frozen (i*2)
        have x1:=HI9.out.1.frozen (i*2+1)
        have x2:=HI9.out.2.2.1.frozen i
        have hl1:=HI9.out.1.lt
        have hl2:=HI9.out.2.2.1.lt
        have HIx:Hid (SInv w1 w1.heap.size y1.heap.size N v (L'.set i (ra,rb)) (putF f' i) (((w9.setCell ⟨w1.heap.size,i*2,none⟩ (.int .i64 ra)).setCell ⟨w1.heap.size,i*2+1,none⟩ (.int .i64 rb)).setCell ⟨y1.heap.size,i,none⟩ (.bool true))):=HI9.out.put hgT hlt HRv.out (by have:=HVg.out i;rw [HRv.out] at this;exact this)
        have HPx:Hid (PassP N f (putF f' i) true):=pass_put HPs.out hlt HFi.out
        clear hBc cj cg
        go_wp2_with fail
        go_roundg (N-(i+1))
        case measure=>omega
        case rel=>exact ⟨i+1,true,_,_,by omega,rfl,rfl,by go_num,HIx,wait_true _ _ _,HPx⟩
    ·have hie:i=N:=by omega
     subst hie
     have HMu:Hid (muF f' ag i<muF f true i):=by
      show _<_
      unfold muF
      cases ag with
      | true=>have:=HPs.out.1 rfl;simp;omega
      | false=>rw [HPs.out.2 rfl];simp
     go_wp2_with fail
     go_roundg (muF f' ag i)
     case measure=>exact HMu.out
     case rel=>exact ⟨ag,L',f',rfl,rfl,HI',HWt'⟩
end Go.Proofs.YtaodedckffjpgafGreatDoor
