/-
  What the document's own Solve answers, in whatever memory: all cells, by number, each what is told at its place.
-/
import Derived.Test.YtigkeokacagabafGreatDoorJYBO
import Derived.Test.YtigkeokacagabafGreatDoorJYBQ
import Derived.Test.YtigkeokacagabafGreatDoorJYBR
namespace Go.Proofs.YtigkeokacagabafGreatDoor
open Go.ChangeShapes Go.WideShapes Go.ChangeAt Go.RowKit
set_option maxRecDepth 20000
def okS (f:Nat→Bool) (R:List Int) (i u:Nat):Bool := !(f i) && (R.take u).all fun z=>f z.toNat
theorem okS_next {f:Nat→Bool} {R:List Int} {i u:Nat} (h:okS f R i u=true) (hu:u<R.length):okS f R i (u+1)=f (R.getD u 0).toNat:=by
 unfold okS at *
 rw [Bool.and_eq_true] at h
 rw [h.1,Bool.true_and,List.take_succ_eq_append_getElem hu,List.all_append,h.2,Bool.true_and,List.getD_eq_getElem?_getD,List.getElem?_eq_getElem hu]
 simp
theorem okS_yes {f:Nat→Bool} {R:List Int} {i:Nat} (h:okS f R i R.length=true):f i=false∧∀ z∈R,f z.toNat=true:=by
 unfold okS at h
 rw [Bool.and_eq_true,List.take_length,List.all_eq_true] at h
 exact ⟨by simpa using h.1,h.2⟩
theorem okS_no {f:Nat→Bool} {R:List Int} {i u:Nat} (h:okS f R i u=false):f i=false→∃ z∈R,f z.toNat=false:=by
 intro hf
 unfold okS at h
 rw [hf] at h
 simp only [Bool.not_false,Bool.true_and] at h
 rw [List.all_eq_false] at h
 obtain ⟨z,hz,hz2⟩:=h
 exact ⟨z,List.mem_of_mem_take hz,by simpa using hz2⟩
theorem stell_all (A0:Option Addr) (cap n:Nat) (D:Nat→Dm) (A:Nat→Option Addr) (C:Nat→Nat) (Ae:Option Addr) (ce:Nat) (xs:List EnL) (Ap:Option Addr) (cp:Nat) (Ac:Option Addr) (cc:Nat) (CL:List (Int×Int)) (i:Nat) (T:List Int) (w:World) (hE:(allErr D n).2.2=0) (hR:AllR D n) (hx:xs.length≤3000) (hS:Short xs (placeL D n i)) (hM:DimsV w A0 cap n D A C) (hEn:EnsV w Ae ce xs) (hP:PlAt w Ap cp (placeL D n i)) (hC:CelV w Ac cc CL) (hCL:CL.length=prodN D n) (hgd:goodL CL) (hT:ToldP D n (placeL D n i) T) (hc:∀ z∈T,CL.getD z.toNat noC=solV D n (getE (lE xs)) (placeL D n z.toNat)) :
  Calls Tryz.prog 37 #[.agg #[.slice A0 n cap],.slice Ae xs.length ce,.slice Ap (placeL D n i).length cp,.slice Ac CL.length cc] w fun e w'=>e=.returned (.agg #[.int .i64 (solV D n (getE (lE xs)) (placeL D n i)).1,.int .i64 (solV D n (getE (lE xs)) (placeL D n i)).2])∧Below w.heap.size w w':=by
 have hI:InO D n (placeL D n i):=placeL_in hE
 rcases by_in D (placeL D n i) n with h | ⟨b,hb,hbn⟩
 ·have h1:=stell_leaf A0 cap n D A C Ae ce xs Ap cp (placeL D n i) (.slice Ac CL.length cc) w hI hM hP hx hEn hS (by omega)
  rw [sol_leaf _ (by omega)]
  exact h1
 ·rw [sol_at hR hE (getE (lE xs)) (fun y=>CL.getD y noC) hT hc hb]
  by_cases hf:((D b).mem ((placeL D n i).getD b 0).toNat).formula.size=0
  ·exact stell_parts A0 cap n D A C _ Ap cp (placeL D n i) Ac cc CL b _ w hI hM hP hC hCL hgd hb rfl hf
  ·exact stell_form A0 cap n D A C _ Ap cp (placeL D n i) Ac cc CL b _ w hI hM hP hC hCL hgd hb rfl hR hf
def SInv (w1:World) (g gT N:Nat) (v:Nat→Int×Int) (L:List (Int×Int)) (f:Nat→Bool) (w:World):Prop:=CelB w g L∧L.length=N∧BolB w gT N f∧goodL L∧(∀ j,j<N→f j=true→L.getD j noC=v j)∧Below g w1 w
theorem SInv.later {w1 w w':World} {g gT N:Nat} {v:Nat→Int×Int} {L:List (Int×Int)} {f:Nat→Bool} (h:SInv w1 g gT N v L f w) (hB:Below w.heap.size w w'):SInv w1 g gT N v L f w':=by
 obtain ⟨h1,h2,h3,h4,h5,h6⟩:=h
 have hl:=h1.lt
 exact ⟨h1.later hB,h2,h3.later hB,h4,h5,⟨hB.os.trans h6.os,hB.tape.trans h6.tape,hB.output.trans h6.output,Nat.le_trans h6.size hB.size,fun i hi=>(hB.block i (by omega)).trans (h6.block i hi)⟩⟩
theorem SInv.put {w1 w:World} {g gT N:Nat} {v:Nat→Int×Int} {L:List (Int×Int)} {f:Nat→Bool} (h:SInv w1 g gT N v L f w) (hgT:g<gT) {i:Nat} {a b:Int} (hi:i<N) (hv:v i=(a,b)) (hgd:goodC (a,b)):SInv w1 g gT N v (L.set i (a,b)) (putF f i) (((w.setCell ⟨g,i*2,none⟩ (.int .i64 a)).setCell ⟨g,i*2+1,none⟩ (.int .i64 b)).setCell ⟨gT,i,none⟩ (.bool true)):=by
 obtain ⟨h1,h2,h3,h4,h5,h6⟩:=h
 refine ⟨(h1.set (by omega) a b).same (setCell_off _ _ _ _ _ (by omega)),by rw [List.length_set];exact h2,?_,goodL_set h4 i hgd,fun j hj hf=>?_,below_set (below_set (below_set h6 (Nat.le_refl _)) (Nat.le_refl _)) (by omega)⟩
 ·refine BolB.set (f:=f) ?_ fun j _=>rfl
  unfold BolB at h3 ⊢
  rw [setCell_off _ _ _ _ _ (by omega),setCell_off _ _ _ _ _ (by omega)]
  exact h3
 ·by_cases e:j=i
  ·subst e
   rw [List.getD_eq_getElem?_getD,List.getElem?_set_self (by omega)]
   exact hv.symm
  ·rw [List.getD_eq_getElem?_getD,List.getElem?_set_ne (fun h=>e h.symm),←List.getD_eq_getElem?_getD]
   exact h5 j hj (by simpa [putF,e] using hf)
def WaitP (ys:List RL) (f:Nat→Bool) (ag:Bool) (i:Nat):Prop:=ag=false→∀ j,j<i→f j=false→∃ z∈(ys.getD j noR).p,f z.toNat=false
theorem wait_true (ys:List RL) (f:Nat→Bool) (i:Nat):WaitP ys f true i:=fun h=>by cases h
set_option maxHeartbeats 16000000 in
theorem ssolve_any (A0:Option Addr) (cap n:Nat) (D:Nat→Dm) (A:Nat→Option Addr) (C:Nat→Nat) (Ae:Option Addr) (ce:Nat) (xs:List EnL) (w:World) (hE:(allErr D n).2.2=0) (hR:AllR D n) (hEs:Ens D n (lE xs)) (hM:DimsV w A0 cap n D A C) (hEn:EnsV w Ae ce xs) :
  Calls Tryz.prog 16 #[.agg #[.slice A0 n cap],.slice Ae xs.length ce] w fun e w'=>(∃ g L,e=.returned (.slice (some ⟨g,0,none⟩) (prodN D n) (prodN D n))∧L.length=prodN D n∧CelB w' g L∧∀ j,j<prodN D n→L.getD j noC=solV D n (getE (lE xs)) (placeL D n j))∧Below w.heap.size w w':=by
 obtain ⟨hn1,hn4,hp3,hd⟩:=allErr_some hE
 have hfew:xs.length≤3000:=by have:=hEs.few;rw [lE_len] at this;exact this
 have HSh:Hid (∀ x,Short xs (placeL D n x)):=fun x=>⟨fun k hk=>by
  have hmem:(xs.getD k noL).e∈lE xs:=List.mem_map.2 ⟨_,enl_mem hk,rfl⟩
  have:=(hEs.each _ hmem).1.len
  omega,by rw [placeL_len];omega⟩
 have hB0:=ownOut_below w A0 n cap 42
 have hS:=ownOut_size w A0 n cap 42
 have hA:=ownOut_at w A0 n cap 42
 obtain ⟨W,hW⟩:∃ W,ownOut w A0 n cap 42=W:=⟨_,rfl⟩
 rw [hW] at hB0 hS hA
 unfold ownOut at hW
 have hall:=salltold_any A0 cap n D A C W hR hE (hM.later hB0)
 have HB0:Hid (Below w.heap.size w W):=hB0
 have HM:Hid (DimsV w A0 cap n D A C):=hM
 have HEn:Hid (EnsV w Ae ce xs):=hEn
 have HR:Hid (AllR D n):=hR
 have HE:Hid ((allErr D n).2.2=0):=hE
 have HEs:Hid (Ens D n (lE xs)):=hEs
 have HA:Hid (W.cell? ⟨w.heap.size,0,none⟩=some (.slice A0 n cap)):=hA
 have hsz:w.heap.size<W.heap.size:=by omega
 have hnI:(n:Int)≤4:=by omega
 obtain ⟨N,hN⟩:∃ N,prodN D n=N:=⟨_,rfl⟩
 have HN:Hid (prodN D n=N):=hN
 obtain ⟨v,hv⟩:∃ v:Nat→Int×Int,v=fun j=>solV D n (getE (lE xs)) (placeL D n j):=⟨_,rfl⟩
 have HV:Hid (∀ j,v j=solV D n (getE (lE xs)) (placeL D n j)):=fun j=>by rw [hv]
 have HVg:Hid (∀ j,goodC (v j)):=fun j=>by rw [hv];exact good_sol hR (good_getE hEs) _ _ (placeL_in hE) (Nat.lt_succ_self _)
 rw [hN] at hall hp3
 have hNI:(N:Int)≤3000:=by omega
 have hmk:=run_make_cells N hp3
 have hmb:=run_make_bols N hp3
 have HXf:Hid (xs.length≤3000):=hfew
 obtain ⟨xl,hxl⟩:∃ xl,xs.length=xl:=⟨_,rfl⟩
 have HXl:Hid (xs.length=xl):=hxl
 rw [hxl]
 clear hE hR hEs hM hEn hB0 hS hfew hxl hv hN hd
 go_enter Tryz.func16,Tryz.ntmps16
 go_wp2_with fail
 refine hall.mono ?_
 rintro e w1 ⟨⟨A1,c1,ys,rfl,hyl,hY,hT⟩,hb1⟩
 have HB1:Hid (Below w.heap.size w w1):=onB HB0.out hb1
 have HY:Hid (RowsV w1 A1 c1 ys):=hY
 have HT:Hid (∀ i,i<N→ToldP D n (placeL D n i) (ys.getD i noR).p):=hT
 have HYl:Hid (ys.length=N):=hyl
 have HCo:Hid (w1.cell? ⟨w.heap.size,0,none⟩=some (.slice A0 n cap)):=(hb1.cell (p:=⟨w.heap.size,0,none⟩) hsz).trans HA.out
 have hsz1:w.heap.size<w1.heap.size:=Nat.lt_of_lt_of_le hsz hb1.size
 have HIn:Hid (∀ i,i<N→∀ z∈(ys.getD i noR).p,∃ j:Nat,z=(j:Int)∧j<N):=fun i hi z hz=>by
  obtain ⟨j,h1,h2,-⟩:=told_less HR.out HE.out (hT i hi) hz
  exact ⟨j,h1,by rw [←HN.out];exact h2⟩
 have HNone:Hid (∀ f:Nat→Bool,(∀ i,i<N→f i=false→∃ z∈(ys.getD i noR).p,f z.toNat=false)→∀ i,i<N→f i=true):=fun f h i hi=>none_waits HR.out HE.out (fun i=>(ys.getD i noR).p) (fun j hj=>hT j (by rw [←HN.out];exact hj)) f (fun j hj hf=>h j (by rw [←HN.out];exact hj) hf) i (by rw [HN.out];exact hi)
 obtain ⟨y1,hy1⟩:∃ y,w1.alloc (.cells (madeCells #[.int .i64 0,.int .i64 0] (N*2)) 48)=y:=⟨_,rfl⟩
 have hBy1:Below w1.heap.size w1 y1:=by rw [←hy1];go_grown
 have hCy1:CelB y1 w1.heap.size (List.replicate N (0,0)):=by rw [←hy1];exact celB_made w1 N
 have hs1:y1.heap.size=w1.heap.size+1:=by rw [←hy1];simp
 obtain ⟨y2,hy2⟩:∃ y,y1.alloc (.cells (madeCells #[.bool false] N) 4)=y:=⟨_,rfl⟩
 have hBy2:Below y1.heap.size y1 y2:=by rw [←hy2];go_grown
 have hTy2:BolB y2 y1.heap.size N fun _=>false:=by rw [←hy2];exact BolB.made y1 N
 have HI0:Hid (SInv w1 w1.heap.size y1.heap.size N v (List.replicate N (0,0)) (fun _=>false) y2):=by
  refine ⟨hCy1.later hBy2,by simp,hTy2,fun c hc=>?_,fun j _ h=>(by cases h),onB hBy1 hBy2⟩
  rw [(List.mem_replicate.1 hc).2]
  exact good_zero
 have hgT:w1.heap.size<y1.heap.size:=by omega
 clear hall hb1 hyl hY hT hBy1 hCy1 hBy2 hTy2 hs1 hA hW
 go_wp2_with fail
 clear hmk hmb hy1 hy2
 go_loopg [8] (muF (fun _=>false) true N) (fun gg s8 wr => ∃ (ag:Bool) (L:List (Int×Int)) (f:Nat→Bool),gg=muF f ag N∧s8=.bool ag∧Hid (SInv w1 w1.heap.size y1.heap.size N v L f wr)∧Hid (WaitP ys f ag N))
 case atStart=>exact ⟨true,_,_,rfl,rfl,HI0,wait_true _ _ _⟩
 case round =>
  obtain ⟨ag,L,f,rfl,rfl,HI,HWt⟩:=hrel
  cases ag
  ·have HAll:Hid (∀ i,i<N→f i=true):=HNone.out f (HWt.out rfl)
   go_wp2_with fail
   go_ret
   refine ⟨⟨w1.heap.size,L,by rw [HN.out];rfl,by rw [HN.out];exact HI.out.2.1,HI.out.1,fun j hj=>?_⟩,?_⟩
   ·rw [HN.out] at hj
    rw [HI.out.2.2.2.2.1 j hj (HAll.out j hj)]
    exact HV.out j
   ·exact onB HB1.out HI.out.2.2.2.2.2
  ·go_wp2_with fail
   go_loopg [8,9] N (fun gg s8 s9 wi => ∃ (i:Nat) (ag:Bool) (L':List (Int×Int)) (f':Nat→Bool),i≤N∧gg=N-i∧s8=.bool ag∧s9=.int .i64 i∧Hid (SInv w1 w1.heap.size y1.heap.size N v L' f' wi)∧Hid (WaitP ys f' ag i)∧Hid (PassP N f f' ag))
   case atStart=>exact ⟨0,false,L,f,Nat.zero_le _,rfl,rfl,rfl,HI,(fun _ j hj=>absurd hj (Nat.not_lt_zero _):WaitP ys f false 0),(⟨fun h=>(by cases h),fun _=>rfl⟩:PassP N f f false)⟩
   case round =>
    obtain ⟨wi,rfl⟩:∃ wi:World,wi=wr:=⟨_,rfl⟩
    obtain ⟨i,ag,L',f',hi,rfl,rfl,rfl,HI',HWt',HPs⟩:=hrel
    by_cases hlt:i<N
    ·have hii:(i:Int)<(N:Int):=by omega
     have hBi:=HI'.out.2.2.2.2.2
     obtain ⟨hcap,h0 | ⟨b,rfl,hbw,hcl⟩,hrw⟩:=HY.out.later hBi
     ·have:=HYl.out;rw [h0] at this;simp at this;omega
     have cj:=hcl i (by rw [HYl.out];exact hlt)
     have hrj:=hrw _ (rl_mem (k:=i) (by rw [HYl.out];exact hlt))
     rw [HYl.out] at hcap
     have hcapI:(N:Int)≤(c1:Int):=by omega
     have hT12:=(HT.out i hlt).2.1
     have hIz:=HIn.out i hlt
     obtain ⟨R,hRe⟩:∃ R,(ys.getD i noR).p=R:=⟨_,rfl⟩
     have HRe:Hid ((ys.getD i noR).p=R):=hRe
     rw [hRe] at cj hrj hT12 hIz
     have HIz:Hid (∀ z∈R,∃ j:Nat,z=(j:Int)∧j<N):=hIz
     generalize (ys.getD i noR).A=Aj at cj hrj
     generalize (ys.getD i noR).c=cjj at cj hrj
     have HTj:Hid (IntT wi Aj cjj R):=hrj
     obtain ⟨r,hr⟩:∃ r,R.length=r:=⟨_,rfl⟩
     have HRr:Hid (R.length=r):=hr
     rw [hr] at cj hT12
     have hrI:(r:Int)≤12:=by omega
     have cg:=HI'.out.2.2.1.cell hlt
     have hgl:=HI'.out.2.2.1.lt
     have HOk0:Hid (okS f' R i 0 = !f' i):=by show _=_;unfold okS;simp
     generalize f' i=ij at cg HOk0
     clear hcl hrw hrj hRe hIz hr hBi
     go_wp2_with fail
     go_loopg [10,11] r (fun gg s10 s11 wk => ∃ (u:Nat) (ok:Bool),u≤r∧gg=r-u∧s10=.bool ok∧s11=.int .i64 u∧Hid (okS f' R i u=ok)∧wk=wi)
     case atStart=>exact ⟨0,_,Nat.zero_le _,rfl,rfl,rfl,HOk0,rfl⟩
     case round =>
      obtain ⟨u,ok,hu,rfl,rfl,rfl,HU,hwk⟩:=hrel
      have hwk2:wi=wr:=hwk.symm
      clear hwk
      subst hwk2
      cases ok
      ·have HNo:Hid (f' i=false→∃ z∈(ys.getD i noR).p,f' z.toNat=false):=fun h=>by rw [HRe.out];exact okS_no HU.out h
       have HWn:Hid (WaitP ys f' ag (i+1)):=fun ha j hj hf=>by
        by_cases e:j=i
        ·subst e;exact HNo.out hf
        ·exact HWt'.out ha j (by omega) hf
       by_cases hul:u<r
       ·have hui:(u:Int)<(r:Int):=by omega
        go_wp2_with fail
        go_roundg (N-(i+1))
        case measure=>omega
        case rel=>exact ⟨i+1,ag,L',f',by omega,rfl,rfl,by go_num,HI',HWn,HPs⟩
       ·have hue:u=r:=by omega
        subst hue
        go_wp2_with fail
        go_roundg (N-(i+1))
        case measure=>omega
        case rel=>exact ⟨i+1,ag,L',f',by omega,rfl,rfl,by go_num,HI',HWn,HPs⟩
      ·by_cases hul:u<r
       ·have hui:(u:Int)<(r:Int):=by omega
        obtain ⟨hcR,-,hR0 | ⟨br,cs,fr,rfl,hbr,hcr⟩⟩:=HTj.out
        ·have:=HRr.out;rw [hR0] at this;simp at this;omega
        have cu:=hcr u (by rw [HRr.out];exact hul)
        rw [HRr.out] at hcR
        have hcRi:(r:Int)≤(cjj:Int):=by omega
        have hbrl:br<wi.heap.size:=(Array.getElem?_eq_some_iff.1 hbr).1
        have HNx:Hid (okS f' R i (u+1)=f' (R.getD u 0).toNat):=okS_next HU.out (by rw [HRr.out];exact hul)
        obtain ⟨z,hz,hzn⟩:=HIz.out (R.getD u 0) (mem_at (by rw [HRr.out];exact hul))
        rw [hz] at cu HNx
        rw [Int.toNat_natCast] at HNx
        have hzI:(z:Int)<(N:Int):=by omega
        have cz:=HI'.out.2.2.1.cell hzn
        generalize f' z=zb at cz HNx
        clear hcr hbr hz
        go_wp2_with fail
        go_roundg (r-(u+1))
        case measure=>omega
        case rel=>exact ⟨u+1,zb,by omega,rfl,rfl,by go_num,HNx,rfl⟩
       ·have hue:u=r:=by omega
        subst hue
        have hyes:f' i=false∧∀ z∈R,f' z.toNat=true:=okS_yes (by rw [HRr.out];exact HU.out)
        have HFi:Hid (f' i=false):=hyes.1
        have HRd:Hid (∀ z∈R,L'.getD z.toNat noC=solV D n (getE (lE xs)) (placeL D n z.toNat)):=fun z hz=>by
         obtain ⟨j,rfl,hj⟩:=HIz.out z hz
         rw [Int.toNat_natCast]
         have h:=HI'.out.2.2.2.2.1 j hj (by have:=hyes.2 _ hz;rwa [Int.toNat_natCast] at this)
         rw [h]
         exact HV.out j
        have hBi:=onB HB1.out HI'.out.2.2.2.2.2
        have HBi:Hid (Below w.heap.size w wi):=hBi
        have HAtc:Hid (∀ w',Below wi.heap.size wi w'→Calls Tryz.prog 24 #[.agg #[.slice A0 n cap],.int .i64 i] w' fun e w''=>(∃ A' c',e=.returned (.slice A' n c')∧PlAt w'' A' c' (placeL D n i))∧Below w'.heap.size w' w''):=fun w' hw'=>by
         have h:=rat_any A0 cap n D A C i w' HE.out (by rw [HN.out];exact hlt) (HM.out.later (onB HBi.out hw'))
         rw [placeL_len] at h
         exact h
        obtain ⟨⟨ra,rb⟩,hRv⟩:∃ q,v i=q:=⟨_,rfl⟩
        have HRv:Hid (v i=(ra,rb)):=hRv
        have HTl:Hid (∀ w' A' c',Below wi.heap.size wi w'→PlAt w' A' c' (placeL D n i)→Calls Tryz.prog 37 #[.agg #[.slice A0 n cap],.slice Ae xl ce,.slice A' n c',.slice (some ⟨w1.heap.size,0,none⟩) N N] w' fun e w''=>e=.returned (.agg #[.int .i64 ra,.int .i64 rb])∧Below w'.heap.size w' w''):=fun w' A' c' hw' hp=>by
         have hS':=HI'.out.later hw'
         have h:=stell_all A0 cap n D A C Ae ce xs A' c' (some ⟨w1.heap.size,0,none⟩) N L' i (ys.getD i noR).p w' HE.out HR.out HXf.out (HSh.out i) (HM.out.later (onB HBi.out hw')) (HEn.out.later (onB HBi.out hw')) hp ⟨by rw [hS'.2.1];exact Nat.le_refl _,by omega,Or.inr ⟨_,0,rfl,hS'.1.celAt⟩⟩ (by rw [hS'.2.1];exact HN.out.symm) hS'.2.2.2.1 (HT.out i hlt) (by rw [HRe.out];exact HRd.out)
         rw [←HV.out i,HRv.out,placeL_len,HXl.out,hS'.2.1] at h
         exact h
        have co:wi.cell? ⟨w.heap.size,0,none⟩=some (.slice A0 n cap):=(HI'.out.2.2.2.2.2.cell (p:=⟨w.heap.size,0,none⟩) hsz1).trans HCo.out
        have hswi:w.heap.size<wi.heap.size:=Nat.lt_of_lt_of_le hsz1 HI'.out.2.2.2.2.2.size
        have HKp:Hid (∀ w',Below wi.heap.size wi w'→Below wi.heap.size wi w'∧w'.cell? ⟨w.heap.size,0,none⟩=some (.slice A0 n cap)):=fun w' h=>⟨h,(h.cell (p:=⟨w.heap.size,0,none⟩) hswi).trans co⟩
        clear hyes hBi hRv
        go_upto_region 16 with fail
        go_cut [12] from 22 to 69 (fun s12 wx => ∃ q,s12=.pointer (some ⟨q,0,none⟩)∧At q ra rb wx∧Below wi.heap.size wi wx)
        case first =>
         go_region_held3 (fun w'=>Below wi.heap.size wi w'∧w'.cell? ⟨w.heap.size,0,none⟩=some (.slice A0 n cap))
          ((refine HKp.out _ ?_;go_grown;done))
          (first | (go_at_call 24;refine (HAtc.out _ (by go_grown)).mono ?_;rintro e w6 ⟨⟨A6,c6,rfl,hP6⟩,hb6⟩;have hN6:=onB (W0:=wi) (by go_grown) hb6;have HP6:Hid (PlAt w6 A6 c6 (placeL D n i)):=hP6;have hy6:=hN6.size;obtain ⟨hc6,hf6⟩:=bcell hb6;have hz6:=bsize hb6;(try simp [Nat.add_one_le_iff] at hz6);clear hb6 hP6) | (go_at_call 37;refine (HTl.out _ _ _ (by go_grown) (HP6.out.later (by go_grown))).mono ?_;rintro e w7 ⟨rfl,hb7⟩;have hN7:=onB (W0:=wi) (by go_grown) hb7;have hy7:=hN7.size;obtain ⟨hc7,hf7⟩:=bcell hb7;have hz7:=bsize hb7;(try simp [Nat.add_one_le_iff] at hz7);(try have ha7:wi.heap.size<w7.heap.size:=by omega);clear hb7))
         all_goals go_wp2_with fail
         all_goals go_meet
         all_goals
          refine ⟨_,rfl,?_,by go_grown⟩
          first
           | exact At.new _ _ _ _
           | (refine At.set (u:=.int .i64 0) (v:=.int .i64 0) (by omega) ?_ ?_ <;> (rw [hc7 _ _ (by simp)];simp;done))
           | (refine At.set (u:=.int .i64 0) (v:=.int .i64 0) (by omega) ?_ ?_ <;> (rw [hc7 _ _ (by omega),hc6 _ _ (by simp)];simp;done))
        case rest =>
        obtain ⟨q,rfl,⟨hql,p0,p1⟩,hBc⟩:=hcut
        obtain ⟨w9,rfl⟩:∃ w9:World,w9=wc:=⟨_,rfl⟩
        have HI9:Hid (SInv w1 w1.heap.size y1.heap.size N v L' f' w9):=HI'.out.later hBc
        obtain ⟨z0,z1⟩:=HI9.out.1.at (k:=i) (by rw [HI9.out.2.1];exact hlt)
        have z2:=HI9.out.2.2.1.cell hlt
        have x0:=HI9.out.1.frozen (i*2)
        have x1:=HI9.out.1.frozen (i*2+1)
        have x2:=HI9.out.2.2.1.frozen i
        have hl1:=HI9.out.1.lt
        have hl2:=HI9.out.2.2.1.lt
        have HIx:Hid (SInv w1 w1.heap.size y1.heap.size N v (L'.set i (ra,rb)) (putF f' i) (((w9.setCell ⟨w1.heap.size,i*2,none⟩ (.int .i64 ra)).setCell ⟨w1.heap.size,i*2+1,none⟩ (.int .i64 rb)).setCell ⟨y1.heap.size,i,none⟩ (.bool true))):=HI9.out.put hgT hlt HRv.out (by have:=HVg.out i;rw [HRv.out] at this;exact this)
        have HPx:Hid (PassP N f (putF f' i) true):=pass_put HPs.out hlt HFi.out
        clear hBc cj cg
        go_wp2_with fail
        go_roundg (N-(i+1))
        case measure=>omega
        case rel=>exact ⟨i+1,true,_,_,by omega,rfl,rfl,by go_num,HIx,wait_true _ _ _,HPx⟩
    ·have hie:i=N:=by omega
     subst hie
     have HMu:Hid (muF f' ag i<muF f true i):=by
      show _<_
      unfold muF
      cases ag with
      | true=>have:=HPs.out.1 rfl;simp;omega
      | false=>rw [HPs.out.2 rfl];simp
     go_wp2_with fail
     go_roundg (muF f' ag i)
     case measure=>exact HMu.out
     case rel=>exact ⟨ag,L',f',rfl,rfl,HI',HWt'⟩
theorem same_errC (c:Int) (w:World) (hk:Kind0 w):Calls Tryz.prog 13 #[errV c,.int .i64 c] w fun e w'=>e=.returned (.bool true)∧Below w.heap.size w w':=by
 by_cases h:c=0
 ·subst h
  have:=same_nil 0 w
  rw [errV_zero]
  exact this
 ·have:=same_hit c c w hk
  rw [errV_some h]
  simpa using this
theorem out_cellC {w w1:World} {A0:Option Addr} {n cap:Nat} (hB:Below (ownOut w A0 n cap 42).heap.size (ownOut w A0 n cap 42) w1):w1.cell? ⟨w.heap.size,0,none⟩=some (.slice A0 n cap)∧w.heap.size<w1.heap.size:=by
 have hS:=ownOut_size w A0 n cap 42
 exact ⟨(hB.cell (p:=⟨w.heap.size,0,none⟩) (by show w.heap.size<_;omega)).trans (ownOut_at ..),by have:=hB.size;omega⟩
theorem intB_ty {w:World} {g:Nat} {L:List Int} (h:IntB w g L):PlTy w (some ⟨g,0,none⟩) L.length L:=⟨Nat.le_refl _,Or.inr ⟨g,0,_,_,rfl,h,fun j hj=>by rw [Nat.zero_add];exact h.cell hj⟩⟩
set_option maxHeartbeats 16000000 in
theorem ctells_law (A0:Option Addr) (cap n:Nat) (D:Nat→Dm) (A:Nat→Option Addr) (C:Nat→Nat) (AE:Option Addr) (ce:Nat) (xs:List EnL) (w:World) (hM:DimsV w A0 cap n D A C) (hEn:EnsV w AE ce xs) (hK:Kind0 w)
  (hAll:∀ w',Below w.heap.size w w'→Calls Tryz.prog 25 #[.agg #[.slice A0 n cap],.slice AE xs.length ce] w' fun e w''=>(∃ A' c',e=.returned (.tuple #[.slice A' (caL D n (lE xs)).length c',errV (cuErr D n (lE xs))])∧CelV w'' A' c' (caL D n (lE xs)))∧Below w'.heap.size w' w'')
  (hFau:∀ w',Below w.heap.size w w'→Calls Tryz.prog 27 #[.agg #[.slice A0 n cap],.slice AE xs.length ce] w' fun e w''=>(∃ A' c' ps,e=.returned (.tuple #[.slice A' ps.length c',errV (cuErr D n (lE xs))])∧lP ps=cfL D n (lE xs)∧PlsV w'' A' c' ps)∧Below w'.heap.size w' w'')
  (hOrd:∀ w',Below w.heap.size w w'→Calls Tryz.prog 31 #[.agg #[.slice A0 n cap]] w' fun e w''=>(∃ A' c',e=.returned (.tuple #[.slice A' (coL D n).length c',errV (ruErr D n).2.2])∧IntsAt w'' A' c' (coL D n))∧Below w'.heap.size w' w'') :
  Calls Tryz.prog 8 #[.agg #[.slice A0 n cap],.slice AE xs.length ce] w fun e w'=>e=.returned (.bool true)∧Below w.heap.size w w':=by
 obtain ⟨i0,hi0,hz0,hz1,hz2⟩:=info_parts Tryz.infoPla
 have hB0:=ownOut_below w A0 n cap 42
 have HBx:Hid (∀ w1,Below (ownOut w A0 n cap 42).heap.size (ownOut w A0 n cap 42) w1→w1.cell? ⟨w.heap.size,0,none⟩=some (.slice A0 n cap)∧w.heap.size<w1.heap.size):=fun w1 h=>out_cellC h
 obtain ⟨W,hW⟩:∃ W,ownOut w A0 n cap 42=W:=⟨_,rfl⟩
 rw [hW] at hB0 HBx
 unfold ownOut at hW
 have HB0:Hid (Below w.heap.size w W):=hB0
 obtain ⟨CL,hCL⟩:∃ CL,caL D n (lE xs)=CL:=⟨_,rfl⟩
 obtain ⟨FL,hFL⟩:∃ FL,cfL D n (lE xs)=FL:=⟨_,rfl⟩
 obtain ⟨OL,hOL⟩:∃ OL,coL D n=OL:=⟨_,rfl⟩
 obtain ⟨E1,hE1⟩:∃ E1,cuErr D n (lE xs)=E1:=⟨_,rfl⟩
 obtain ⟨E2,hE2⟩:∃ E2,(ruErr D n).2.2=E2:=⟨_,rfl⟩
 rw [hCL,hE1] at hAll
 rw [hFL,hE1] at hFau
 rw [hOL,hE2] at hOrd
 have HCu:Hid (∀ w',Below W.heap.size W w'→Calls Tryz.prog 14 #[.agg #[.slice A0 n cap],.slice AE xs.length ce] w' fun e w''=>e=.returned (.int .i64 E1)∧Below w'.heap.size w' w''):=fun w' hB=>by
  have h:=scube_any A0 cap n D A C AE ce xs w' (hM.later (onB hB0 hB)) (hEn.later (onB hB0 hB))
  rw [hE1] at h
  exact h
 have HRi:Hid (∀ w',Below W.heap.size W w'→Calls Tryz.prog 19 #[.agg #[.slice A0 n cap]] w' fun e w''=>e=.returned (.int .i64 E2)∧Below w'.heap.size w' w''):=fun w' hB=>by
  have h:=sright_any A0 cap n D A C w' (hM.later (onB hB0 hB))
  rw [hE2] at h
  exact h
 have HAll:Hid (∀ w',Below W.heap.size W w'→Calls Tryz.prog 25 #[.agg #[.slice A0 n cap],.slice AE xs.length ce] w' fun e w''=>(∃ A' c',e=.returned (.tuple #[.slice A' CL.length c',errV E1])∧CelV w'' A' c' CL)∧Below w'.heap.size w' w''):=fun w' hB=>hAll w' (onB hB0 hB)
 have HFau:Hid (∀ w',Below W.heap.size W w'→Calls Tryz.prog 27 #[.agg #[.slice A0 n cap],.slice AE xs.length ce] w' fun e w''=>(∃ A' c' ps,e=.returned (.tuple #[.slice A' ps.length c',errV E1])∧lP ps=FL∧PlsV w'' A' c' ps)∧Below w'.heap.size w' w''):=fun w' hB=>hFau w' (onB hB0 hB)
 have HOrd:Hid (∀ w',Below W.heap.size W w'→Calls Tryz.prog 31 #[.agg #[.slice A0 n cap]] w' fun e w''=>(∃ A' c',e=.returned (.tuple #[.slice A' OL.length c',errV E2])∧IntsAt w'' A' c' OL)∧Below w'.heap.size w' w''):=fun w' hB=>hOrd w' (onB hB0 hB)
 have HEr1:Hid (∀ w',Below W.heap.size W w'→Calls Tryz.prog 13 #[errV E1,.int .i64 E1] w' fun e w''=>e=.returned (.bool true)∧Below w'.heap.size w' w''):=fun w' hB=>same_errC _ w' (hK.later (onB hB0 hB))
 have HEr2:Hid (∀ w',Below W.heap.size W w'→Calls Tryz.prog 13 #[errV E2,.int .i64 E2] w' fun e w''=>e=.returned (.bool true)∧Below w'.heap.size w' w''):=fun w' hB=>same_errC _ w' (hK.later (onB hB0 hB))
 have HGo:Hid (E1=0→(allErr D n).2.2=0∧AllR D n∧Ens D n (lE xs)):=fun h=>by
  obtain ⟨h1,h2⟩:=cu_ru (hE1.trans h)
  exact ⟨(ru_right h1).1,(ru_right h1).2,ens_of h2⟩
 have HC0:Hid (E1≠0→CL=[]):=fun h=>by rw [←hCL];exact caL_bad (by rw [hE1];exact h)
 have HC1:Hid (E1=0→CL.length=prodN D n):=fun h=>by rw [←hCL];exact caL_len (hE1.trans h)
 have HSo:Hid (E1=0→∀ w',Below W.heap.size W w'→Calls Tryz.prog 16 #[.agg #[.slice A0 n cap],.slice AE xs.length ce] w' fun e w''=>(∃ A' c',e=.returned (.slice A' CL.length c')∧CelV w'' A' c' CL)∧Below w'.heap.size w' w''):=fun hz w' hB=>by
  obtain ⟨g1,g2,g3⟩:=HGo.out hz
  refine (ssolve_any A0 cap n D A C AE ce xs w' g1 g2 g3 (hM.later (onB hB0 hB)) (hEn.later (onB hB0 hB))).mono ?_
  rintro e w'' ⟨⟨g,L,rfl,hL,hC,hV⟩,hb⟩
  have hLe:L=CL:=by rw [←hCL];exact ca_eq (hE1.trans hz) hL hV
  subst hLe
  obtain ⟨-,-,hp3,-⟩:=allErr_some g1
  exact ⟨⟨some ⟨g,0,none⟩,L.length,by rw [hL],Nat.le_refl _,by omega,Or.inr ⟨g,0,rfl,hC.celAt⟩⟩,hb⟩
 have HC3:Hid (CL.length≤3000):=by
  show CL.length≤3000
  by_cases h:E1=0
  ·rw [HC1.out h]
   obtain ⟨-,-,hp3,-⟩:=allErr_some (HGo.out h).1
   exact hp3
  ·rw [HC0.out h]
   exact Nat.zero_le _
 have HFk:Hid (cfK CL (placeL D n) CL.length=FL):=by
  show _=FL
  rw [←hFL,←hCL]
  rfl
 have HAt:Hid (∀ k,k<CL.length→∀ w',Below W.heap.size W w'→Calls Tryz.prog 24 #[.agg #[.slice A0 n cap],.int .i64 k] w' fun e w''=>(∃ g,e=.returned (.slice (some ⟨g,0,none⟩) n n)∧IntB w'' g (placeL D n k))∧Below w'.heap.size w' w''):=fun k hk w' hB=>by
  have h:E1=0:=by
   by_cases h:E1=0
   ·exact h
   ·rw [HC0.out h] at hk;exact absurd hk (Nat.not_lt_zero _)
  refine (rat_blk A0 cap n D A C k w' (HGo.out h).1 (by rw [←HC1.out h];exact hk) (hM.later (onB hB0 hB))).mono ?_
  rintro e w'' ⟨⟨g,rfl,-,hI⟩,hb⟩
  exact ⟨⟨g,rfl,hI⟩,hb⟩
 have HN4:Hid (∀ k,k<CL.length→placeL D n k≠[]∧n≤4):=fun k hk=>by
  have h:E1=0:=by
   by_cases h:E1=0
   ·exact h
   ·rw [HC0.out h] at hk;exact absurd hk (Nat.not_lt_zero _)
  obtain ⟨hn1,hn4,-,-⟩:=allErr_some (HGo.out h).1
  refine ⟨fun e=>?_,hn4⟩
  have:=placeL_len D n k
  rw [e] at this
  simp at this
  omega
 have HO0:Hid (E2≠0→OL=[]):=fun h=>by rw [←hOL];unfold coL;rw [if_neg (by rw [hE2];exact h)]
 have HOr:Hid (E2=0→∀ w' w'' A' c' ys,Below W.heap.size W w'→RowsV w' A' c' ys→ys.length=prodN D n→(∀ i,i<prodN D n→ToldP D n (placeL D n i) (ys.getD i noR).p)→Below w'.heap.size w' w''→Calls Tryz.prog 29 #[.slice A' (prodN D n) c'] w'' fun e w3=>(∃ A3 c3,e=.returned (.slice A3 OL.length c3)∧IntsAt w3 A3 c3 OL)∧Below w''.heap.size w'' w3):=fun hz w' w'' A' c' ys hB hY hl hT hb=>by
  obtain ⟨g1,g2⟩:=ru_right (hE2.trans hz)
  obtain ⟨-,-,hp3,-⟩:=allErr_some g1
  have hll:(lR ys).length=prodN D n:=by rw [lR_len,hl]
  have hT':∀ i,i<prodN D n→ToldP D n (placeL D n i) ((lR ys).getD i []):=fun i hi=>by rw [lR_at];exact hT i hi
  have hre:lR ys=rowsL D n:=rows_eq g2 g1 hll hT'
  have h:=behind_big A' c' ys w'' (by omega) (told_inn g2 g1 hll hT') (fun x hx=>by
   obtain ⟨i,hi,rfl⟩:=List.mem_iff_getElem.1 hx
   have:=(hT i (by omega)).2.1
   rw [List.getD_eq_getElem?_getD,List.getElem?_eq_getElem hi] at this
   exact this) (fun i hi=>told_acyc g2 g1 hll hT' i hi) (hY.later hb)
  have hO:ordTo (lR ys) ys.length=OL:=by rw [←hOL,hre,hl];unfold coL;rw [if_pos (hE2.trans hz)]
  rw [hO,hl] at h
  exact h
 have HTo:Hid (E2=0→∀ w',Below W.heap.size W w'→Calls Tryz.prog 30 #[.agg #[.slice A0 n cap]] w' fun e w''=>(∃ A' c' ys,e=.returned (.slice A' (prodN D n) c')∧ys.length=prodN D n∧RowsV w'' A' c' ys∧∀ i,i<prodN D n→ToldP D n (placeL D n i) (ys.getD i noR).p)∧Below w'.heap.size w' w''):=fun hz w' hB=>by
  obtain ⟨g1,g2⟩:=ru_right (hE2.trans hz)
  exact salltold_any A0 cap n D A C w' g2 g1 (hM.later (onB hB0 hB))
 have HOl:Hid (OL.length≤3000):=by
  show OL.length≤3000
  by_cases h:E2=0
  ·obtain ⟨g1,-⟩:=ru_right (hE2.trans h)
   obtain ⟨-,-,hp3,-⟩:=allErr_some g1
   have:OL.length≤prodN D n:=by
    rw [←hOL]
    unfold coL
    rw [if_pos (hE2.trans h)]
    exact ordTo_le _ _
   omega
  ·rw [HO0.out h]
   exact Nat.zero_le _
 obtain ⟨xl,hxl⟩:∃ xl,xs.length=xl:=⟨_,rfl⟩
 rw [hxl] at HCu HAll HFau HSo ⊢
 obtain ⟨o0,hq⟩:=HBx.out W (Below.refl _ _)
 have hc:=HCu.out W (Below.refl _ _)
 clear hM hEn hK hAll hFau hOrd hB0 hCL hFL hOL hE1 hE2 hxl HGo HC1
 obtain ⟨NL,hNL⟩:∃ NL,CL.length=NL:=⟨_,rfl⟩
 have HNL:Hid (CL.length=NL):=hNL
 have hNL3:NL≤3000:=by rw [←hNL];exact HC3.out
 have hNLI:(NL:Int)≤3000:=by omega
 go_enter Tryz.func8,Tryz.ntmps8
 go_wp2_with fail
 refine hc.mono ?_
 rintro e w1 ⟨rfl,hb1⟩
 have HB1:Hid (Below W.heap.size W w1):=hb1
 clear hc hb1 o0 hq hW hNL
 go_upto_if 25 with fail
 go_cut [6] from 21 (fun s6 wx => ∃ Aw cw,s6=.slice Aw NL cw∧CelV wx Aw cw CL∧Below W.heap.size W wx)
 case first =>
  by_cases hz:E1=0
  ·have hs:=HSo.out hz w1 HB1.out
   obtain ⟨o0,hq⟩:=HBx.out w1 HB1.out
   rw [HNL.out] at hs
   subst hz
   go_wp2_with fail
   refine hs.mono ?_
   rintro e w2 ⟨⟨A2,c2,rfl,hC2⟩,hb2⟩
   go_wp2_with fail
   go_meet
   exact ⟨A2,c2,rfl,hC2,onB HB1.out hb2⟩
  ·have hzf:(E1 == 0)=false:=by simpa using hz
   have HCn:Hid (CL=[]∧NL=0):=by
    have h:=HC0.out hz
    exact ⟨h,by rw [←HNL.out,h];rfl⟩
   clear hz
   go_wp2_with fail
   go_meet
   exact ⟨none,0,by rw [HCn.out.2],by rw [HCn.out.1];exact CelV.nil _ _ _ (by decide),HB1.out⟩
 case rest =>
 obtain ⟨Aw,cw,rfl,hCw,hBc⟩:=hcut
 obtain ⟨w2,rfl⟩:∃ w2:World,w2=wc:=⟨_,rfl⟩
 have HCw:Hid (CelV w2 Aw cw CL):=hCw
 have HB2:Hid (Below W.heap.size W w2):=hBc
 clear hCw hBc HSo
 go_wp2_with fail
 go_loopg [7,8] NL (fun gg s7 s8 wr => ∃ (k:Nat) (ys:List PL) (Af:Option Addr) (cf:Nat),k≤NL∧gg=NL-k∧s8=.int .i64 k∧s7=.slice Af ys.length cf∧Hid (lP ys=cfK CL (placeL D n) k∧∀ y∈ys,y.p≠[]∧y.p.length≤4∧PlTy wr y.A y.c y.p)∧Hid (wr.ownsRow w2.heap.size 44 1 (.slice Af ys.length cf) ys.length (cellsP ys))∧Hid (Below w2.heap.size w2 wr))
 case atStart=>exact ⟨0,[],none,0,Nat.zero_le _,rfl,rfl,rfl,⟨rfl,fun y hy=>by cases hy⟩,World.ownsRow_nil _ _ _ _,Below.refl _ _⟩
 case round =>
  obtain ⟨k,ys,Af,cf,hk,rfl,rfl,rfl,HY,HO,HBr⟩:=hrel
  obtain ⟨wi,rfl⟩:∃ wi:World,wi=wr:=⟨_,rfl⟩
  have HYl:Hid (ys.length≤k):=by
   show ys.length≤k
   have h:=congrArg List.length HY.out.1
   rw [lP_len] at h
   have:=cfK_len CL (placeL D n) k
   omega
  have HBi:Hid (Below W.heap.size W wi):=onB HB2.out HBr.out
  obtain ⟨yl,hyl⟩:∃ yl,ys.length=yl:=⟨_,rfl⟩
  have Hyl:Hid (ys.length=yl):=hyl
  rw [hyl] at HO HYl ⊢
  have hylk:yl≤k:=HYl.out
  by_cases hlt:k<NL
  ·have hki:(k:Int)<(NL:Int):=by omega
   obtain ⟨hcc,-,h0 | ⟨b,o,rfl,hbw,hcl⟩⟩:=HCw.out.later HBr.out
   ·have:=HNL.out;rw [h0] at this;simp at this;omega
   obtain ⟨c0,-⟩:=hcl k (by rw [HNL.out];exact hlt)
   rw [HNL.out] at hcc
   have hccI:(NL:Int)≤(cw:Int):=by omega
   have HKs:Hid (cfK CL (placeL D n) (k+1)=cfK CL (placeL D n) k ++ (if (CL.getD k noC).1=2 then [placeL D n k] else [])):=rfl
   have hat:=HAt.out k (by rw [HNL.out];exact hlt) wi HBi.out
   obtain ⟨o0,hq⟩:=HBx.out wi HBi.out
   have HPn:=HN4.out k (by rw [HNL.out];exact hlt)
   generalize (CL.getD k noC).1=kk at c0 HKs
   clear hcl hyl
   by_cases h2:kk=2
   ·subst h2
    go_wp2_with fail
    refine hat.mono ?_
    rintro e w3 ⟨⟨g3,rfl,hI3⟩,hb3⟩
    have HO3:Hid (w3.ownsRow w2.heap.size 44 1 (.slice Af yl cf) yl (cellsP ys)):=own_later HO.out hb3
    have HT3:Hid (PlTy w3 (some ⟨g3,0,none⟩) n (placeL D n k)):=by
     have h:=intB_ty hI3
     rw [placeL_len] at h
     exact h
    have HY3:Hid (∀ y∈ys,y.p≠[]∧y.p.length≤4∧PlTy w3 y.A y.c y.p):=fun y hy=>⟨(HY.out.2 y hy).1,(HY.out.2 y hy).2.1,(HY.out.2 y hy).2.2.later hb3⟩
    have HB3:Hid (Below w2.heap.size w2 w3):=onB HBr.out hb3
    have hs3:=HB3.out.size
    clear hat hb3 hI3 o0 hq c0
    go_wp2_with (at_builtin;refine wpList_append_own _ rfl _ _ 61 rfl w2.heap.size 44 i0 (.slice none 0 0) 1 24 Tryz.underlying61 hi0 hz0 hz1 hz2 rfl (by decide) _ _ _ rfl (HO3.out.alloc _) ⟨w3.heap.size,0,none⟩ 1 1 [.slice (some ⟨g3,0,none⟩) n n] rfl rfl one_cell (by intro u hu;simp at hu;subst hu;rfl) (by unfold maxLen;omega) (by omega) (by simp;omega) ?_)
    intro v' w4 hown' hgrow _
    obtain ⟨A4,c4,rfl⟩:=own_form hown'
    have HB4:Hid (Below w2.heap.size w2 w4):=grown_own HB3.out HO3.out hgrow
    have hal:∀ {B:Option Addr} {d:Nat} {Y:List Int},PlTy w3 B d Y→PlTy w4 B d Y:=fun hY=>plty_row (hY.later (by go_grown)) (HO3.out.alloc _) hgrow
    have HYn:Hid ((ys ++ [(⟨placeL D n k,some ⟨g3,0,none⟩,n⟩:PL)]).length=yl+1):=by show _=_;rw [List.length_append,Hyl.out];rfl
    have HY4:Hid (lP (ys ++ [(⟨placeL D n k,some ⟨g3,0,none⟩,n⟩:PL)])=cfK CL (placeL D n) (k+1)∧∀ y∈ys ++ [(⟨placeL D n k,some ⟨g3,0,none⟩,n⟩:PL)],y.p≠[]∧y.p.length≤4∧PlTy w4 y.A y.c y.p):=by
     refine ⟨by rw [lP_append,HY.out.1,HKs.out];simp [lP],fun y hy=>?_⟩
     rcases List.mem_append.1 hy with hy | hy
     ·exact ⟨(HY3.out y hy).1,(HY3.out y hy).2.1,hal (HY3.out y hy).2.2⟩
     ·rw [List.mem_singleton.1 hy]
      exact ⟨HPn.1,by rw [placeL_len];exact HPn.2,hal HT3.out⟩
    have HO4:Hid (w4.ownsRow w2.heap.size 44 1 (.slice A4 (ys ++ [(⟨placeL D n k,some ⟨g3,0,none⟩,n⟩:PL)]).length c4) (ys ++ [(⟨placeL D n k,some ⟨g3,0,none⟩,n⟩:PL)]).length (cellsP (ys ++ [(⟨placeL D n k,some ⟨g3,0,none⟩,n⟩:PL)]))):=by
     show World.ownsRow ..
     rw [HYn.out,cellsP_append]
     have e:cellsP [(⟨placeL D n k,some ⟨g3,0,none⟩,n⟩:PL)]=[.slice (some ⟨g3,0,none⟩) n n]:=by simp [cellsP,placeL_len]
     rw [e]
     exact hown'
    clear hown' hgrow hal
    go_wp2_with fail
    go_roundg (NL-(k+1))
    case measure=>omega
    case rel=>exact ⟨k+1,_,A4,c4,by omega,rfl,by go_num,by rw [HYn.out],HY4,HO4,HB4⟩
   ·have h2f:(kk == 2)=false:=by simpa using h2
    have HY4:Hid (lP ys=cfK CL (placeL D n) (k+1)∧∀ y∈ys,y.p≠[]∧y.p.length≤4∧PlTy wi y.A y.c y.p):=⟨by rw [HY.out.1,HKs.out,if_neg h2,List.append_nil],HY.out.2⟩
    have HO4:Hid (wi.ownsRow w2.heap.size 44 1 (.slice Af ys.length cf) ys.length (cellsP ys)):=by show World.ownsRow ..;rw [Hyl.out];exact HO.out
    clear h2
    go_wp2_with fail
    go_roundg (NL-(k+1))
    case measure=>omega
    case rel=>exact ⟨k+1,ys,Af,cf,by omega,rfl,by go_num,by rw [Hyl.out],HY4,HO4,HBr⟩
  ·have hke:k=NL:=by omega
   subst hke
   have HPf:Hid (lP ys=FL∧PlsV wi Af cf ys∧∀ y∈ys,y.p.length≤4):=by
    obtain ⟨A',c',h1,h2⟩:=pls_own (by rw [Hyl.out];exact HO.out:wi.ownsRow w2.heap.size 44 1 (.slice Af yl cf) ys.length (cellsP ys)) fun y hy=>⟨(HY.out.2 y hy).1,(HY.out.2 y hy).2.2⟩
    cases h1
    refine ⟨?_,h2,fun y hy=>(HY.out.2 y hy).2.1⟩
    rw [HY.out.1,←HFk.out,HNL.out]
   have HCi:Hid (CelV wi Aw cw CL):=HCw.out.later HBr.out
   have hylk2:yl≤3000:=by omega
   obtain ⟨o0,hq⟩:=HBx.out wi HBi.out
   have hc:=HAll.out wi HBi.out
   rw [HNL.out] at hc
   clear hyl HY HO
   go_wp2_with fail
   refine hc.mono ?_
   rintro e w3 ⟨⟨A3,c3,rfl,hC3⟩,hb3⟩
   have HB3:Hid (Below W.heap.size W w3):=onB HBi.out hb3
   have HD3:Hid (CelV w3 A3 c3 CL∧CelV w3 Aw cw CL∧PlsV w3 Af cf ys):=⟨hC3,HCi.out.later hb3,HPf.out.2.1.later hb3⟩
   have hc2:=HEr1.out w3 HB3.out
   clear hc hb3 hC3 o0 hq
   go_wp2_with fail
   refine hc2.mono ?_
   rintro e w4 ⟨rfl,hb4⟩
   have HB4:Hid (Below W.heap.size W w4):=onB HB3.out hb4
   have HP4:Hid (PlsV w4 Af cf ys):=HD3.out.2.2.later hb4
   have hc:=samecells_any A3 Aw c3 cw CL w4 HC3.out (HD3.out.1.later hb4) (HD3.out.2.1.later hb4)
   rw [HNL.out] at hc
   clear hc2 hb4
   go_wp2_with fail
   refine hc.mono ?_
   rintro e w5 ⟨rfl,hb5⟩
   have HB5:Hid (Below W.heap.size W w5):=onB HB4.out hb5
   have HP5:Hid (PlsV w5 Af cf ys):=HP4.out.later hb5
   obtain ⟨o0,hq⟩:=HBx.out w5 HB5.out
   have hc2:=HFau.out w5 HB5.out
   clear hc hb5
   go_wp2_with fail
   refine hc2.mono ?_
   rintro e w6 ⟨⟨A6,c6,ps,rfl,hps,hP6⟩,hb6⟩
   have HB6:Hid (Below W.heap.size W w6):=onB HB5.out hb6
   have HP6:Hid (PlsV w6 A6 c6 ps∧PlsV w6 Af cf ys):=⟨hP6,HP5.out.later hb6⟩
   have HLe:Hid (lP ps=lP ys):=hps.trans HPf.out.1.symm
   have HPl:Hid (ps.length=yl):=by
    have h:=congrArg List.length HLe.out
    rw [lP_len,lP_len,Hyl.out] at h
    exact h
   rw [HPl.out]
   have hc:=HEr1.out w6 HB6.out
   clear hc2 hb6 hps hP6 o0 hq
   go_wp2_with fail
   refine hc.mono ?_
   rintro e w7 ⟨rfl,hb7⟩
   have HB7:Hid (Below W.heap.size W w7):=onB HB6.out hb7
   have hc2:=samepls_any A6 Af c6 cf ps ys w7 HLe.out (by rw [HPl.out];omega) (fun x hx=>by
    have h1:x.p∈lP ps:=List.mem_map.2 ⟨x,hx,rfl⟩
    rw [HLe.out] at h1
    obtain ⟨y,hy,e⟩:=List.mem_map.1 h1
    rw [←e]
    exact HPf.out.2.2 y hy) (HP6.out.1.later hb7) (HP6.out.2.later hb7)
   rw [HPl.out,Hyl.out] at hc2
   clear hc hb7
   go_wp2_with fail
   refine hc2.mono ?_
   rintro e w8 ⟨rfl,hb8⟩
   have HB8:Hid (Below W.heap.size W w8):=onB HB7.out hb8
   obtain ⟨o0,hq⟩:=HBx.out w8 HB8.out
   have hc:=HRi.out w8 HB8.out
   clear hc2 hb8
   go_wp2_with fail
   refine hc.mono ?_
   rintro e w9 ⟨rfl,hb9⟩
   have HB9:Hid (Below W.heap.size W w9):=onB HB8.out hb9
   obtain ⟨ol,hol⟩:∃ ol,OL.length=ol:=⟨_,rfl⟩
   have HOLl:Hid (OL.length=ol):=hol
   clear hc hb9 o0 hq hol
   go_upto_if 75 with fail
   go_cut [17] from 21 (fun s17 wx => ∃ Ao co,s17=.slice Ao ol co∧IntsAt wx Ao co OL∧Below W.heap.size W wx)
   case first =>
    by_cases hz:E2=0
    ·have hs:=HTo.out hz w9 HB9.out
     have HOz:=HOr.out hz
     obtain ⟨o0,hq⟩:=HBx.out w9 HB9.out
     generalize prodN D n=PN at hs HOz
     subst hz
     go_wp2_with fail
     refine hs.mono ?_
     rintro e wa ⟨⟨Aa,ca,yys,rfl,hyl,hYa,hTa⟩,hba⟩
     have HBa:Hid (Below W.heap.size W wa):=onB HB9.out hba
     have hbe:=HOz wa wa Aa ca yys HBa.out hYa hyl hTa (Below.refl _ _)
     rw [HOLl.out] at hbe
     clear hs hba hyl hYa hTa o0 hq HOz
     go_wp2_with fail
     refine hbe.mono ?_
     rintro e wb ⟨⟨Ab,cb,rfl,hIb⟩,hbb⟩
     go_wp2_with fail
     go_meet
     exact ⟨Ab,cb,rfl,hIb,onB HBa.out hbb⟩
    ·have hzf:(E2 == 0)=false:=by simpa using hz
     have HOn:Hid (OL=[]∧ol=0):=by
      have h:=HO0.out hz
      exact ⟨h,by rw [←HOLl.out,h];rfl⟩
     clear hz
     go_wp2_with fail
     go_meet
     exact ⟨none,0,by rw [HOn.out.2],by rw [HOn.out.1];exact IntsAt.nil _ _ _,HB9.out⟩
   case rest =>
   obtain ⟨Ao,co,rfl,hIo,hBc⟩:=hcut
   obtain ⟨wa,rfl⟩:∃ wa:World,wa=wc:=⟨_,rfl⟩
   have HBa:Hid (Below W.heap.size W wa):=hBc
   have HIo:Hid (IntsAt wa Ao co OL):=hIo
   obtain ⟨o0,hq⟩:=HBx.out wa HBa.out
   have hc:=HOrd.out wa HBa.out
   rw [HOLl.out] at hc
   clear hIo hBc
   go_wp2_with fail
   refine hc.mono ?_
   rintro e wb ⟨⟨Ab,cb,rfl,hIb⟩,hbb⟩
   have HBb:Hid (Below W.heap.size W wb):=onB HBa.out hbb
   have HIb:Hid (IntsAt wb Ab cb OL∧IntsAt wb Ao co OL):=⟨hIb,HIo.out.later hbb⟩
   have hc2:=HEr2.out wb HBb.out
   clear hc hIb hbb o0 hq
   go_wp2_with fail
   refine hc2.mono ?_
   rintro e wd ⟨rfl,hbd⟩
   have HBd:Hid (Below W.heap.size W wd):=onB HBb.out hbd
   have hc:=sameints_big Ab Ao cb co OL wd HOl.out (HIb.out.1.later hbd) (HIb.out.2.later hbd)
   rw [HOLl.out] at hc
   clear hc2 hbd
   go_wp2_with fail
   refine hc.mono ?_
   rintro e we ⟨rfl,hbe⟩
   have HBe:Hid (Below W.heap.size W we):=onB HBd.out hbe
   clear hc hbe
   go_wp2_with fail
   first | (go_quiet (fail);go_wp2_with fail) | skip
   go_ret
   exact ⟨by simp,by first | exact onB HB0.out HBe.out | exact below_drewN (onB HB0.out HBe.out) _⟩
end Go.Proofs.YtigkeokacagabafGreatDoor
