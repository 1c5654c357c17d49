/-
  WHAT A CHANGE KEEPS: the walk of tallylaw3.ChangeKeeps.
-/
import Derived.Test.YtglekooldbeklaaGreatDoorJKBR
import Derived.Test.YtglekooldbeklaaGreatDoorJKBS
namespace Go.Proofs.YtglekooldbeklaaGreatDoor
open Go.ChangeShapes Go.WideShapes Go.ChangeAt Go.RowKit Go.Lib
set_option maxRecDepth 100000
theorem kp_dims {w X1 X2 X3:World} (h1:w.alloc (.cells #[.string ⟨#[98]⟩,.int .i64 (-1),.int .i64 0,.string ⟨#[]⟩] 29)=X1) (h2:X1.alloc (.cells #[.string ⟨#[97]⟩,.int .i64 0,.slice (some ⟨w.heap.size,0,none⟩) 1 1] 32)=X2) (h3:X2.alloc (.cells #[.slice (some ⟨X1.heap.size,0,none⟩) 1 1] 24)=X3) :
  DimsV X3 (some ⟨X1.heap.size,0,none⟩) 1 1 kpD (fun _=>some ⟨w.heap.size,0,none⟩) (fun _=>1)∧X3.cell? ⟨X2.heap.size,0,none⟩=some (.slice (some ⟨X1.heap.size,0,none⟩) 1 1)∧Below w.heap.size w X3:=by
 have b1:Below w.heap.size w X1:=by rw [←h1];go_grown
 have b2:Below X1.heap.size X1 X2:=by rw [←h2];go_grown
 have b3:Below X2.heap.size X2 X3:=by rw [←h3];go_grown
 have k1:X1.heap[w.heap.size]?=some (.cells #[.string ⟨#[98]⟩,.int .i64 (-1),.int .i64 0,.string ⟨#[]⟩] 29 (0,0)):=by rw [←h1];exact heap_alloc_new ..
 have k2:X2.heap[X1.heap.size]?=some (.cells #[.string ⟨#[97]⟩,.int .i64 0,.slice (some ⟨w.heap.size,0,none⟩) 1 1] 32 (0,0)):=by rw [←h2];exact heap_alloc_new ..
 have k3:X3.heap[X2.heap.size]?=some (.cells #[.slice (some ⟨X1.heap.size,0,none⟩) 1 1] 24 (0,0)):=by rw [←h3];exact heap_alloc_new ..
 have b13:=onB b2 b3
 have m1:X3.heap[w.heap.size]?=some (.cells #[.string ⟨#[98]⟩,.int .i64 (-1),.int .i64 0,.string ⟨#[]⟩] 29 (0,0)):=(b13.block _ (Array.getElem?_eq_some_iff.1 k1).1).trans k1
 have m2:X3.heap[X1.heap.size]?=some (.cells #[.string ⟨#[97]⟩,.int .i64 0,.slice (some ⟨w.heap.size,0,none⟩) 1 1] 32 (0,0)):=(b3.block _ (Array.getElem?_eq_some_iff.1 k2).1).trans k2
 refine ⟨⟨Nat.le_refl _,Or.inr ⟨_,0,rfl,(Array.getElem?_eq_some_iff.1 m2).1,fun i hi=>?_⟩⟩,(Lib.cell_of_heap k3 0).trans rfl,onB b1 b13⟩
 obtain rfl:i=0:=by omega
 refine ⟨(Lib.cell_of_heap m2 0).trans rfl,(Lib.cell_of_heap m2 1).trans rfl,(Lib.cell_of_heap m2 2).trans rfl,Nat.le_refl _,Or.inr ⟨_,0,rfl,(Array.getElem?_eq_some_iff.1 m1).1,fun i hi=>?_⟩⟩
 have hi':i<1:=hi
 obtain rfl:i=0:=by omega
 exact ⟨(Lib.cell_of_heap m1 0).trans rfl,(Lib.cell_of_heap m1 1).trans rfl,(Lib.cell_of_heap m1 2).trans rfl,(Lib.cell_of_heap m1 3).trans rfl⟩
set_option maxHeartbeats 64000000 in
theorem keeps_law (A0:Option Addr) (cap n:Nat) (D:Nat→Dm) (A:Nat→Option Addr) (C:Nat→Nat) (AE:Option Addr) (ce:Nat) (xs:List EnL) (c:Chg) (w:World) (hE:TabE w) (hM:DimsV w A0 cap n D A C) (hEn:EnsV w AE ce xs) :
  Calls Tryz.prog 3 #[.agg #[.slice A0 n cap],.slice AE xs.length ce,chgV c] w fun e w'=>e=.returned (.bool true)∧Below w.heap.size w w':=by
 obtain ⟨what,dim,mb,name,tgt,sign⟩:=c
 unfold chgV
 simp only
 obtain ⟨V0,hV0⟩:∃ x,w.alloc (.cells #[.slice A0 n cap] 24)=x:=⟨_,rfl⟩
 obtain ⟨V,hV⟩:∃ x,V0.alloc (.cells #[.int .i64 what,.int .i64 dim,.int .i64 mb,.string name,.int .i64 tgt,.int .i64 sign] 27)=x:=⟨_,rfl⟩
 have hb0:Below w.heap.size w V0:=by rw [←hV0];go_grown
 have hb1:Below V0.heap.size V0 V:=by rw [←hV];go_grown
 have k0:V0.heap[w.heap.size]?=some (.cells #[.slice A0 n cap] 24 (0,0)):=by rw [←hV0];exact heap_alloc_new ..
 have k1:V.heap[V0.heap.size]?=some (.cells #[.int .i64 what,.int .i64 dim,.int .i64 mb,.string name,.int .i64 tgt,.int .i64 sign] 27 (0,0)):=by rw [←hV];exact heap_alloc_new ..
 have HS:Hid (∀ w',Below V.heap.size V w'→w'.cell? ⟨w.heap.size,0,none⟩=some (.slice A0 n cap)∧w'.cell? ⟨V0.heap.size,0,none⟩=some (.int .i64 what)∧w'.cell? ⟨V0.heap.size,1,none⟩=some (.int .i64 dim)∧w'.cell? ⟨V0.heap.size,2,none⟩=some (.int .i64 mb)∧w'.cell? ⟨V0.heap.size,3,none⟩=some (.string name)∧w'.cell? ⟨V0.heap.size,4,none⟩=some (.int .i64 tgt)∧w'.cell? ⟨V0.heap.size,5,none⟩=some (.int .i64 sign)):=fun w' hb=>by
  have e0:w'.heap[w.heap.size]?=_:=(hb.block _ (Nat.lt_of_lt_of_le (Array.getElem?_eq_some_iff.1 k0).1 hb1.size)).trans ((hb1.block _ (Array.getElem?_eq_some_iff.1 k0).1).trans k0)
  have e1:w'.heap[V0.heap.size]?=_:=(hb.block _ (Array.getElem?_eq_some_iff.1 k1).1).trans k1
  exact ⟨(Lib.cell_of_heap e0 0).trans rfl,(Lib.cell_of_heap e1 0).trans rfl,(Lib.cell_of_heap e1 1).trans rfl,(Lib.cell_of_heap e1 2).trans rfl,(Lib.cell_of_heap e1 3).trans rfl,(Lib.cell_of_heap e1 4).trans rfl,(Lib.cell_of_heap e1 5).trans rfl⟩
 have HBV:=hid_of (onB hb0 hb1)
 have HM:=hid_of hM
 have HEn:=hid_of hEn
 have HE:=hid_of hE
 obtain ⟨xl,hxl⟩:∃ xl,xs.length=xl:=⟨_,rfl⟩
 have HXl:=hid_of hxl
 have HDo:Hid (∀ w' c,Below w.heap.size w w'→Calls Tryz.prog 5 #[.agg #[.slice A0 n cap],.slice AE xl ce,chgV c] w' (ChV w'.heap.size (chD D c) (chN D n (lE xs) c) (chL D n (lE xs) c) (chE D n (lE xs) c) w')):=fun w' c hb=>by
  rw [←HXl.out]
  exact do_any A0 cap n D A C AE ce xs c w' (HM.out.later hb) (HEn.out.later hb) (HE.out.later hb)
 have HCa:Hid (∀ w',Below w.heap.size w w'→Calls Tryz.prog 6 #[.agg #[.slice A0 n cap],.slice AE xl ce] w' fun e w''=>(∃ A' c',e=.returned (.tuple #[.slice A' (caL D n (lE xs)).length c',errV (cuErr D n (lE xs))])∧CelV w'' A' c' (caL D n (lE xs)))∧Below w'.heap.size w' w''):=fun w' hb=>by
  rw [←HXl.out]
  exact call_any A0 cap n D A C AE ce xs w' (HM.out.later hb) (HEn.out.later hb)
 rw [hxl]
 obtain ⟨X1,hX1⟩:∃ x,V.alloc (.cells #[.string ⟨#[98]⟩,.int .i64 (-1),.int .i64 0,.string ⟨#[]⟩] 29)=x:=⟨_,rfl⟩
 obtain ⟨X2,hX2⟩:∃ x,X1.alloc (.cells #[.string ⟨#[97]⟩,.int .i64 0,.slice (some ⟨V.heap.size,0,none⟩) 1 1] 32)=x:=⟨_,rfl⟩
 obtain ⟨X3,hX3⟩:∃ x,X2.alloc (.cells #[.slice (some ⟨X1.heap.size,0,none⟩) 1 1] 24)=x:=⟨_,rfl⟩
 obtain ⟨hXd,x0,hbX⟩:=kp_dims hX1 hX2 hX3
 have HBX:=hid_of hbX
 have h2:Calls Tryz.prog 5 #[.agg #[.slice (some ⟨X1.heap.size,0,none⟩) 1 1],.slice none 0 0,.agg #[.int .i64 1,.int .i64 0,.int .i64 0,.string ⟨#[99]⟩,.int .i64 0,.int .i64 1]] X3 fun e w'=>(∃ A' c' Am Cm AE' ce' yl,e=.returned (.tuple #[.agg #[.slice A' 1 c'],.slice AE' yl ce',.nilIface])∧DimsV w' A' c' 1 (chD kpD kpC) Am Cm)∧Below X3.heap.size X3 w':=by
  obtain ⟨z1,z2,z3⟩:=kp_ok
  have h:=do_any (some ⟨X1.heap.size,0,none⟩) 1 1 kpD (fun _=>some ⟨V.heap.size,0,none⟩) (fun _=>1) none 0 [] kpC X3 hXd (EnsV.nil _ _ _ (by omega)) (HE.out.later (onB HBV.out hbX))
  refine Calls.mono h ?_
  rintro e w' ⟨⟨A',c',Am,Cm,AE',ce',ys,he,hD,-,-⟩,hb⟩
  rw [show chE kpD 1 (lE []) kpC=0 from z1,show chN kpD 1 (lE []) kpC=1 from z2,errV_zero] at he
  rw [show chN kpD 1 (lE []) kpC=1 from z2] at hD
  exact ⟨⟨A',c',Am,Cm,AE',ce',_,he,hD⟩,hb⟩
 clear hM hEn hE hxl hb0 hb1 k0 k1 hXd hbX
 go_enter Tryz.func3,Tryz.ntmps3
 go_wp2_with fail
 refine h2.mono ?_
 rintro e w2 ⟨⟨A2,c2,Am2,Cm2,AE2,ce2,yl2,rfl,hD2⟩,hb2⟩
 obtain ⟨-,h0 | ⟨bf,off,rfl,-,hDc⟩⟩:=hD2
 ·omega
 obtain ⟨-,-,hd3,-⟩:=hDc 0 (by omega)
 rw [kp_ok.2.2] at hd3
 simp only [Nat.zero_mul,Nat.add_zero] at hd3
 have hd3':w2.cell? ⟨bf,off+2,none⟩=some (.slice (Am2 0) 2 (Cm2 0)):=hd3
 generalize Am2 0=Am at hd3'
 generalize Cm2 0=Cm at hd3'
 obtain ⟨Y1,hY1⟩:∃ Y1,w2.alloc (.cells #[.slice (some ⟨bf,off,none⟩) 1 c2] 24)=Y1:=⟨_,rfl⟩
 have hbY:Below w2.heap.size w2 Y1:=by rw [←hY1];exact (Below.refl _ _).alloc (Nat.le_refl _) _
 have hcY:Y1.heap[w2.heap.size]?=some (.cells #[.slice (some ⟨bf,off,none⟩) 1 c2] 24 (0,0)):=by rw [←hY1];exact heap_alloc_new ..
 have y0:Y1.cell? ⟨w2.heap.size,0,none⟩=some (.slice (some ⟨bf,off,none⟩) 1 c2):=(Lib.cell_of_heap hcY 0).trans rfl
 have y1:=cell_laterQ hd3' hbY
 have HBY:=hid_of (onB HBX.out (onB hb2 hbY))
 have HBYw:=hid_of (onB HBV.out HBY.out)
 obtain ⟨v0,v1,v2,v3,v4,v5,v6⟩:=HS.out Y1 HBY.out
 have h3:=HDo.out Y1 ⟨what,dim,mb,name,tgt,sign⟩ HBYw.out
 unfold chgV at h3
 obtain ⟨cc,hcc⟩:∃ cc:Chg,(⟨what,dim,mb,name,tgt,sign⟩:Chg)=cc:=⟨_,rfl⟩
 have HCc:=hid_of hcc
 simp only at h3
 rw [hcc] at h3
 clear h2 hb2 hDc hd3 hd3' hbY hcY hcc x0 hX1 hX2 hX3 hV0 hV
 by_cases hok:chE D n (lE xs) cc=0
 case neg =>
  have hVe:=errV_some hok
  generalize chE D n (lE xs) cc=E at h3 hVe
  have h4:Calls Tryz.prog 5 #[.agg #[.slice A0 n cap],.slice AE xl ce,.agg #[.int .i64 what,.int .i64 dim,.int .i64 mb,.string name,.int .i64 tgt,.int .i64 sign]] Y1 fun e w'=>(∃ A' n' c' AE' yl ce',e=.returned (.tuple #[.agg #[.slice A' n' c'],.slice AE' yl ce',.iface 58 (.int .i64 E)]))∧Below Y1.heap.size Y1 w':=h3.mono fun e w' ⟨⟨A',c',Am,Cm,AE',ce',ys,he,hD,_⟩,hb⟩=>by
   rw [hVe] at he
   exact ⟨⟨A',_,c',AE',_,ce',he⟩,hb⟩
  clear h3 hok hVe
  go_wp2_with fail
  refine h4.mono ?_
  rintro e w3 ⟨⟨A',n',c',AE',yl,ce',rfl⟩,hb3⟩
  have HB3:=hid_of (onB HBYw.out hb3)
  clear h4 hb3
  go_wp2_with fail
  go_ret
  exact ⟨rfl,HB3.out.alloc HB3.out.size _⟩
 obtain ⟨hcu,k,hdk,hkn,-,-,-⟩:=ch_parts hok
 have hcu':=keeps_cu hok
 rw [show cc.dim=dim by rw [←HCc.out]] at hdk
 subst hdk
 have HKn:=hid_of hkn
 have HOk:=hid_of hok
 have hkI:(k:Int)<(n:Int):=by omega
 have hk0:(0:Int)≤(k:Int):=by omega
 obtain ⟨hru,hEns⟩:=cu_parts hcu
 obtain ⟨hAl,hRr⟩:=ru_parts hru
 have hn4:n≤4:=(allErr_some hAl).2.1
 have hp3:=(allErr_some hAl).2.2.1
 have hd12:∀ i,i<n→(D i).n≤12:=fun i hi=>(dimErr_right ((allErr_right hAl).2 i hi)).2.2.1
 have hxn:xs.length≤3000:=by rw [←lE_len];exact hEns.few
 have hx4:∀ j,j<xs.length→(xs.getD j noL).e.pl.length≤4:=fun j hj=>by
  have:=(hEns.each (xs.getD j noL).e (by unfold lE;exact List.mem_map.2 ⟨_,enl_mem hj,rfl⟩)).1.len
  omega
 have HN4:=hid_of (And.intro hn4 (And.intro hp3 (And.intro hd12 (And.intro hxn (And.intro hx4 hAl)))))
 have hLa:(caL D n (lE xs)).length=prodN D n:=caL_len hcu
 have h4:Calls Tryz.prog 5 #[.agg #[.slice A0 n cap],.slice AE xl ce,.agg #[.int .i64 what,.int .i64 k,.int .i64 mb,.string name,.int .i64 tgt,.int .i64 sign]] Y1 fun e w'=>(∃ A' c' Am Cm AE' ce' ys,e=.returned (.tuple #[.agg #[.slice A' n c'],.slice AE' ys.length ce',.nilIface])∧DimsV w' A' c' n (chD D cc) Am Cm∧EnsV w' AE' ce' ys∧lE ys=chL D n (lE xs) cc)∧Below Y1.heap.size Y1 w':=h3.mono fun e w' ⟨⟨A',c',Am,Cm,AE',ce',ys,he,hD,hEn',hl⟩,hb⟩=>by
  rw [show chN D n (lE xs) cc=n from if_pos hok] at he hD
  rw [hok,errV_zero] at he
  exact ⟨⟨A',c',Am,Cm,AE',ce',ys,he,hD,hEn',hl⟩,hb⟩
 have HCu:=hid_of (And.intro hcu hcu')
 clear h3 hru hEns hAl hRr hn4 hp3 hd12 hxn hx4 hok hcu hcu' hkn
 go_wp2_with fail
 refine h4.mono ?_
 rintro e w3 ⟨⟨A3,c3,Am3,Cm3,AE3,ce3,ys,rfl,hD3,hE3,hl3⟩,hb3⟩
 obtain ⟨Y2,hY2⟩:∃ Y2,w3.alloc (.cells #[.slice A3 n c3] 24)=Y2:=⟨_,rfl⟩
 have hbY:Below w3.heap.size w3 Y2:=by rw [←hY2];exact (Below.refl _ _).alloc (Nat.le_refl _) _
 have hcY:Y2.heap[w3.heap.size]?=some (.cells #[.slice A3 n c3] 24 (0,0)):=by rw [←hY2];exact heap_alloc_new ..
 have HBZ:=hid_of (onB HBY.out (onB hb3 hbY))
 have HBZw:=hid_of (onB HBV.out HBZ.out)
 have HST:Hid (∀ w',Below Y2.heap.size Y2 w'→w'.cell? ⟨w.heap.size,0,none⟩=some (.slice A0 n cap)∧w'.cell? ⟨V0.heap.size,0,none⟩=some (.int .i64 what)∧w'.cell? ⟨V0.heap.size,1,none⟩=some (.int .i64 k)∧w'.cell? ⟨V0.heap.size,2,none⟩=some (.int .i64 mb)∧w'.cell? ⟨V0.heap.size,4,none⟩=some (.int .i64 tgt)∧w'.cell? ⟨w3.heap.size,0,none⟩=some (.slice A3 n c3)):=fun w' hb=>by
  obtain ⟨u0,u1,u2,u3,-,u5,-⟩:=HS.out w' (onB HBZ.out hb)
  have e1:w'.heap[w3.heap.size]?=_:=(hb.block _ (Array.getElem?_eq_some_iff.1 hcY).1).trans hcY
  exact ⟨u0,u1,u2,u3,u5,(Lib.cell_of_heap e1 0).trans rfl⟩
 obtain ⟨u0,u1,u2,u3,u4,u5⟩:=HST.out Y2 (Below.refl _ _)
 obtain ⟨yl,hyl⟩:∃ yl,ys.length=yl:=⟨_,rfl⟩
 have HYl:=hid_of hyl
 have HDY:=hid_of (hD3.later hbY)
 have HEY:=hid_of (hE3.later hbY)
 have HL3:=hid_of hl3
 obtain ⟨na,hna⟩:∃ na,(caL D n (lE xs)).length=na:=⟨_,rfl⟩
 have HNa:=hid_of hna
 obtain ⟨nb,hnb⟩:∃ nb,(caL (chD D cc) n (chL D n (lE xs) cc)).length=nb:=⟨_,rfl⟩
 have HNb:=hid_of hnb
 have h5:=HCa.out Y2 HBZw.out
 rw [HCu.out.1,errV_zero,hna] at h5
 have HCb:Hid (∀ w',Below Y2.heap.size Y2 w'→Calls Tryz.prog 6 #[.agg #[.slice A3 n c3],.slice AE3 yl ce3] w' fun e w''=>(∃ A' c',e=.returned (.tuple #[.slice A' nb c',.nilIface])∧CelV w'' A' c' (caL (chD D cc) n (chL D n (lE xs) cc)))∧Below w'.heap.size w' w''):=fun w' hb=>by
  have h:=call_any A3 c3 n (chD D cc) Am3 Cm3 AE3 ce3 ys w' (HDY.out.later hb) (HEY.out.later hb)
  rw [HYl.out,HL3.out,HCu.out.2,errV_zero,HNb.out] at h
  exact h
 rw [hyl]
 clear h4 hb3 hD3 hE3 hl3 hyl hbY hcY hna hnb v0 v1 v2 v3 v4 v5 v6 y0 y1 hY1
 go_wp2_with fail
 refine h5.mono ?_
 rintro e w4 ⟨⟨Aa,ca,rfl,hCa⟩,hb4⟩
 have HA4:=hid_of hCa
 have HB4:=hid_of hb4
 have h6:=HCb.out w4 HB4.out
 obtain ⟨t0,t1,t2,t3,t4,t5⟩:=HST.out w4 HB4.out
 clear h5 hCa hb4 u0 u1 u2 u3 u4 u5 hY2
 go_wp2_with fail
 refine h6.mono ?_
 rintro e w5 ⟨⟨Ab,cb,rfl,hCb⟩,hb5⟩
 have HA5:=hid_of (HA4.out.later hb5)
 have HC5:=hid_of hCb
 have HB5:=hid_of (onB HB4.out hb5)
 have HB5w:=hid_of (onB HBZw.out HB5.out)
 obtain ⟨u0,u1,u2,u3,u4,u5⟩:=HST.out w5 HB5.out
 clear h6 hCb hb5 t0 t1 t2 t3 t4 t5
 go_upto_region 12 with fail
 generalize w3.heap.size=bx at *
 generalize V0.heap.size=bc at *
 by_cases hw3:what=3
 ·subst hw3
  have hLL:caL (chD D cc) n (chL D n (lE xs) cc)=caL D n (lE xs):=keeps_ren HOk.out (by rw [←HCc.out])
  have h7:Calls Tryz.prog 7 #[.slice Aa na ca,.slice Ab nb cb] w5 fun e w'=>e=.returned (.bool true)∧Below w5.heap.size w5 w':=by
   have h:=samecells_any Aa Ab ca cb (caL D n (lE xs)) w5 (by rw [hLa];exact HN4.out.2.1) HA5.out (by have:=HC5.out;rw [hLL] at this;exact this)
   have e:nb=na:=by rw [←HNb.out,hLL,HNa.out]
   rw [HNa.out] at h
   rw [e]
   exact h
  clear hLL hLa
  go_wp2_with fail
  refine h7.mono ?_
  rintro e w6 ⟨rfl,hb6⟩
  have HB6:=hid_of (onB HB5w.out hb6)
  clear h7 hb6
  go_wp2_with fail
  go_ret
  exact ⟨rfl,HB6.out⟩
 have hb3':(what == 3)=false:=by simpa using hw3
 by_cases hw1:what=1
 ·subst hw1
  by_cases ht:tgt = -1
  ·subst ht
   have HKe:Hid (∀ j,j<prodN D n→placeErr (chD D cc) n (placeL D n j)=0∧∃ m:Nat,numV (chD D cc) n (placeL D n j)=(m:Int)∧m<prodN (chD D cc) n∧(caL (chD D cc) n (chL D n (lE xs) cc)).getD m noC=(caL D n (lE xs)).getD j noC):=fun j hj=>keeps_add HOk.out (by rw [←HCc.out]) (by rw [←HCc.out]) hj
   have HLb:Hid (nb=prodN (chD D cc) n):=by show _=_;rw [←HNb.out];exact caL_len HCu.out.2
   have HLa:Hid (na=prodN D n):=by show _=_;rw [←HNa.out];exact hLa
   have HPof:Hid (∀ w' j,Below w.heap.size w w'→j<prodN D n→Calls Tryz.prog 8 #[.agg #[.slice A0 n cap],.int .i64 (j:Nat)] w' fun e w''=>(∃ g,e=.returned (.tuple #[.slice (some ⟨g,0,none⟩) n n,.nilIface])∧w'.heap.size≤g∧IntB w'' g (placeL D n j))∧Below w'.heap.size w' w''):=fun w' j hb hj=>pof_blk A0 cap n D A C j w' HN4.out.2.2.2.2.2 hj (HM.out.later hb)
   have HPnu:Hid (∀ w' g j (m:Nat),Below Y2.heap.size Y2 w'→IntB w' g (placeL D n j)→placeErr (chD D cc) n (placeL D n j)=0→numV (chD D cc) n (placeL D n j)=(m:Int)→Calls Tryz.prog 9 #[.agg #[.slice A3 n c3],.slice (some ⟨g,0,none⟩) n n] w' fun e w''=>e=.returned (.tuple #[.int .i64 m,.nilIface])∧Below w'.heap.size w' w''):=fun w' g j m hb hI hpe hm=>by
    have h:=pnumber_any A3 c3 n (chD D cc) Am3 Cm3 (some ⟨g,0,none⟩) (placeL D n j).length (placeL D n j) w' (HDY.out.later hb) hI.pl
    rw [hpe,hm,errV_zero,placeL_len] at h
    exact h
   have hnaI:(na:Int)≤3000:=by have:=HLa.out;have:=HN4.out.2.1;omega
   clear hLa u0 u1 u2 u3 u4 u5
   obtain ⟨u0,u1,u2,u3,u4,u5⟩:=HST.out w5 HB5.out
   go_wp2_with fail
   have hdn:decide (n≤k)=false:=decide_eq_false (by omega)
   have hdk:decide ((k:Int)<0)=false:=decide_eq_false (by omega)
   simp only [hdn,hdk,Bool.or_false]
   go_loopg [18,19,20,21,22] na (fun gg s18 _ _ _ _ wr => ∃ j:Nat,j≤na∧gg=na-j∧s18=.int .i64 j∧Hid (Below w5.heap.size w5 wr))
   case atStart=>exact ⟨0,Nat.zero_le _,rfl,rfl,Below.refl _ _⟩
   case round =>
    obtain ⟨j,hj,rfl,rfl,HBr⟩:=hrel
    obtain ⟨wk,rfl⟩:∃ wk:World,wk=wr:=⟨_,rfl⟩
    have HBk:=hid_of (onB HB5.out HBr.out)
    have HBkw:=hid_of (onB HB5w.out HBr.out)
    clear u0 u1 u2 u3 u4 u5
    obtain ⟨u0,-,-,-,-,u5⟩:=HST.out wk HBk.out
    by_cases hlt:j<na
    ·have hjI:(j:Int)<(na:Int):=by omega
     have hjp:j<prodN D n:=by rw [←HLa.out];exact hlt
     obtain ⟨hpe,m,hnum,hmp,heq⟩:=HKe.out j hjp
     rw [←HLb.out] at hmp
     have h8:=HPof.out wk j HBkw.out hjp
     have HPe:=hid_of (And.intro hpe hnum)
     have HEq:=hid_of heq
     clear hpe hnum heq
     go_wp2_with fail
     refine h8.mono ?_
     rintro e w6 ⟨⟨g,rfl,-,hI⟩,hb6⟩
     have HB6:=hid_of (onB HBr.out hb6)
     have HB6y:=hid_of (onB HBk.out hb6)
     have h9:=HPnu.out w6 g j m HB6y.out hI HPe.out.1 HPe.out.2
     obtain ⟨-,-,-,-,-,t5⟩:=HST.out w6 HB6y.out
     clear h8 hb6 hI u0 u5
     go_wp2_with fail
     refine h9.mono ?_
     rintro e w7 ⟨rfl,hb7⟩
     have HB7:=hid_of (onB HB6.out hb7)
     obtain ⟨hca,-,h0 | ⟨ba,oa,rfl,hba,hcla⟩⟩:=HA5.out.later HB7.out
     ·have:=HNa.out;rw [h0] at this;simp at this;omega
     obtain ⟨hcb,-,h0 | ⟨bb,ob,rfl,hbb,hclb⟩⟩:=HC5.out.later HB7.out
     ·have:=HNb.out;rw [h0] at this;simp at this;omega
     obtain ⟨a0,a1⟩:=hcla j (by rw [HNa.out];exact hlt)
     obtain ⟨b0,b1⟩:=hclb m (by rw [HNb.out];exact hmp)
     rw [HEq.out] at b0 b1
     rw [HNa.out] at hca
     rw [HNb.out] at hcb
     generalize ((caL D n (lE xs)).getD j noC).1=x at a0 b0
     generalize ((caL D n (lE xs)).getD j noC).2=y at a1 b1
     have hcaI:(na:Int)≤(ca:Int):=by omega
     have hcbI:(nb:Int)≤(cb:Int):=by omega
     have hmI:(m:Int)<(nb:Int):=by omega
     have hd1:decide ((m:Int)<0)=false:=decide_eq_false (by omega)
     have hd2:decide (nb≤m)=false:=decide_eq_false (by omega)
     clear h9 hb7 t5 hcla hclb
     go_wp2_with fail
     go_quiet (fail)
     go_wp2_with fail
     go_roundg (na-(j+1))
     case measure=>omega
     case rel=>exact ⟨j+1,by omega,rfl,by go_num,hid_of (onB HB7.out (below_drewN (Below.refl _ _) _))⟩
    ·have hje:j=na:=by omega
     subst hje
     go_wp2_with fail
     go_ret
     exact ⟨rfl,HBkw.out⟩
  ·have htb:(tgt == -1)=false:=by simpa using ht
   have hmore:=keeps_more HOk.out (by rw [←HCc.out])
   rw [HNa.out,HNb.out] at hmore
   have hmI:(na:Int)<(nb:Int):=by omega
   clear hmore hLa
   go_wp2_with fail
   go_ret
   exact ⟨by simp,HB5w.out⟩
 have hb1':(what == 1)=false:=by simpa using hw1
 by_cases hw5:what=5
 ·subst hw5
  obtain ⟨k',i,hk',-,hmi,hi⟩:=keeps_mb HOk.out (by rw [←HCc.out];show (5:Int)≠1;decide)
  rw [show cc.dim=(k:Int) by rw [←HCc.out]] at hk'
  rw [show cc.mb=mb by rw [←HCc.out]] at hmi
  obtain rfl:k'=k:=by omega
  subst hmi
  have hrb:=res_back (D:=D) (n:=n) (l:=lE xs) (nm:=name) (tgt:=tgt) (sign:=sign) HKn.out hi (by rw [HCc.out];exact HOk.out)
  rw [HCc.out] at hrb
  have HRb:=hid_of hrb
  obtain ⟨was,hwas⟩:∃ x,((D k').mem i).sign=x:=⟨_,rfl⟩
  obtain ⟨dn,hdn⟩:∃ x,(D k').n=x:=⟨_,rfl⟩
  have HWas:=hid_of hwas
  have HDn:=hid_of hdn
  obtain ⟨hnc,h0 | ⟨b0,o0,hA0,hb0l,hDc⟩⟩:=HM.out
  ·have:=HKn.out;omega
  obtain ⟨-,-,hd2,hmc,h0 | ⟨bm,om,hAk,hbm,hMm⟩⟩:=hDc k' HKn.out
  ·omega
  have hs2:=(hMm i hi).2.2.1
  rw [hwas] at hs2
  rw [hdn,hAk] at hd2
  rw [hdn] at hmc hi
  subst hA0
  have HMs:Hid (∀ w',Below w.heap.size w w'→w'.cell? ⟨b0,o0+k'*3+2,none⟩=some (.slice (some ⟨bm,om,none⟩) dn (C k'))∧w'.cell? ⟨bm,om+i*4+2,none⟩=some (.int .i64 was)):=fun w' hb=>⟨(hb.cell (p:=⟨b0,o0+k'*3+2,none⟩) hb0l).trans hd2,(hb.cell (p:=⟨bm,om+i*4+2,none⟩) hbm).trans hs2⟩
  generalize C k'=ck at hmc HMs hd2
  have hncI:(n:Int)≤(cap:Int):=by omega
  have hmcI:(dn:Int)≤(ck:Int):=by omega
  have hiI:(i:Int)<(dn:Int):=by omega
  have hi0:(0:Int)≤(i:Int):=by omega
  have hdd:decide ((i:Int)<0)=false:=decide_eq_false (by omega)
  have hdd2:decide (dn≤i)=false:=decide_eq_false (by omega)
  have HDo2:Hid (∀ w',Below Y2.heap.size Y2 w'→Calls Tryz.prog 5 #[.agg #[.slice A3 n c3],.slice AE3 yl ce3,.agg #[.int .i64 5,.int .i64 k',.int .i64 i,.string ⟨#[]⟩,.int .i64 0,.int .i64 was]] w' fun e w''=>(∃ A' c' AE' ce' zl,e=.returned (.tuple #[.agg #[.slice A' n c'],.slice AE' zl ce',.nilIface])∧Hid (∃ Am Cm zs,DimsV w'' A' c' n D Am Cm∧zs.length=zl∧EnsV w'' AE' ce' zs∧lE zs=lE xs))∧Below w'.heap.size w' w''):=fun w' hb=>by
   obtain ⟨g1,g2,g3,g4,g5⟩:=HRb.out
   rw [HWas.out] at g3 g4 g5
   have h:=do_any A3 c3 n (chD D cc) Am3 Cm3 AE3 ce3 ys ⟨5,k',i,⟨#[]⟩,0,was⟩ w' (HDY.out.later hb) (HEY.out.later hb) (HE.out.later (onB HBZw.out hb))
   rw [HYl.out,HL3.out,g1] at h
   refine Calls.mono h ?_
   rintro e w'' ⟨⟨A',c',Am,Cm,AE',ce',zs,he,hD,hEn',hl⟩,hb'⟩
   rw [show chN (chD D cc) n (lE xs) ⟨5,k',i,⟨#[]⟩,0,was⟩=n from if_pos g3] at he hD
   rw [g3,errV_zero] at he
   rw [g4] at hD
   exact ⟨⟨A',c',AE',ce',_,he,Am,Cm,zs,hD,rfl,hEn',hl.trans g5⟩,hb'⟩
  have HOut:Hid (∀ (A9:Option Addr) (c9:Nat) (A':Nat→Option Addr) (C':Nat→Nat) (w':World),Below w.heap.size w w'→DimsV w' A9 c9 n D A' C'→Calls Tryz.prog 11 #[.agg #[.slice A9 n c9],.agg #[.slice (some ⟨b0,o0,none⟩) n cap]] w' fun e w''=>e=.returned (.bool true)∧Below w'.heap.size w' w''):=fun A9 c9 A' C' w' hb hD=>sameout_any A9 _ c9 cap n D A' C' A C w' HN4.out.1 HN4.out.2.2.1 hD (HM.out.later hb)
  have HSE:Hid (∀ (AE':Option Addr) (ce':Nat) (zs:List EnL) (w':World),Below w.heap.size w w'→EnsV w' AE' ce' zs→lE zs=lE xs→Calls Tryz.prog 12 #[.slice AE' zs.length ce',.slice AE xl ce] w' fun e w''=>e=.returned (.bool true)∧Below w'.heap.size w' w''):=fun AE' ce' zs w' hb hE' he=>by
   obtain ⟨-,-,-,hxn,hx4,-⟩:=HN4.out
   have hyl:zs.length=xs.length:=by rw [←lE_len,he,lE_len]
   have hget:∀ j,(zs.getD j noL).e=(xs.getD j noL).e:=fun j=>by rw [←lE_at,←lE_at,he]
   have h9:=sameents_any AE' AE ce' ce zs xs w' he (by omega) (fun j hj=>by rw [hget];exact hx4 j (by omega)) hE' (HEn.out.later hb)
   rw [HXl.out] at h9
   exact h9
  clear hrb hwas hdn hDc hMm hd2 hs2 hLa hAk
  obtain ⟨r0,r1⟩:=HMs.out w5 HB5w.out
  go_upto_region 27 with fail
  go_quiet (fail)
  have HQ:=hid_of (below_drewN (Below.refl w5.heap.size w5) nq)
  generalize w5.drewN nq=wq at HQ
  have HQy:=hid_of (onB HB5.out HQ.out)
  clear u0 u1 u2 u3 u4 u5 r0 r1
  obtain ⟨u0,u1,u2,u3,u4,u5⟩:=HST.out wq HQy.out
  obtain ⟨r0,r1⟩:=HMs.out wq (onB HBZw.out HQy.out)
  go_upto_region 29 with fail
  go_quiet (fail)
  have HP:=hid_of (below_drewN (Below.refl wq.heap.size wq) nq)
  generalize wq.drewN nq=wp at HP
  have HPy:=hid_of (onB HQy.out HP.out)
  have HPw:=hid_of (onB HBZw.out HPy.out)
  clear u0 u1 u2 u3 u4 u5 r0 r1
  obtain ⟨u0,u1,u2,u3,u4,u5⟩:=HST.out wp HPy.out
  have h8:=HDo2.out wp HPy.out
  go_wp2_with fail
  refine h8.mono ?_
  rintro e w6 ⟨⟨A',c',AE',ce',zl,rfl,hX⟩,hb6⟩
  obtain ⟨Y3,hY3⟩:∃ y,w6.alloc (.cells #[.slice A' n c'] 24)=y:=⟨_,rfl⟩
  have hbY:Below w6.heap.size w6 Y3:=by rw [←hY3];exact (Below.refl _ _).alloc (Nat.le_refl _) _
  have hcY:Y3.heap[w6.heap.size]?=some (.cells #[.slice A' n c'] 24 (0,0)):=by rw [←hY3];exact heap_alloc_new ..
  have z0:Y3.cell? ⟨w6.heap.size,0,none⟩=some (.slice A' n c'):=(Lib.cell_of_heap hcY 0).trans rfl
  have HB6y:=hid_of (onB HPy.out (onB hb6 hbY))
  have HB6w:=hid_of (onB HBZw.out HB6y.out)
  obtain ⟨Am,Cm,zs,hDx,hzl,hEx,hlx⟩:=hX.out
  have h9:=HOut.out A' c' Am Cm Y3 HB6w.out (hDx.later hbY)
  have HSx:Hid (∀ w',Below Y3.heap.size Y3 w'→Calls Tryz.prog 12 #[.slice AE' zl ce',.slice AE xl ce] w' fun e w''=>e=.returned (.bool true)∧Below w'.heap.size w' w''):=fun w' hb=>by
   rw [←hzl]
   exact HSE.out AE' ce' zs w' (onB HB6w.out hb) (hEx.later (onB hbY hb)) hlx
  clear u0 u1 u2 u3 u4 u5 h8 hb6 hX hDx hzl hEx hlx hbY hcY
  obtain ⟨u0,-,-,-,-,-⟩:=HST.out Y3 HB6y.out
  go_wp2_with fail
  refine h9.mono ?_
  rintro e w7 ⟨rfl,hb7⟩
  have h10:=HSx.out w7 hb7
  have HB7:=hid_of (onB HB6w.out hb7)
  clear h9 hb7
  go_wp2_with fail
  refine h10.mono ?_
  rintro e w8 ⟨rfl,hb8⟩
  have HB8:=hid_of (onB HB7.out hb8)
  clear h10 hb8
  go_wp2_with fail
  go_ret
  exact ⟨by simp,HB8.out⟩
 have hb5':(what == 5)=false:=by simpa using hw5
 clear hLa hw1 hw3 hw5
 go_wp2_with fail
 go_ret
 exact ⟨rfl,HB5w.out⟩
end Go.Proofs.YtglekooldbeklaaGreatDoor
