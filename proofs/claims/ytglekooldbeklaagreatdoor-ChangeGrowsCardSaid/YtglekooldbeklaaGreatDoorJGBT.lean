/-
  ADDED AND TAKEN OUT AGAIN: the walk of tallylaw4.ChangeGrows.
-/
import Derived.Test.YtglekooldbeklaaGreatDoorJGBS
namespace Go.Proofs.YtglekooldbeklaaGreatDoor
open Go.ChangeShapes Go.WideShapes Go.ChangeAt Go.RowKit Go.Lib
set_option maxRecDepth 100000
theorem cell_laterQ {w w':World} {b o:Nat} {x:Value} (h:w.cell? ⟨b,o,none⟩=some x) (hB:Below w.heap.size w w'):w'.cell? ⟨b,o,none⟩=some x:=(hB.cell (p:=⟨b,o,none⟩) (World.block_lt_of_cell? _ _ h)).trans h
def zzC:Chg:=⟨1,0,0,⟨#[122,122]⟩,-1,0⟩
theorem zz_dim:(dimErr (addD (squareD 1 0) (newM zzC))).2=0:=by decide +kernel
theorem zz_all:(allErr (putD (squareD 1) 0 (addD (squareD 1 0) (newM zzC))) 2).2.2=0:=by decide +kernel
theorem zz_form:∀ i:Fin 2,∀ k:Fin 3,(((putD (squareD 1) 0 (addD (squareD 1 0) (newM zzC))) i.val).mem k.val).formula.size=0:=by decide +kernel
theorem zz_few:∀ i:Fin 2,((putD (squareD 1) 0 (addD (squareD 1 0) (newM zzC))) i.val).n≤3:=by decide +kernel
theorem zz_ok:chE (squareD 1) 2 [] zzC=0∧chN (squareD 1) 2 [] zzC=2∧(chD (squareD 1) zzC 0).n=3:=by
 have h:chE (squareD 1) 2 [] zzC=0:=by
  unfold chE
  rw [if_neg (by simpa using (sq_cube (n:=1) (by omega)).2),if_neg (by decide)]
  have h1:cgE (squareD 1 0) [] 0 zzC=0:=by
   show addE (squareD 1 0) [] 0 (newM zzC)=0
   unfold addE
   rw [if_neg (by simpa using zz_dim)]
   rfl
  have h2:(ruErr (putD (squareD 1) 0 (addD (squareD 1 0) (newM zzC))) 2).2.2=0:=bare_right zz_all fun i hi k hk=>zz_form ⟨i,hi⟩ ⟨k,by have h9:((putD (squareD 1) 0 (addD (squareD 1 0) (newM zzC))) i).n≤3:=zz_few ⟨i,hi⟩;omega⟩
  show (if cgE (squareD 1 0) [] 0 zzC≠0 then _ else (ruErr (putD (squareD 1) 0 (addD (squareD 1 0) (newM zzC))) 2).2.2)=0
  rw [if_neg (by simpa using h1)]
  exact h2
 exact ⟨h,if_pos h,rfl⟩
theorem box_ne {w:World} {h T:Nat} {fr:Nat×Nat} {z:Value} (k:w.heap[h]?=some (.cells #[z] T fr)) {b o:Nat} {x:Value} (hx:w.cell? ⟨b,o,none⟩=some x) (hn:o≠0∨x≠z):b≠h:=fun e=>by
 subst e
 rw [Lib.cell_of_heap k o] at hx
 rcases Nat.eq_zero_or_pos o with e | e
 ·subst e
  rcases hn with hn | hn
  ·exact hn rfl
  ·exact hn (by simpa using hx.symm)
 ·rw [Array.getElem?_eq_none (by simp;omega)] at hx
  cases hx
section
variable {w:World} {h T:Nat} {fr:Nat×Nat} {v:Value}
theorem far_cell {b o:Nat} {x:Value} (hx:w.cell? ⟨b,o,none⟩=some x) (hb:b≠h):(w.setCell ⟨h,0,none⟩ v).cell? ⟨b,o,none⟩=some x:=(World.cell?_setCell_far _ _ _ _ (by first | exact hb | exact fun e=>hb e.symm)).trans hx
theorem far_size:(w.setCell ⟨h,0,none⟩ v).heap.size=w.heap.size:=by simp
variable (k:w.heap[h]?=some (.cells #[.slice none 0 0] T fr))
include k
theorem mems_far {A:Option Addr} {c n:Nat} {M:Nat→Mem} (hM:MemsV w A c n M):MemsV (w.setCell ⟨h,0,none⟩ v) A c n M:=by
 obtain ⟨h1,h2 | ⟨b,o,h2,h3,h4⟩⟩:=hM
 ·exact ⟨h1,Or.inl h2⟩
 ·refine ⟨h1,Or.inr ⟨b,o,h2,by rw [far_size];exact h3,fun i hi=>?_⟩⟩
  obtain ⟨x1,x2,x3,x4⟩:=h4 i hi
  have hb:b≠h:=box_ne k x1 (Or.inr (by intro e;cases e))
  exact ⟨far_cell x1 hb,far_cell x2 hb,far_cell x3 hb,far_cell x4 hb⟩
theorem dims_far {A0:Option Addr} {cap n:Nat} {D:Nat→Dm} {A:Nat→Option Addr} {C:Nat→Nat} (hD:DimsV w A0 cap n D A C):DimsV (w.setCell ⟨h,0,none⟩ v) A0 cap n D A C:=by
 obtain ⟨h1,h2 | ⟨b,o,h2,h3,h4⟩⟩:=hD
 ·exact ⟨h1,Or.inl h2⟩
 ·refine ⟨h1,Or.inr ⟨b,o,h2,by rw [far_size];exact h3,fun i hi=>?_⟩⟩
  obtain ⟨x1,x2,x3,x4⟩:=h4 i hi
  have hb:b≠h:=box_ne k x1 (Or.inr (by intro e;cases e))
  exact ⟨far_cell x1 hb,far_cell x2 hb,far_cell x3 hb,mems_far k x4⟩
theorem ens_far {A:Option Addr} {c:Nat} {xs:List EnL} (hE:EnsV w A c xs):EnsV (w.setCell ⟨h,0,none⟩ v) A c xs:=by
 obtain ⟨h1,h0,h2 | ⟨b,o,h2,h3⟩⟩:=hE
 ·exact ⟨h1,h0,Or.inl h2⟩
 ·rcases Nat.eq_zero_or_pos xs.length with e | e
  ·exact ⟨h1,h0,Or.inl (List.length_eq_zero_iff.1 e)⟩
  ·have hb:b≠h:=box_ne k (h3.at e).2 (Or.inl (by omega))
   obtain ⟨h3,h4,h5⟩:=h3
   refine ⟨h1,h0,Or.inr ⟨b,o,h2,by rw [far_size];exact h3,fun j u hj=>far_cell (h4 j u hj) hb,fun x hx=>?_⟩⟩
   obtain ⟨p1,p2 | ⟨b',o',p2,p3,p4⟩⟩:=h5 x hx
   ·exact ⟨p1,Or.inl p2⟩
   ·exact ⟨p1,Or.inr ⟨b',o',p2,by rw [far_size];exact p3,fun j hj=>far_cell (p4 j hj) (box_ne k (p4 j hj) (Or.inr (by intro e;cases e)))⟩⟩
end
set_option maxHeartbeats 32000000 in
theorem grows_D (A0:Option Addr) (cap n:Nat) (D:Nat→Dm) (A:Nat→Option Addr) (C:Nat→Nat) (AE:Option Addr) (ce:Nat) (xs:List EnL) (dim tgt sign:Int) (w:World) (hE:TabE w) (hM:DimsV w A0 cap n D A C) (hEn:EnsV w AE ce xs) (hN:∀ i,i<n→∀ x,(D i).n≤x→(D i).mem x=dflM) :
  Calls Tryz.prog 4 #[.agg #[.slice A0 n cap],.slice AE xs.length ce,.int .i64 dim,.int .i64 tgt,.int .i64 sign] w fun e w'=>e=.returned (.bool true)∧Below w.heap.size w w':=by
 have hB0:=ownOut_below w A0 n cap 24
 have hat:=ownOut_at w A0 n cap 24
 have hsz:=ownOut_size w A0 n cap 24
 obtain ⟨W,hW⟩:∃ W,ownOut w A0 n cap 24=W:=⟨_,rfl⟩
 rw [hW] at hB0 hat hsz
 unfold ownOut at hW
 have HA:Hid (∀ w',Below W.heap.size W w'→w'.cell? ⟨w.heap.size,0,none⟩=some (.slice A0 n cap)):=fun w' h=>(h.cell (p:=⟨w.heap.size,0,none⟩) (by show w.heap.size<_;omega)).trans hat
 have HB0:=hid_of hB0
 have HM:=hid_of hM
 have HEn:=hid_of hEn
 have HE:=hid_of hE
 have HNn:=hid_of hN
 have yW:=HA.out W (Below.refl _ _)
 obtain ⟨xl,hxl⟩:∃ xl,xs.length=xl:=⟨_,rfl⟩
 have HXl:=hid_of hxl
 have HDo:Hid (∀ w' c,Below w.heap.size w w'→Calls Tryz.prog 5 #[.agg #[.slice A0 n cap],.slice AE xl ce,chgV c] w' (ChV w'.heap.size (chD D c) (chN D n (lE xs) c) (chL D n (lE xs) c) (chE D n (lE xs) c) w')):=fun w' c hb=>by
  rw [←HXl.out]
  exact do_any A0 cap n D A C AE ce xs c w' (HM.out.later hb) (HEn.out.later hb) (HE.out.later hb)
 rw [hxl]
 clear hM hEn hE hN hxl hB0 hat hsz
 by_cases hd:dim<0∨(n:Int)≤dim
 ·by_cases hd0:dim<0
  ·clear hd
   go_enter Tryz.func4,Tryz.ntmps4
   go_wp2_with fail
   go_ret
   exact ⟨rfl,HB0.out⟩
  ·have hd1:0≤dim:=by omega
   have hd2:(n:Int)≤dim:=by omega
   clear hd hd0
   go_enter Tryz.func4,Tryz.ntmps4
   go_wp2_with fail
   go_ret
   exact ⟨rfl,HB0.out⟩
 obtain ⟨k,rfl⟩:∃ k:Nat,dim=k:=⟨dim.toNat,by omega⟩
 have hk:k<n:=by omega
 have HK:=hid_of hk
 have hkI:(k:Int)<(n:Int):=by omega
 have hk0:(0:Int)≤(k:Int):=by omega
 have h1:=square_any 1 W (by omega)
 clear hd hk
 go_enter Tryz.func4,Tryz.ntmps4
 go_wp2_with fail
 refine h1.mono ?_
 rintro e w1 ⟨⟨Af,Af1,Cf,rfl,hDf⟩,hb1⟩
 have HB1:=hid_of (HB0.out.trans (hb1.mono HB0.out.size))
 have HA1:Hid (∀ w',Below w1.heap.size w1 w'→w'.cell? ⟨w.heap.size,0,none⟩=some (.slice A0 n cap)):=fun w' hb=>HA.out w' (hb1.trans (hb.mono hb1.size))
 have h2:Calls Tryz.prog 5 #[.agg #[.slice Af 2 2],.slice none 0 0,.agg #[.int .i64 1,.int .i64 0,.int .i64 0,.string ⟨#[122,122]⟩,.int .i64 (-1),.int .i64 0]] w1 fun e w'=>(∃ A' c' Am Cm AE' ce' yl,e=.returned (.tuple #[.agg #[.slice A' 2 c'],.slice AE' yl ce',.nilIface])∧DimsV w' A' c' 2 (chD (squareD 1) zzC) Am Cm)∧Below w1.heap.size w1 w':=by
  obtain ⟨z1,z2,z3⟩:=zz_ok
  have h:=do_any Af 2 2 (squareD 1) Af1 Cf none 0 [] zzC w1 hDf (EnsV.nil _ _ _ (by omega)) (HE.out.later HB1.out)
  refine Calls.mono h ?_
  rintro e w' ⟨⟨A',c',Am,Cm,AE',ce',ys,he,hD,-,-⟩,hb⟩
  rw [show chE (squareD 1) 2 (lE []) zzC=0 from z1,show chN (squareD 1) 2 (lE []) zzC=2 from z2,errV_zero] at he
  rw [show chN (squareD 1) 2 (lE []) zzC=2 from z2] at hD
  exact ⟨⟨A',c',Am,Cm,AE',ce',_,he,hD⟩,hb⟩
 clear h1 hb1 hDf
 go_wp2_with fail
 refine h2.mono ?_
 rintro e w2 ⟨⟨A2,c2,Am2,Cm2,AE2,ce2,yl2,rfl,hD2⟩,hb2⟩
 obtain ⟨-,h0 | ⟨bf,off,rfl,-,hDc⟩⟩:=hD2
 ·omega
 obtain ⟨-,-,hd3,-⟩:=hDc 0 (by omega)
 rw [zz_ok.2.2] at hd3
 simp only [Nat.zero_mul,Nat.add_zero] at hd3
 have hd3':w2.cell? ⟨bf,off+2,none⟩=some (.slice (Am2 0) 3 (Cm2 0)):=hd3
 generalize Am2 0=Am at hd3'
 generalize Cm2 0=Cm at hd3'
 obtain ⟨Y1,hY1⟩:∃ Y1,w2.alloc (.cells #[.slice (some ⟨bf,off,none⟩) 2 c2] 24)=Y1:=⟨_,rfl⟩
 have hbY:Below w2.heap.size w2 Y1:=by rw [←hY1];exact (Below.refl _ _).alloc (Nat.le_refl _) _
 have hcY:Y1.heap[w2.heap.size]?=some (.cells #[.slice (some ⟨bf,off,none⟩) 2 c2] 24 (0,0)):=by rw [←hY1];exact heap_alloc_new ..
 have y0:Y1.cell? ⟨w2.heap.size,0,none⟩=some (.slice (some ⟨bf,off,none⟩) 2 c2):=(Lib.cell_of_heap hcY 0).trans rfl
 have y1:=cell_laterQ hd3' hbY
 have hBx:=onB hb2 hbY
 have yA:=HA1.out Y1 hBx
 have HBY:=hid_of (onB HB1.out hBx)
 have HAY:Hid (∀ w',Below Y1.heap.size Y1 w'→w'.cell? ⟨w.heap.size,0,none⟩=some (.slice A0 n cap)):=fun w' hb=>HA1.out w' (onB hBx hb)
 have h3:=HDo.out Y1 ⟨1,k,0,⟨#[122,122]⟩,tgt,sign⟩ HBY.out
 unfold chgV at h3
 obtain ⟨cc,hcc⟩:∃ cc:Chg,(⟨1,k,0,⟨#[122,122]⟩,tgt,sign⟩:Chg)=cc:=⟨_,rfl⟩
 have HCc:=hid_of hcc
 simp only at h3
 rw [hcc] at h3
 clear h2 hb2 hDc hd3 hd3' hbY hcY hBx hcc
 by_cases hok:chE D n (lE xs) cc=0
 case neg =>
  have hV:=errV_some hok
  generalize chE D n (lE xs) cc=E at h3 hV
  have h4:Calls Tryz.prog 5 #[.agg #[.slice A0 n cap],.slice AE xl ce,.agg #[.int .i64 1,.int .i64 k,.int .i64 0,.string ⟨#[122,122]⟩,.int .i64 tgt,.int .i64 sign]] Y1 fun e w'=>(∃ A' n' c' AE' yl ce',e=.returned (.tuple #[.agg #[.slice A' n' c'],.slice AE' yl ce',.iface 58 (.int .i64 E)]))∧Below Y1.heap.size Y1 w':=h3.mono fun e w' ⟨⟨A',c',Am,Cm,AE',ce',ys,he,hD,_⟩,hb⟩=>by
   rw [hV] at he
   exact ⟨⟨A',_,c',AE',_,ce',he⟩,hb⟩
  clear h3 hok hV
  go_wp2_with fail
  refine h4.mono ?_
  rintro e w3 ⟨⟨A',n',c',AE',yl,ce',rfl⟩,hb3⟩
  have HB3:=hid_of (onB HBY.out hb3)
  clear h4 hb3
  go_wp2_with fail
  go_ret
  exact ⟨rfl,HB3.out.alloc HB3.out.size _⟩
 have hgb:=grow_back (D:=D) (n:=n) (k:=k) (l:=lE xs) (nm:=⟨#[122,122]⟩) (tgt:=tgt) (sign:=sign) HK.out HNn.out (by rw [HCc.out];exact hok)
 rw [HCc.out] at hgb
 obtain ⟨g1,g2,g3,g4,g5⟩:=hgb
 have hE1:cuErr D n (lE xs)=0:=by
  unfold chE at hok
  split at hok
  ·rename_i h;exact absurd hok h
  ·rename_i h;simpa using h
 obtain ⟨hrp,hEns⟩:=cu_parts hE1
 have hn4:n≤4:=(allErr_some hEns.right).2.1
 have hd12:∀ i,i<n→(D i).n≤12:=fun i hi=>(dimErr_right ((allErr_right hEns.right).2 i hi)).2.2.1
 have hxn:xs.length≤3000:=by rw [←lE_len];exact hEns.few
 have hx4:∀ j,j<xs.length→(xs.getD j noL).e.pl.length≤4:=fun j hj=>by
  have:=(hEns.each (xs.getD j noL).e (by unfold lE;exact List.mem_map.2 ⟨_,enl_mem hj,rfl⟩)).1.len
  omega
 have HOut:Hid (∀ (A9:Option Addr) (c9:Nat) (A':Nat→Option Addr) (C':Nat→Nat) (w':World),Below w.heap.size w w'→DimsV w' A9 c9 n D A' C'→Calls Tryz.prog 11 #[.agg #[.slice A9 n c9],.agg #[.slice A0 n cap]] w' fun e w''=>e=.returned (.bool true)∧Below w'.heap.size w' w''):=fun A9 c9 A' C' w' hb hD=>sameout_any A9 A0 c9 cap n D A' C' A C w' hn4 hd12 hD (HM.out.later hb)
 have HSE:Hid (∀ (AE':Option Addr) (ce':Nat) (ys:List EnL) (w':World),Below w.heap.size w w'→EnsV w' AE' ce' ys→lE ys=lE xs→Calls Tryz.prog 12 #[.slice AE' ys.length ce',.slice AE xl ce] w' fun e w''=>e=.returned (.bool true)∧Below w'.heap.size w' w''):=fun AE' ce' ys w' hb hE' he=>by
  have hyl:ys.length=xs.length:=by rw [←lE_len,he,lE_len]
  have hget:∀ j,(ys.getD j noL).e=(xs.getD j noL).e:=fun j=>by rw [←lE_at,←lE_at,he]
  have h9:=sameents_any AE' AE ce' ce ys xs w' he (by omega) (fun j hj=>by rw [hget];exact hx4 j (by omega)) hE' (HEn.out.later hb)
  rw [HXl.out] at h9
  exact h9
 have hdk:=hd12 k HK.out
 have h4:Calls Tryz.prog 5 #[.agg #[.slice A0 n cap],.slice AE xl ce,.agg #[.int .i64 1,.int .i64 k,.int .i64 0,.string ⟨#[122,122]⟩,.int .i64 tgt,.int .i64 sign]] Y1 fun e w'=>(∃ A' c' Am Cm AE' ce' ys,e=.returned (.tuple #[.agg #[.slice A' n c'],.slice AE' ys.length ce',.nilIface])∧DimsV w' A' c' n (chD D cc) Am Cm∧EnsV w' AE' ce' ys∧lE ys=lE xs)∧Below Y1.heap.size Y1 w':=h3.mono fun e w' ⟨⟨A',c',Am,Cm,AE',ce',ys,he,hD,hEn',hl⟩,hb⟩=>by
  rw [show chN D n (lE xs) cc=n from if_pos hok] at he hD
  rw [hok,errV_zero] at he
  exact ⟨⟨A',c',Am,Cm,AE',ce',ys,he,hD,hEn',hl.trans g2⟩,hb⟩
 have HG:=hid_of (And.intro g1 (And.intro g3 (And.intro g4 g5)))
 obtain ⟨dn,hdn⟩:∃ dn,(D k).n=dn:=⟨_,rfl⟩
 have HDn:=hid_of hdn
 rw [hdn] at hdk
 clear h3 hok g1 g2 g3 g4 g5 hE1 hrp hEns hn4 hd12 hxn hx4 hdn
 go_wp2_with fail
 refine h4.mono ?_
 rintro e w3 ⟨⟨A3,c3,Am3,Cm3,AE3,ce3,ys,rfl,hD3,hE3,hl3⟩,hb3⟩
 have HD3:=hid_of hD3
 obtain ⟨hnc3,h0 | ⟨b3,o3,rfl,-,hDc⟩⟩:=hD3
 ·have:=HK.out;omega
 obtain ⟨-,-,hd3,-⟩:=hDc k HK.out
 rw [HG.out.1,HDn.out] at hd3
 have hd3':w3.cell? ⟨b3,o3+k*3+2,none⟩=some (.slice (Am3 k) (dn+1) (Cm3 k)):=hd3
 generalize Am3 k=Am4 at hd3'
 generalize Cm3 k=Cm4 at hd3'
 obtain ⟨Y2,hY2⟩:∃ Y2,w3.alloc (.cells #[.slice (some ⟨b3,o3,none⟩) n c3] 24)=Y2:=⟨_,rfl⟩
 have hbY:Below w3.heap.size w3 Y2:=by rw [←hY2];exact (Below.refl _ _).alloc (Nat.le_refl _) _
 have hcY:Y2.heap[w3.heap.size]?=some (.cells #[.slice (some ⟨b3,o3,none⟩) n c3] 24 (0,0)):=by rw [←hY2];exact heap_alloc_new ..
 have hsY:w3.heap.size<Y2.heap.size:=by rw [←hY2];simp
 have v0:Y2.cell? ⟨w3.heap.size,0,none⟩=some (.slice (some ⟨b3,o3,none⟩) n c3):=(Lib.cell_of_heap hcY 0).trans rfl
 have v1:=cell_laterQ hd3' hbY
 have hBx:=onB hb3 hbY
 have vA:=HAY.out Y2 hBx
 have HBZ:=hid_of (onB HBY.out hBx)
 have HAZ:Hid (∀ w',Below Y2.heap.size Y2 w'→w'.cell? ⟨w.heap.size,0,none⟩=some (.slice A0 n cap)):=fun w' hb=>HAY.out w' (onB hBx hb)
 have hb3l:b3<Y2.heap.size:=World.block_lt_of_cell? _ _ v1
 have HS2:Hid (∀ w',Below Y2.heap.size Y2 w'→w'.cell? ⟨w3.heap.size,0,none⟩=some (.slice (some ⟨b3,o3,none⟩) n c3)∧w'.cell? ⟨b3,o3+k*3+2,none⟩=some (.slice Am4 (dn+1) Cm4)):=fun w' hb=>⟨(hb.cell (p:=⟨w3.heap.size,0,none⟩) hsY).trans v0,(hb.cell (p:=⟨b3,o3+k*3+2,none⟩) hb3l).trans v1⟩
 obtain ⟨yl,hyl⟩:∃ yl,ys.length=yl:=⟨_,rfl⟩
 have HEY:=hid_of (hE3.later hbY)
 have HDY:=hid_of (HD3.out.later hbY)
 have HDo2:Hid (∀ w',Below Y2.heap.size Y2 w'→Calls Tryz.prog 5 #[.agg #[.slice (some ⟨b3,o3,none⟩) n c3],.slice AE3 yl ce3,.agg #[.int .i64 2,.int .i64 k,.int .i64 dn,.string ⟨#[]⟩,.int .i64 0,.int .i64 0]] w' fun e w''=>(∃ A' c' Am Cm AE' ce' zl,e=.returned (.tuple #[.agg #[.slice A' n c'],.slice AE' zl ce',.nilIface])∧DimsV w'' A' c' n D Am Cm∧(∃ zs,zs.length=zl∧EnsV w'' AE' ce' zs∧lE zs=lE xs))∧Below w'.heap.size w' w''):=fun w' hb=>by
  obtain ⟨g1,g3,g4,g5⟩:=HG.out
  rw [HDn.out] at g3 g4 g5
  have h:=do_any (some ⟨b3,o3,none⟩) c3 n (chD D cc) Am3 Cm3 AE3 ce3 ys ⟨2,k,dn,⟨#[]⟩,0,0⟩ w' (HDY.out.later hb) (HEY.out.later hb) (HE.out.later (onB HBZ.out hb))
  rw [hyl,hl3] at h
  refine Calls.mono h ?_
  rintro e w'' ⟨⟨A',c',Am,Cm,AE',ce',zs,he,hD,hEn',hl⟩,hb'⟩
  rw [show chN (chD D cc) n (lE xs) ⟨2,k,dn,⟨#[]⟩,0,0⟩=n from if_pos g3] at he hD
  rw [g3,errV_zero] at he
  rw [g4] at hD
  exact ⟨⟨A',c',Am,Cm,AE',ce',_,he,hD,zs,rfl,hEn',hl.trans g5⟩,hb'⟩
 rw [hyl]
 have hwd:IntKind.i64.wrap (dn:Int)=(dn:Int):=IntWalk.i64_in _ (by omega)
 have hnc:(n:Int)≤(c3:Int):=by omega
 have HBYs:=hBx.size
 clear h4 hb3 hE3 hl3 hyl hDc hd3 hd3' hbY hcY hBx hb3l hnc3
 go_upto_region 11 with fail
 clear hY2 HBYs
 generalize w3.heap.size=b14 at v0 HS2 hsY
 go_cut [17,18,19] from 75 (fun s17 s18 s19 wx => ∃ q A' c' AE' ce' zl,s17=.pointer (some ⟨q,0,none⟩)∧s18=.slice AE' zl ce'∧s19=.nilIface∧wx.cell? ⟨q,0,none⟩=some (.slice A' n c')∧Hid (∃ Am Cm zs,DimsV wx A' c' n D Am Cm∧zs.length=zl∧EnsV wx AE' ce' zs∧lE zs=lE xs)∧Below Y2.heap.size Y2 wx)
 case first =>
  refine wp_region_held_drew (S:=(fun w'=>Below Y2.heap.size Y2 w'∧w'.cell? ⟨b14,0,none⟩=some (.slice (some ⟨b3,o3,none⟩) n c3)∧w'.cell? ⟨b3,o3+k*3+2,none⟩=some (.slice Am4 (dn+1) Cm4))) (by kernel_rfl) (by (refine (fun hB=>⟨hB,HS2.out _ hB⟩) ?_;go_grown)) (fun hHeld=>?_)
  refine wpAnyH_take (i := 0) (oi := { dst := some 76, op := Go.Op.load 24 (Go.Operand.tmp 14), type := 24, pos := "law.go:421", after := #[], guard := none }) (v := ?vq5x11x0) rfl (by kernel_rfl) (by kernel_rfl) (by kernel_rfl) (fun _ _ _ h => h) (Or.inl ⟨by rfl, ?yq5x11x0⟩) hHeld ?rq5x11x0
  case yq5x11x0=>(intro w hSw;(try dsimp only at hSw);go_simp;(try with_reducible rfl))
  (try simp only [Act.put,List.setIfInBounds_toArray,List.set_cons_zero,List.set_cons_succ])
  refine wpAnyH_take (i := 1) (oi := { dst := some 77, op := Go.Op.move (Go.Operand.tmp 15), type := 25, pos := "law.go:421", after := #[], guard := none }) (v := ?vq5x11x1) rfl (by kernel_rfl) (by kernel_rfl) (by kernel_rfl) (fun _ _ _ h => h) (Or.inl ⟨by rfl, ?yq5x11x1⟩) hHeld ?rq5x11x1
  case yq5x11x1=>(intro w hSw;(try dsimp only at hSw);go_simp;(try with_reducible rfl))
  (try simp only [Act.put,List.setIfInBounds_toArray,List.set_cons_zero,List.set_cons_succ])
  refine wpAnyH_take (i := 2) (oi := { dst := some 78, op := Go.Op.move (Go.Operand.tmp 2), type := 3, pos := "law.go:421", after := #[], guard := none }) (v := ?vq5x11x2) rfl (by kernel_rfl) (by kernel_rfl) (by kernel_rfl) (fun _ _ _ h => h) (Or.inl ⟨by rfl, ?yq5x11x2⟩) hHeld ?rq5x11x2
  case yq5x11x2=>(intro w hSw;(try dsimp only at hSw);go_simp;(try with_reducible rfl))
  (try simp only [Act.put,List.setIfInBounds_toArray,List.set_cons_zero,List.set_cons_succ])
  refine wpAnyH_take (i := 3) (oi := { dst := some 79, op := Go.Op.fieldAddr 24 (Go.Operand.tmp 14) 0, type := 0, pos := "law.go:421", after := #[], guard := none }) (v := ?vq5x11x3) rfl (by kernel_rfl) (by kernel_rfl) (by kernel_rfl) (fun _ _ _ h => h) (Or.inl ⟨by rfl, ?yq5x11x3⟩) hHeld ?rq5x11x3
  case yq5x11x3=>(intro w hSw;(try dsimp only at hSw);go_simp;(try with_reducible rfl))
  (try simp only [Act.put,List.setIfInBounds_toArray,List.set_cons_zero,List.set_cons_succ])
  refine wpAnyH_take (i := 4) (oi := { dst := some 80, op := Go.Op.load 22 (Go.Operand.tmp 79), type := 22, pos := "law.go:421", after := #[{ on := 3, ground := Go.Ground.data }], guard := none }) (v := ?vq5x11x4) rfl (by kernel_rfl) (by kernel_rfl) (by kernel_rfl) (fun _ _ _ h => h) (Or.inl ⟨by rfl, ?yq5x11x4⟩) hHeld ?rq5x11x4
  case yq5x11x4=>(intro w hSw;(try dsimp only at hSw);go_simp;(try with_reducible rfl))
  (try simp only [Act.put,List.setIfInBounds_toArray,List.set_cons_zero,List.set_cons_succ])
  refine wpAnyH_take (i := 5) (oi := { dst := some 81, op := Go.Op.move (Go.Operand.tmp 2), type := 3, pos := "law.go:421", after := #[], guard := none }) (v := ?vq5x11x5) rfl (by kernel_rfl) (by kernel_rfl) (by kernel_rfl) (fun _ _ _ h => h) (Or.inl ⟨by rfl, ?yq5x11x5⟩) hHeld ?rq5x11x5
  case yq5x11x5=>(intro w hSw;(try dsimp only at hSw);go_simp;(try with_reducible rfl))
  (try simp only [Act.put,List.setIfInBounds_toArray,List.set_cons_zero,List.set_cons_succ])
  refine wpAnyH_take (i := 6) (oi := { dst := some 82, op := Go.Op.indexAddr 22 (Go.Operand.tmp 80) (Go.Operand.tmp 81), type := 0, pos := "law.go:421", after := #[{ on := 4, ground := Go.Ground.data }, { on := 5, ground := Go.Ground.data }], guard := none }) (v := ?vq5x11x6) rfl (by kernel_rfl) (by kernel_rfl) (by kernel_rfl) (fun _ _ _ h => h) (Or.inl ⟨by rfl, ?yq5x11x6⟩) hHeld ?rq5x11x6
  case yq5x11x6=>(intro w hSw;(try dsimp only at hSw);go_simp;(try with_reducible rfl))
  (try simp only [Act.put,List.setIfInBounds_toArray,List.set_cons_zero,List.set_cons_succ])
  refine wpAnyH_take (i := 7) (oi := { dst := some 83, op := Go.Op.fieldAddr 32 (Go.Operand.tmp 82) 2, type := 0, pos := "law.go:421", after := #[{ on := 6, ground := Go.Ground.data }], guard := none }) (v := ?vq5x11x7) rfl (by kernel_rfl) (by kernel_rfl) (by kernel_rfl) (fun _ _ _ h => h) (Or.inl ⟨by rfl, ?yq5x11x7⟩) hHeld ?rq5x11x7
  case yq5x11x7=>(intro w hSw;(try dsimp only at hSw);go_simp;(try with_reducible rfl))
  (try simp only [Act.put,List.setIfInBounds_toArray,List.set_cons_zero,List.set_cons_succ])
  refine wpAnyH_take (i := 8) (oi := { dst := some 84, op := Go.Op.load 30 (Go.Operand.tmp 83), type := 30, pos := "law.go:421", after := #[{ on := 7, ground := Go.Ground.data }], guard := none }) (v := ?vq5x11x8) rfl (by kernel_rfl) (by kernel_rfl) (by kernel_rfl) (fun _ _ _ h => h) (Or.inl ⟨by rfl, ?yq5x11x8⟩) hHeld ?rq5x11x8
  case yq5x11x8=>(intro w hSw;(try dsimp only at hSw);go_simp;(try with_reducible rfl))
  (try simp only [Act.put,List.setIfInBounds_toArray,List.set_cons_zero,List.set_cons_succ])
  refine wpAnyH_take (i := 9) (oi := { dst := some 85, op := Go.Op.call { callee := Go.Callee.builtin Go.Builtin.len, args := #[Go.Operand.tmp 84], argTypes := #[30] }, type := 3, pos := "law.go:421", after := #[{ on := 8, ground := Go.Ground.data }], guard := none }) (v := ?vq5x11x9) rfl (by kernel_rfl) (by kernel_rfl) (by kernel_rfl) (fun _ _ _ h => h) (Or.inl ⟨by rfl, ?yq5x11x9⟩) hHeld ?rq5x11x9
  case yq5x11x9=>(intro w hSw;(try dsimp only at hSw);go_simp;(try with_reducible rfl))
  (try simp only [Act.put,List.setIfInBounds_toArray,List.set_cons_zero,List.set_cons_succ])
  refine wpAnyH_take (i := 10) (oi := { dst := some 86, op := Go.Op.binOp Go.BinOp.sub 3 (Go.Operand.tmp 85) (Go.Operand.const (Go.Value.int Go.IntKind.i64 1)) 3, type := 3, pos := "law.go:421", after := #[{ on := 9, ground := Go.Ground.data }], guard := none }) (v := ?vq5x11x10) rfl (by kernel_rfl) (by kernel_rfl) (by kernel_rfl) (fun _ _ _ h => h) (Or.inl ⟨by rfl, ?yq5x11x10⟩) hHeld ?rq5x11x10
  case yq5x11x10=>(intro w hSw;(try dsimp only at hSw);go_simp;(try with_reducible rfl))
  (try simp only [Act.put,List.setIfInBounds_toArray,List.set_cons_zero,List.set_cons_succ])
  refine wpAnyH_take (i := 11) (oi := { dst := some 87, op := Go.Op.build 27 #[(0, Go.Operand.const (Go.Value.int Go.IntKind.i64 2)), (1, Go.Operand.tmp 78), (2, Go.Operand.tmp 86)], type := 27, pos := "law.go:421", after := #[{ on := 2, ground := Go.Ground.data }, { on := 10, ground := Go.Ground.data }], guard := none }) (v := ?vq5x11x11) rfl (by kernel_rfl) (by kernel_rfl) (by kernel_rfl) (fun _ _ _ h => h) (Or.inl ⟨by rfl, ?yq5x11x11⟩) hHeld ?rq5x11x11
  case yq5x11x11=>(intro w hSw;(try dsimp only at hSw);go_simp;(try with_reducible rfl))
  (try simp only [Act.put,List.setIfInBounds_toArray,List.set_cons_zero,List.set_cons_succ])
  refine wpAnyH_ready (rs:=[12,17]) (by kernel_rfl) (by simp) ?_
  refine AllReadyH.cons (o := { dst := some 88, op := Go.Op.call { callee := Go.Callee.value (Go.Operand.func 5), args := #[Go.Operand.tmp 76, Go.Operand.tmp 77, Go.Operand.tmp 87], argTypes := #[24, 25, 27] }, type := 35, pos := "law.go:421", after := #[{ on := 0, ground := Go.Ground.data }, { on := 1, ground := Go.Ground.data }, { on := 11, ground := Go.Ground.data }], guard := none }) rfl (fun K hK => ?_) (AllReadyH.cons (o := { dst := some 17, op := Go.Op.alloc 24, type := 0, pos := "law.go:421", after := #[], guard := none }) rfl (fun K hK => ?_) AllReadyH.nil)
  ·go_simp
   refine (HDo2.out _ (by go_grown)).mono ?_
   rintro e w6 ⟨⟨A6,c6,Am6,Cm6,AE6,ce6,zl,rfl,hD6,zs,hzl,hE6,hl6⟩,hb6⟩
   have hN6:=onB (W0:=Y2) (by go_grown) hb6
   have hs6:=hN6.size
   dsimp only
   refine hK.out _ _ (⟨hN6,HS2.out _ hN6⟩) (fun hHeld=>?_)
   clear hK K
   (try simp only [Act.put,List.setIfInBounds_toArray,List.set_cons_zero,List.set_cons_succ])
   refine wpAnyH_take (i := 13) (oi := { dst := some 75, op := Go.Op.move (Go.Operand.tmp 88), type := 35, pos := "law.go:421", after := #[{ on := 12, ground := Go.Ground.data }], guard := none }) (v := ?vqA13) rfl (by kernel_rfl) (by kernel_rfl) (by kernel_rfl) (fun _ _ _ h => h) (Or.inl ⟨by rfl, ?yqA13⟩) hHeld ?rqA13
   case yqA13=>(intro w hSw;(try dsimp only at hSw);go_simp;(try with_reducible rfl))
   (try simp only [Act.put,List.setIfInBounds_toArray,List.set_cons_zero,List.set_cons_succ])
   refine wpAnyH_take (i := 14) (oi := { dst := some 89, op := Go.Op.extract (Go.Operand.tmp 75) 0, type := 24, pos := "law.go:421", after := #[{ on := 13, ground := Go.Ground.data }], guard := none }) (v := ?vqA14) rfl (by kernel_rfl) (by kernel_rfl) (by kernel_rfl) (fun _ _ _ h => h) (Or.inl ⟨by rfl, ?yqA14⟩) hHeld ?rqA14
   case yqA14=>(intro w hSw;(try dsimp only at hSw);go_simp;(try with_reducible rfl))
   (try simp only [Act.put,List.setIfInBounds_toArray,List.set_cons_zero,List.set_cons_succ])
   refine wpAnyH_take (i := 15) (oi := { dst := some 90, op := Go.Op.extract (Go.Operand.tmp 75) 1, type := 25, pos := "law.go:421", after := #[{ on := 13, ground := Go.Ground.data }, { on := 18, ground := Go.Ground.gcOnly Go.Departure.lateStores }], guard := none }) (v := ?vqA15) rfl (by kernel_rfl) (by kernel_rfl) (by kernel_rfl) (fun _ _ _ h => h) (Or.inl ⟨by rfl, ?yqA15⟩) hHeld ?rqA15
   case yqA15=>(intro w hSw;(try dsimp only at hSw);go_simp;(try with_reducible rfl))
   (try simp only [Act.put,List.setIfInBounds_toArray,List.set_cons_zero,List.set_cons_succ])
   refine wpAnyH_take (i := 16) (oi := { dst := some 91, op := Go.Op.extract (Go.Operand.tmp 75) 2, type := 34, pos := "law.go:421", after := #[{ on := 13, ground := Go.Ground.data }, { on := 19, ground := Go.Ground.gcOnly Go.Departure.lateStores }], guard := none }) (v := ?vqA16) rfl (by kernel_rfl) (by kernel_rfl) (by kernel_rfl) (fun _ _ _ h => h) (Or.inl ⟨by rfl, ?yqA16⟩) hHeld ?rqA16
   case yqA16=>(intro w hSw;(try dsimp only at hSw);go_simp;(try with_reducible rfl))
   (try simp only [Act.put,List.setIfInBounds_toArray,List.set_cons_zero,List.set_cons_succ])
   refine wpAnyH_ready (rs:=[17]) (by kernel_rfl) (by simp) ?_
   refine AllReadyH.cons (o := { dst := some 17, op := Go.Op.alloc 24, type := 0, pos := "law.go:421", after := #[], guard := none }) rfl (fun K hK => ?_) AllReadyH.nil
   go_simp
   have hN7:Below Y2.heap.size Y2 (w6.alloc (.cells #[.slice none 0 0] 24)):=by go_grown
   refine hK.out _ _ (⟨hN7,HS2.out _ hN7⟩) (fun hHeld=>?_)
   clear hK K
   (try simp only [Act.put,List.setIfInBounds_toArray,List.set_cons_zero,List.set_cons_succ])
   refine wpAnyH_ready (rs:=[18]) (by kernel_rfl) (by simp) ?_
   refine AllReadyH.cons (o := { dst := none, op := Go.Op.store 24 (Go.Operand.tmp 17) (Go.Operand.tmp 89), type := 0, pos := "law.go:421", after := #[{ on := 17, ground := Go.Ground.data }, { on := 14, ground := Go.Ground.data }, { on := 12, ground := Go.Ground.chain }, { on := 0, ground := Go.Ground.phase }, { on := 1, ground := Go.Ground.phase }, { on := 2, ground := Go.Ground.phase }, { on := 3, ground := Go.Ground.phase }, { on := 4, ground := Go.Ground.phase }, { on := 5, ground := Go.Ground.phase }, { on := 6, ground := Go.Ground.phase }, { on := 7, ground := Go.Ground.phase }, { on := 8, ground := Go.Ground.phase }, { on := 9, ground := Go.Ground.phase }, { on := 10, ground := Go.Ground.phase }, { on := 11, ground := Go.Ground.phase }, { on := 12, ground := Go.Ground.phase }, { on := 13, ground := Go.Ground.phase }, { on := 14, ground := Go.Ground.phase }, { on := 15, ground := Go.Ground.textOnly Go.Departure.lateStores }, { on := 16, ground := Go.Ground.textOnly Go.Departure.lateStores }, { on := 17, ground := Go.Ground.phase }], guard := none }) rfl (fun K hK => ?_) AllReadyH.nil
   go_simp
   have hN8:Below Y2.heap.size Y2 (w6.alloc (.cells #[.slice A6 n c6] 24)):=by go_grown
   have hcq:(w6.alloc (.cells #[.slice A6 n c6] 24)).cell? ⟨w6.heap.size,0,none⟩=some (.slice A6 n c6):=(Lib.cell_of_heap (heap_alloc_new ..) 0).trans rfl
   have HF:Hid (∃ Am Cm zs,DimsV (w6.alloc (.cells #[.slice A6 n c6] 24)) A6 c6 n D Am Cm∧zs.length=zl∧EnsV (w6.alloc (.cells #[.slice A6 n c6] 24)) AE6 ce6 zs∧lE zs=lE xs):=⟨Am6,Cm6,zs,hD6.later (by go_grown),hzl,hE6.later (by go_grown),hl6⟩
   clear hD6 hE6 hl6 hzl
   refine hK.out _ _ (⟨hN8,HS2.out _ hN8⟩) (fun hHeld=>?_)
   clear hK K
   (try simp only [Act.put,List.setIfInBounds_toArray,List.set_cons_zero,List.set_cons_succ])
   refine wpAnyH_ready (rs:=[19]) (by kernel_rfl) (by simp) ?_
   refine AllReadyH.cons (o := { dst := some 18, op := Go.Op.assign (Go.Operand.tmp 90), type := 25, pos := "law.go:421", after := #[{ on := 15, ground := Go.Ground.data }, { on := 18, ground := Go.Ground.chain }, { on := 0, ground := Go.Ground.phase }, { on := 1, ground := Go.Ground.phase }, { on := 2, ground := Go.Ground.phase }, { on := 3, ground := Go.Ground.phase }, { on := 4, ground := Go.Ground.phase }, { on := 5, ground := Go.Ground.phase }, { on := 6, ground := Go.Ground.phase }, { on := 7, ground := Go.Ground.phase }, { on := 8, ground := Go.Ground.phase }, { on := 9, ground := Go.Ground.phase }, { on := 10, ground := Go.Ground.phase }, { on := 11, ground := Go.Ground.phase }, { on := 12, ground := Go.Ground.phase }, { on := 13, ground := Go.Ground.phase }, { on := 14, ground := Go.Ground.phase }, { on := 15, ground := Go.Ground.phase }, { on := 16, ground := Go.Ground.textOnly Go.Departure.lateStores }, { on := 17, ground := Go.Ground.phase }, { on := 18, ground := Go.Ground.phase }], guard := none }) rfl (fun K hK => ?_) AllReadyH.nil
   go_simp
   refine hK.out _ _ (⟨hN8,HS2.out _ hN8⟩) (fun hHeld=>?_)
   clear hK K
   (try simp only [Act.put,List.setIfInBounds_toArray,List.set_cons_zero,List.set_cons_succ])
   refine wpAnyH_ready (rs:=[20]) (by kernel_rfl) (by simp) ?_
   refine AllReadyH.cons (o := { dst := some 19, op := Go.Op.assign (Go.Operand.tmp 91), type := 34, pos := "law.go:421", after := #[{ on := 16, ground := Go.Ground.data }, { on := 19, ground := Go.Ground.chain }, { on := 0, ground := Go.Ground.phase }, { on := 1, ground := Go.Ground.phase }, { on := 2, ground := Go.Ground.phase }, { on := 3, ground := Go.Ground.phase }, { on := 4, ground := Go.Ground.phase }, { on := 5, ground := Go.Ground.phase }, { on := 6, ground := Go.Ground.phase }, { on := 7, ground := Go.Ground.phase }, { on := 8, ground := Go.Ground.phase }, { on := 9, ground := Go.Ground.phase }, { on := 10, ground := Go.Ground.phase }, { on := 11, ground := Go.Ground.phase }, { on := 12, ground := Go.Ground.phase }, { on := 13, ground := Go.Ground.phase }, { on := 14, ground := Go.Ground.phase }, { on := 15, ground := Go.Ground.phase }, { on := 16, ground := Go.Ground.phase }, { on := 17, ground := Go.Ground.phase }, { on := 18, ground := Go.Ground.phase }, { on := 19, ground := Go.Ground.phase }], guard := none }) rfl (fun K hK => ?_) AllReadyH.nil
   go_simp
   refine hK.out _ _ (⟨hN8,HS2.out _ hN8⟩) (fun hHeld=>?_)
   clear hK K
   (try simp only [Act.put,List.setIfInBounds_toArray,List.set_cons_zero,List.set_cons_succ])
   refine wpAnyH_done (by kernel_rfl) ?_ _
   clear hb6
   go_wp2_with fail
   go_meet
   exact ⟨_,_,_,_,_,_,rfl,rfl,rfl,hcq,HF,hN8⟩
  ·go_simp
   have hN5:Below Y2.heap.size Y2 (Y2.alloc (.cells #[.slice none 0 0] 24)).drew:=by go_grown
   refine hK.out _ _ (⟨hN5,HS2.out _ hN5⟩) (fun hHeld=>?_)
   clear hK K
   (try simp only [Act.put,List.setIfInBounds_toArray,List.set_cons_zero,List.set_cons_succ])
   refine wpAnyH_ready (rs:=[12]) (by kernel_rfl) (by simp) ?_
   refine AllReadyH.cons (o := { dst := some 88, op := Go.Op.call { callee := Go.Callee.value (Go.Operand.func 5), args := #[Go.Operand.tmp 76, Go.Operand.tmp 77, Go.Operand.tmp 87], argTypes := #[24, 25, 27] }, type := 35, pos := "law.go:421", after := #[{ on := 0, ground := Go.Ground.data }, { on := 1, ground := Go.Ground.data }, { on := 11, ground := Go.Ground.data }], guard := none }) rfl (fun K hK => ?_) AllReadyH.nil
   go_simp
   refine (HDo2.out _ (by go_grown)).mono ?_
   rintro e w6 ⟨⟨A6,c6,Am6,Cm6,AE6,ce6,zl,rfl,hD6,zs,hzl,hE6,hl6⟩,hb6⟩
   have hN6:=onB (W0:=Y2) hN5 hb6
   have hs6:=hN6.size
   have hX6:(Y2.alloc (.cells #[.slice none 0 0] 24)).drew.heap.size=Y2.heap.size+1:=by simp
   rw [hX6] at hb6
   dsimp only
   have hq6:w6.heap[Y2.heap.size]?=some (.cells #[.slice none 0 0] 24 (0,0)):=(hb6.block Y2.heap.size (by omega)).trans (heap_alloc_new Y2 (.cells #[.slice none 0 0] 24))
   have l0:w6.cell? ⟨Y2.heap.size,0,none⟩=some (.slice none 0 0):=(Lib.cell_of_heap hq6 0).trans rfl
   have f0:=Lib.frozen_of_heap hq6 0
   refine hK.out _ _ (⟨hN6,HS2.out _ hN6⟩) (fun hHeld=>?_)
   clear hK K
   (try simp only [Act.put,List.setIfInBounds_toArray,List.set_cons_zero,List.set_cons_succ])
   refine wpAnyH_take (i := 13) (oi := { dst := some 75, op := Go.Op.move (Go.Operand.tmp 88), type := 35, pos := "law.go:421", after := #[{ on := 12, ground := Go.Ground.data }], guard := none }) (v := ?vqB13) rfl (by kernel_rfl) (by kernel_rfl) (by kernel_rfl) (fun _ _ _ h => h) (Or.inl ⟨by rfl, ?yqB13⟩) hHeld ?rqB13
   case yqB13=>(intro w hSw;(try dsimp only at hSw);go_simp;(try with_reducible rfl))
   (try simp only [Act.put,List.setIfInBounds_toArray,List.set_cons_zero,List.set_cons_succ])
   refine wpAnyH_take (i := 14) (oi := { dst := some 89, op := Go.Op.extract (Go.Operand.tmp 75) 0, type := 24, pos := "law.go:421", after := #[{ on := 13, ground := Go.Ground.data }], guard := none }) (v := ?vqB14) rfl (by kernel_rfl) (by kernel_rfl) (by kernel_rfl) (fun _ _ _ h => h) (Or.inl ⟨by rfl, ?yqB14⟩) hHeld ?rqB14
   case yqB14=>(intro w hSw;(try dsimp only at hSw);go_simp;(try with_reducible rfl))
   (try simp only [Act.put,List.setIfInBounds_toArray,List.set_cons_zero,List.set_cons_succ])
   refine wpAnyH_take (i := 15) (oi := { dst := some 90, op := Go.Op.extract (Go.Operand.tmp 75) 1, type := 25, pos := "law.go:421", after := #[{ on := 13, ground := Go.Ground.data }, { on := 18, ground := Go.Ground.gcOnly Go.Departure.lateStores }], guard := none }) (v := ?vqB15) rfl (by kernel_rfl) (by kernel_rfl) (by kernel_rfl) (fun _ _ _ h => h) (Or.inl ⟨by rfl, ?yqB15⟩) hHeld ?rqB15
   case yqB15=>(intro w hSw;(try dsimp only at hSw);go_simp;(try with_reducible rfl))
   (try simp only [Act.put,List.setIfInBounds_toArray,List.set_cons_zero,List.set_cons_succ])
   refine wpAnyH_take (i := 16) (oi := { dst := some 91, op := Go.Op.extract (Go.Operand.tmp 75) 2, type := 34, pos := "law.go:421", after := #[{ on := 13, ground := Go.Ground.data }, { on := 19, ground := Go.Ground.gcOnly Go.Departure.lateStores }], guard := none }) (v := ?vqB16) rfl (by kernel_rfl) (by kernel_rfl) (by kernel_rfl) (fun _ _ _ h => h) (Or.inl ⟨by rfl, ?yqB16⟩) hHeld ?rqB16
   case yqB16=>(intro w hSw;(try dsimp only at hSw);go_simp;(try with_reducible rfl))
   (try simp only [Act.put,List.setIfInBounds_toArray,List.set_cons_zero,List.set_cons_succ])
   refine wpAnyH_ready (rs:=[18]) (by kernel_rfl) (by simp) ?_
   refine AllReadyH.cons (o := { dst := none, op := Go.Op.store 24 (Go.Operand.tmp 17) (Go.Operand.tmp 89), type := 0, pos := "law.go:421", after := #[{ on := 17, ground := Go.Ground.data }, { on := 14, ground := Go.Ground.data }, { on := 12, ground := Go.Ground.chain }, { on := 0, ground := Go.Ground.phase }, { on := 1, ground := Go.Ground.phase }, { on := 2, ground := Go.Ground.phase }, { on := 3, ground := Go.Ground.phase }, { on := 4, ground := Go.Ground.phase }, { on := 5, ground := Go.Ground.phase }, { on := 6, ground := Go.Ground.phase }, { on := 7, ground := Go.Ground.phase }, { on := 8, ground := Go.Ground.phase }, { on := 9, ground := Go.Ground.phase }, { on := 10, ground := Go.Ground.phase }, { on := 11, ground := Go.Ground.phase }, { on := 12, ground := Go.Ground.phase }, { on := 13, ground := Go.Ground.phase }, { on := 14, ground := Go.Ground.phase }, { on := 15, ground := Go.Ground.textOnly Go.Departure.lateStores }, { on := 16, ground := Go.Ground.textOnly Go.Departure.lateStores }, { on := 17, ground := Go.Ground.phase }], guard := none }) rfl (fun K hK => ?_) AllReadyH.nil
   go_simp
   have hN8:Below Y2.heap.size Y2 (w6.setCell ⟨Y2.heap.size,0,none⟩ (.slice A6 n c6)):=hN6.setCell (Nat.le_refl _) _
   have hcq:(w6.setCell ⟨Y2.heap.size,0,none⟩ (.slice A6 n c6)).cell? ⟨Y2.heap.size,0,none⟩=some (.slice A6 n c6):=World.cell?_setCell_same w6 ⟨Y2.heap.size,0,none⟩ _ l0
   have HF:Hid (∃ Am Cm zs,DimsV (w6.setCell ⟨Y2.heap.size,0,none⟩ (.slice A6 n c6)) A6 c6 n D Am Cm∧zs.length=zl∧EnsV (w6.setCell ⟨Y2.heap.size,0,none⟩ (.slice A6 n c6)) AE6 ce6 zs∧lE zs=lE xs):=⟨Am6,Cm6,zs,dims_far hq6 hD6,hzl,ens_far hq6 hE6,hl6⟩
   clear hD6 hE6 hl6 hzl l0 f0 hq6
   refine hK.out _ _ (⟨hN8,HS2.out _ hN8⟩) (fun hHeld=>?_)
   clear hK K
   (try simp only [Act.put,List.setIfInBounds_toArray,List.set_cons_zero,List.set_cons_succ])
   refine wpAnyH_ready (rs:=[19]) (by kernel_rfl) (by simp) ?_
   refine AllReadyH.cons (o := { dst := some 18, op := Go.Op.assign (Go.Operand.tmp 90), type := 25, pos := "law.go:421", after := #[{ on := 15, ground := Go.Ground.data }, { on := 18, ground := Go.Ground.chain }, { on := 0, ground := Go.Ground.phase }, { on := 1, ground := Go.Ground.phase }, { on := 2, ground := Go.Ground.phase }, { on := 3, ground := Go.Ground.phase }, { on := 4, ground := Go.Ground.phase }, { on := 5, ground := Go.Ground.phase }, { on := 6, ground := Go.Ground.phase }, { on := 7, ground := Go.Ground.phase }, { on := 8, ground := Go.Ground.phase }, { on := 9, ground := Go.Ground.phase }, { on := 10, ground := Go.Ground.phase }, { on := 11, ground := Go.Ground.phase }, { on := 12, ground := Go.Ground.phase }, { on := 13, ground := Go.Ground.phase }, { on := 14, ground := Go.Ground.phase }, { on := 15, ground := Go.Ground.phase }, { on := 16, ground := Go.Ground.textOnly Go.Departure.lateStores }, { on := 17, ground := Go.Ground.phase }, { on := 18, ground := Go.Ground.phase }], guard := none }) rfl (fun K hK => ?_) AllReadyH.nil
   go_simp
   refine hK.out _ _ (⟨hN8,HS2.out _ hN8⟩) (fun hHeld=>?_)
   clear hK K
   (try simp only [Act.put,List.setIfInBounds_toArray,List.set_cons_zero,List.set_cons_succ])
   refine wpAnyH_ready (rs:=[20]) (by kernel_rfl) (by simp) ?_
   refine AllReadyH.cons (o := { dst := some 19, op := Go.Op.assign (Go.Operand.tmp 91), type := 34, pos := "law.go:421", after := #[{ on := 16, ground := Go.Ground.data }, { on := 19, ground := Go.Ground.chain }, { on := 0, ground := Go.Ground.phase }, { on := 1, ground := Go.Ground.phase }, { on := 2, ground := Go.Ground.phase }, { on := 3, ground := Go.Ground.phase }, { on := 4, ground := Go.Ground.phase }, { on := 5, ground := Go.Ground.phase }, { on := 6, ground := Go.Ground.phase }, { on := 7, ground := Go.Ground.phase }, { on := 8, ground := Go.Ground.phase }, { on := 9, ground := Go.Ground.phase }, { on := 10, ground := Go.Ground.phase }, { on := 11, ground := Go.Ground.phase }, { on := 12, ground := Go.Ground.phase }, { on := 13, ground := Go.Ground.phase }, { on := 14, ground := Go.Ground.phase }, { on := 15, ground := Go.Ground.phase }, { on := 16, ground := Go.Ground.phase }, { on := 17, ground := Go.Ground.phase }, { on := 18, ground := Go.Ground.phase }, { on := 19, ground := Go.Ground.phase }], guard := none }) rfl (fun K hK => ?_) AllReadyH.nil
   go_simp
   refine hK.out _ _ (⟨hN8,HS2.out _ hN8⟩) (fun hHeld=>?_)
   clear hK K
   (try simp only [Act.put,List.setIfInBounds_toArray,List.set_cons_zero,List.set_cons_succ])
   refine wpAnyH_done (by kernel_rfl) ?_ _
   clear hb6
   go_wp2_with fail
   go_meet
   exact ⟨_,_,_,_,_,_,rfl,rfl,rfl,hcq,HF,hN8⟩
 case rest =>
  obtain ⟨q,A',c',AE',ce',zl,rfl,rfl,rfl,hcq,hcx,hbx⟩:=hcut
  obtain ⟨wx,rfl⟩:∃ wx:World,wx=wc:=⟨_,rfl⟩
  obtain ⟨Am,Cm,zs,hDx,hzl,hEx,hlx⟩:=hcx.out
  have HBx:=hid_of (onB HBZ.out hbx)
  have xA:=HAZ.out wx hbx
  have h5:=HOut.out A' c' Am Cm wx HBx.out hDx
  have HSx:Hid (∀ w',Below wx.heap.size wx w'→Calls Tryz.prog 12 #[.slice AE' zl ce',.slice AE xl ce] w' fun e w''=>e=.returned (.bool true)∧Below w'.heap.size w' w''):=fun w' hb=>by
   rw [←hzl]
   exact HSE.out AE' ce' zs w' (onB HBx.out hb) (hEx.later hb) hlx
  clear hcx hDx hEx hlx hbx v0 v1 vA
  go_wp2_with fail
  refine h5.mono ?_
  rintro e w7 ⟨rfl,hb7⟩
  have h6:=HSx.out w7 hb7
  have HB7:=hid_of (onB HBx.out hb7)
  clear h5 hb7
  go_wp2_with fail
  refine h6.mono ?_
  rintro e w8 ⟨rfl,hb8⟩
  have HB8:=hid_of (onB HB7.out hb8)
  clear h6 hb8
  go_wp2_with fail
  go_ret
  exact ⟨by simp,HB8.out⟩
theorem grows_law (A0:Option Addr) (cap n:Nat) (D:Nat→Dm) (A:Nat→Option Addr) (C:Nat→Nat) (AE:Option Addr) (ce:Nat) (xs:List EnL) (dim tgt sign:Int) (w:World) (hE:TabE w) (hM:DimsV w A0 cap n D A C) (hEn:EnsV w AE ce xs) :
  Calls Tryz.prog 4 #[.agg #[.slice A0 n cap],.slice AE xs.length ce,.int .i64 dim,.int .i64 tgt,.int .i64 sign] w fun e w'=>e=.returned (.bool true)∧Below w.heap.size w w' :=
 grows_D A0 cap n (fun i=>nrm (D i)) A C AE ce xs dim tgt sign w hE (dims_nrm hM) hEn fun i _ _ hx=>nrm_out (D i) hx
end Go.Proofs.YtglekooldbeklaaGreatDoor
