/-
  Two lists of edits that are the same; A SUM ON ITS PARTS: SpreadTells.
-/
import Derived.Test.YtenlladggdcfnaaGreatDoorJABS
namespace Go.Proofs.YtenlladggdcfnaaGreatDoor
open Go Go.ChangeShapes Go.WideShapes Go.ChangeAt Go.RowKit Go.Shelf Go.Lib Go.Sort
set_option maxRecDepth 100000
theorem lD_at (ys:List EdL) (k:Nat):(lD ys).getD k noD.x=(ys.getD k noD).x:=by
 unfold lD
 rw [List.getD_eq_getElem?_getD,List.getD_eq_getElem?_getD,List.getElem?_map]
 cases ys[k]? <;> rfl
set_option maxHeartbeats 8000000 in
theorem sameeds_any (A1 A2:Option Addr) (c1 c2:Nat) (xs ys:List EdL) (w:World) (hl:lD xs=lD ys) (hn:xs.length≤3000) (h4:∀ x∈lD xs,x.pl.length≤4) (hX:EdsV w A1 c1 xs) (hY:EdsV w A2 c2 ys) :
  Calls Tryz.prog 12 #[.slice A1 xs.length c1,.slice A2 ys.length c2] w fun e w'=>e=.returned (.bool true)∧Below w.heap.size w w':=by
 have hyl:ys.length=xs.length:=by rw [←lD_len,←hl,lD_len]
 obtain ⟨N,hN⟩:∃ N,xs.length=N:=⟨_,rfl⟩
 have HX:=hid_of hX
 have HY:=hid_of hY
 have HN:Hid (xs.length=N∧ys.length=N):=⟨hN,by rw [hyl];exact hN⟩
 have HEq:Hid (∀ k,k<N→(xs.getD k noD).x=(ys.getD k noD).x∧(xs.getD k noD).x.pl.length≤4):=fun k hk=>by
  refine ⟨by rw [←lD_at,←lD_at,hl],?_⟩
  rw [←lD_at]
  refine h4 _ ?_
  rw [List.getD_eq_getElem?_getD,List.getElem?_eq_getElem (by rw [lD_len];omega)]
  exact List.getElem_mem _
 rw [hyl]
 rw [hN] at hn ⊢
 have hn':(N:Int)≤3000:=by omega
 have hne:((N:Int) != (N:Int))=false:=by simp
 clear hX hY hN hyl hl h4
 go_enter Tryz.func12,Tryz.ntmps12
 go_wp2_with fail
 go_loopg [5,6] N (fun g s5 s6 wr => ∃ (k:Nat),k≤N∧g=N-k∧s5=.int .i64 k∧(∃ x,x=s6)∧Hid (Below w.heap.size w wr))
 case atStart=>exact ⟨0,Nat.zero_le _,rfl,rfl,⟨_,rfl⟩,Below.refl _ _⟩
 case round =>
  obtain ⟨k,hk,rfl,rfl,⟨v6,rfl⟩,HB⟩:=hrel
  by_cases hlt:k<N
  ·have hki:(k:Int)<(N:Int):=by omega
   obtain ⟨hca,-,h0 | ⟨b1,o1,rfl,hX⟩⟩:=HX.out.later HB.out
   ·have:=HN.out.1;rw [h0] at this;simp at this;omega
   obtain ⟨hcb,-,h0 | ⟨b2,o2,rfl,hY⟩⟩:=HY.out.later HB.out
   ·have:=HN.out.2;rw [h0] at this;simp at this;omega
   obtain ⟨x0,x1,x2,x3⟩:=hX.2 k (by rw [HN.out.1];exact hlt)
   obtain ⟨y0,y1,y2,y3⟩:=hY.2 k (by rw [HN.out.2];exact hlt)
   obtain ⟨e1,e4⟩:=HEq.out k hlt
   rw [HN.out.1] at hca
   rw [HN.out.2] at hcb
   have HSm:Hid (∀ w',Below wr.heap.size wr w'→Calls Tryz.prog 29 #[.slice (xs.getD k noD).A (xs.getD k noD).x.pl.length (xs.getD k noD).c,.slice (ys.getD k noD).A (ys.getD k noD).x.pl.length (ys.getD k noD).c] w' fun e w''=>e=.returned (.bool true)∧Below w'.heap.size w' w''):=fun w' hw'=>by
    have h:=samepl_any (xs.getD k noD).A (ys.getD k noD).A (xs.getD k noD).c (ys.getD k noD).c (xs.getD k noD).x.pl (ys.getD k noD).x.pl w' e4 (x3.later hw') (y3.later hw')
    rw [decide_eq_true (by rw [e1])] at h
    exact h
   have hz1:=hX.1
   have hz2:=hY.1
   have HKq:Hid (b1<wr.heap.size∧b2<wr.heap.size∧wr.cell? ⟨b1,o1+k*3,none⟩=some (.slice (xs.getD k noD).A (xs.getD k noD).x.pl.length (xs.getD k noD).c)∧wr.cell? ⟨b2,o2+k*3,none⟩=some (.slice (ys.getD k noD).A (ys.getD k noD).x.pl.length (ys.getD k noD).c)):=⟨hz1,hz2,x0,y0⟩
   rw [←e1] at y1 y2
   generalize (xs.getD k noD).x.n=vn at x1 y1
   generalize (xs.getD k noD).x.clear=vc at x2 y2
   generalize (xs.getD k noD).A=X1 at x0 HSm HKq
   generalize (xs.getD k noD).x.pl.length=X2 at x0 HSm HKq
   generalize (xs.getD k noD).c=X3 at x0 HSm HKq
   generalize (ys.getD k noD).A=Y1 at y0 HSm HKq
   generalize (ys.getD k noD).x.pl.length=Y2 at y0 HSm HKq
   generalize (ys.getD k noD).c=Y3 at y0 HSm HKq
   have HV:Hid (wr.cell? ⟨b1,o1+k*3+1,none⟩=some (.int .i64 vn)∧wr.cell? ⟨b1,o1+k*3+2,none⟩=some (.bool vc)∧wr.cell? ⟨b2,o2+k*3+1,none⟩=some (.int .i64 vn)∧wr.cell? ⟨b2,o2+k*3+2,none⟩=some (.bool vc)):=⟨x1,x2,y1,y2⟩
   clear hX hY x1 x2 x3 y1 y2 y3 e1 e4
   go_upto_region 6 with fail
   go_cut [6] from 12 to 56 (fun s6 wx=>s6=.bool true∧Hid (Below wr.heap.size wr wx))
   case first =>
    go_region_held3 (fun w'=>Below wr.heap.size wr w'∧w'.cell? ⟨b1,o1+k*3,none⟩=some (.slice X1 X2 X3)∧w'.cell? ⟨b2,o2+k*3,none⟩=some (.slice Y1 Y2 Y3))
     ((refine keepQ2 HKq.out ?_;go_grown;done))
     (first | (go_at_call 29;refine (HSm.out _ (by go_grown)).mono ?_;rintro e w3 ⟨rfl,hb3⟩;have hM3:=onB (W0:=wr) (by go_grown) hb3;have hy3:=hM3.size;clear hb3))
    all_goals go_wp2_with fail
    all_goals go_meet
    all_goals exact ⟨rfl,hid_of (by go_grown)⟩
   case rest =>
   obtain ⟨rfl,hb⟩:=hcut
   obtain ⟨wd,rfl⟩:∃ wd,wd=wc:=⟨_,rfl⟩
   have HB2:Hid (Below w.heap.size w wd):=onB HB.out hb.out
   have d1:wd.cell? ⟨b1,o1+k*3+1,none⟩=some (.int .i64 vn):=(hb.out.cell (p:=⟨b1,o1+k*3+1,none⟩) hz1).trans HV.out.1
   have d2:wd.cell? ⟨b1,o1+k*3+2,none⟩=some (.bool vc):=(hb.out.cell (p:=⟨b1,o1+k*3+2,none⟩) hz1).trans HV.out.2.1
   have d3:wd.cell? ⟨b2,o2+k*3+1,none⟩=some (.int .i64 vn):=(hb.out.cell (p:=⟨b2,o2+k*3+1,none⟩) hz2).trans HV.out.2.2.1
   have d4:wd.cell? ⟨b2,o2+k*3+2,none⟩=some (.bool vc):=(hb.out.cell (p:=⟨b2,o2+k*3+2,none⟩) hz2).trans HV.out.2.2.2
   have hv1:(vn != vn)=false:=by simp
   have hv2:(vc != vc)=false:=by simp
   clear x0 y0 HSm HKq HV
   go_upto_region 7 with fail
   go_quiet (fail)
   go_wp2_with fail
   go_roundg (N-(k+1))
   case measure=>omega
   case rel=>exact ⟨k+1,by omega,rfl,by go_num,⟨_,rfl⟩,below_drewN HB2.out _⟩
  ·have hke:k=N:=by omega
   subst hke
   go_wp2_with fail
   go_ret
   exact ⟨rfl,HB.out⟩
theorem toO_fit {D:Nat→Dm} {n:Nat} {l:List En} {p:List Int} {N:Int} {x:List Ed} (h:ToO D n l p N x):x.length≤3000∧∀ y∈x,y.pl.length≤4:=by
 unfold ToO at h
 by_cases e:toE D n l p N=0
 ·rw [if_pos e] at h
  obtain ⟨L,-,rfl⟩:=h
  have hp:placeErr D n p=0∧clE D n p=0:=by
   unfold toE at e
   by_cases a1:(ruErr D n).2.2≠0
   ·rw [if_pos a1] at e;exact absurd e a1
   rw [if_neg a1] at e
   by_cases a2:entsErr D n l≠0
   ·rw [if_pos a2] at e;exact absurd e a2
   rw [if_neg a2] at e
   by_cases a3:placeErr D n p≠0
   ·rw [if_pos a3] at e;exact absurd e a3
   rw [if_neg a3] at e
   by_cases a4:clE D n p≠0
   ·rw [if_pos a4] at e;exact absurd e a4
   exact ⟨by simpa using a3,by simpa using a4⟩
  have hi:=inO_of hp.1
  refine ⟨?_,fun y hy=>?_⟩
  ·have h1:=lfTo_len (D:=D) p n
   have:=(allErr_some hi.right).2.2.1
   unfold edL
   rw [List.length_map,List.length_range];omega
  ·unfold edL at hy
   obtain ⟨i,hi2,rfl⟩:=List.mem_map.1 hy
   have hm:(lfTo D p n).getD i []∈lfTo D p n:=by
    rw [List.getD_eq_getElem?_getD,List.getElem?_eq_getElem (List.mem_range.1 hi2)];exact List.getElem_mem _
   exact inO_short (lf_in hi.right hm).1
 ·rw [if_neg e] at h
  subst h
  exact ⟨by simp,fun y hy=>by cases hy⟩
theorem evO_small (n m:Int):(evO n m).length≤1048576:=by
 by_cases h:evE n m=0
 ·have:=(ev_len h).2.2.1;omega
 ·unfold evO;rw [if_neg h];simp
theorem lkO_small {n:Int} {W L:List Int} (h:LkO n W L):L.length≤1048576:=by
 by_cases e:lkE n W=0
 ·have h1:=(lk_facts e h).1
  have h2:=(lkE_ok e).2.2.1
  omega
 ·unfold LkO at h
  rw [if_neg e] at h
  rw [h];simp
set_option maxHeartbeats 16000000 in
theorem sptells_law (N parts:Int) (Aw:Option Addr) (cw:Nat) (V:List Int) (A0:Option Addr) (cap n:Nat) (D:Nat→Dm) (A:Nat→Option Addr) (C:Nat→Nat) (AE:Option Addr) (ce:Nat) (xs:List EnL) (Ap:Option Addr) (cp:Nat) (p:List Int) (w:World) (hV:PlAt w Aw cw V) (hM:DimsV w A0 cap n D A C) (hEn:EnsV w AE ce xs) (hP:PlAt w Ap cp p) (hK:Kind0 w) :
  Calls Tryz.prog 3 #[.int .i64 N,.int .i64 parts,.slice Aw V.length cw,.agg #[.slice A0 n cap],.slice AE xs.length ce,.slice Ap p.length cp] w fun e w'=>e=.returned (.bool true)∧Below w.heap.size w w':=by
 obtain ⟨W,hW⟩:∃ W,w.alloc (.cells #[.slice A0 n cap] 25)=W:=⟨_,rfl⟩
 have hBW:Below w.heap.size w W:=by rw [←hW];go_grown
 have hA:W.cell? ⟨w.heap.size,0,none⟩=some (.slice A0 n cap):=by rw [←hW];simp
 have l0:w.heap.size<W.heap.size:=by rw [←hW];simp
 have HV:=hid_of hV
 have HM:=hid_of hM
 have HE:=hid_of hEn
 have HP:=hid_of hP
 have HBW:=hid_of hBW
 have HA:=hid_of hA
 have HS:=hid_of fun (c:Int) w' (hB:Below w.heap.size w w')=>same_errC c w' (hK.later hB)
 have H1:=hid_of fun w'=>reven_any N parts w'
 have H2:=hid_of fun w'=>even_any N parts w'
 have H3:=hid_of fun w' (hB:Below w.heap.size w w')=>rlike_any N Aw cw V w' (HV.out.later hB)
 have H4:=hid_of fun w' (hB:Below w.heap.size w w')=>like_any N Aw cw V w' (HV.out.later hB)
 have H5:=hid_of fun w' (hB:Below w.heap.size w w')=>rspread_any A0 cap n D A C AE ce xs Ap cp p N w' (HM.out.later hB) (HE.out.later hB) (HP.out.later hB)
 have H6:=hid_of fun w' (hB:Below w.heap.size w w')=>to_any A0 cap n D A C AE ce xs Ap cp p N w' (HM.out.later hB) (HE.out.later hB) (HP.out.later hB)
 obtain ⟨lx,hlx⟩:∃ lx,xs.length=lx:=⟨_,rfl⟩
 obtain ⟨lp,hlp⟩:∃ lp,p.length=lp:=⟨_,rfl⟩
 obtain ⟨lv,hlv⟩:∃ lv,V.length=lv:=⟨_,rfl⟩
 rw [hlx,hlp] at H5 H6
 rw [hlv] at H3 H4
 rw [hlx,hlp,hlv]
 clear hV hM hEn hP hBW hlx hlp hlv hA hK
 go_enter Tryz.func3,Tryz.ntmps3
 go_upto_region 1 with fail
 clear hW
 go_wp2_with fail
 refine (H1.out W).mono ?_
 rintro e w1 ⟨A1,c1,rfl,hp1,hb1⟩
 have HB1:Hid (Below W.heap.size W w1):=hb1
 have HP1:=hid_of hp1
 clear hb1 hp1
 have h2:=H2.out w1
 have h3:=HS.out (evE N parts)
 generalize evE N parts=E at h2 h3 ⊢
 have HSM:=hid_of (evO_small N parts)
 generalize evO N parts=L at h2 HP1 HSM ⊢
 have H3e:=hid_of h3
 obtain ⟨ll,hll⟩:∃ ll,L.length=ll:=⟨_,rfl⟩
 have HLL:=hid_of hll
 rw [hll] at h2 ⊢
 clear hll h3
 go_wp2_with fail
 refine h2.mono ?_
 rintro e w2 ⟨A2,c2,rfl,hp2,hb2⟩
 have HB2:Hid (Below W.heap.size W w2):=onB HB1.out hb2
 have HP2:Hid (PlAt w2 A1 c1 L∧PlAt w2 A2 c2 L):=⟨HP1.out.later hb2,hp2⟩
 clear hb2 hp2 h2
 go_wp2_with fail
 refine (H3e.out w2 (onB HBW.out HB2.out)).mono ?_
 rintro e w3 ⟨rfl,hb3⟩
 have HB3:Hid (Below W.heap.size W w3):=onB HB2.out hb3
 have h4:=sameints_pl A2 A1 c2 c1 L w3 HSM.out (HP2.out.2.later hb3) (HP2.out.1.later hb3)
 rw [HLL.out] at h4
 clear hb3 HB2 HB1 HP1 HP2
 go_wp2_with fail
 refine h4.mono ?_
 rintro e w4 ⟨rfl,hb4⟩
 have HB4:Hid (Below W.heap.size W w4):=onB HB3.out hb4
 clear hb4 h4 HB3 H3e HSM HLL
 have h5:=H3.out w4 (onB HBW.out HB4.out)
 go_wp2_with fail
 refine h5.mono ?_
 rintro e w5 ⟨A5,c5,L5,rfl,hp5,hO5,hb5⟩
 have HB5:Hid (Below W.heap.size W w5):=onB HB4.out hb5
 have HP5:Hid (PlAt w5 A5 c5 L5∧LkO N V L5):=⟨hp5,hO5⟩
 clear hb5 hp5 hO5 h5 HB4
 have h6:=H4.out w5 (onB HBW.out HB5.out)
 have h7:=hid_of (HS.out (lkE N V))
 generalize lkE N V=E6 at h6 h7 ⊢
 obtain ⟨l5,hl5⟩:∃ l,L5.length=l:=⟨_,rfl⟩
 have HL5:=hid_of hl5
 rw [hl5]
 clear hl5
 go_wp2_with fail
 refine h6.mono ?_
 rintro e w6 ⟨A6,c6,L6,rfl,hp6,hO6,hb6⟩
 have HB6:Hid (Below W.heap.size W w6):=onB HB5.out hb6
 have heq:L6=L5:=hO6.unique HP5.out.2
 subst heq
 have HP6:Hid (PlAt w6 A5 c5 L6∧PlAt w6 A6 c6 L6∧L6.length≤1048576):=⟨HP5.out.1.later hb6,hp6,lkO_small hO6⟩
 rw [HL5.out]
 clear hb6 hp6 hO6 h6 HB5 HP5
 go_wp2_with fail
 refine (h7.out w6 (onB HBW.out HB6.out)).mono ?_
 rintro e w7 ⟨rfl,hb7⟩
 have HB7:Hid (Below W.heap.size W w7):=onB HB6.out hb7
 have h8:=sameints_pl A6 A5 c6 c5 L6 w7 HP6.out.2.2 (HP6.out.2.1.later hb7) (HP6.out.1.later hb7)
 rw [HL5.out] at h8
 clear hb7 HB6 HP6
 go_wp2_with fail
 refine h8.mono ?_
 rintro e w8 ⟨rfl,hb8⟩
 have HB8:Hid (Below W.heap.size W w8):=onB HB7.out hb8
 have hA8:w8.cell? ⟨w.heap.size,0,none⟩=some (.slice A0 n cap):=(HB8.out.cell (p:=⟨w.heap.size,0,none⟩) l0).trans HA.out
 clear hb8 h8 HB7 h7
 have h9:=H5.out w8 (onB HBW.out HB8.out)
 unfold RTo at h9
 go_wp2_with fail
 refine h9.mono ?_
 rintro e w9 ⟨A9,c9,zs,rfl,hp9,hO9,hb9⟩
 have HB9:Hid (Below W.heap.size W w9):=onB HB8.out hb9
 have hA9:w9.cell? ⟨w.heap.size,0,none⟩=some (.slice A0 n cap):=(HB9.out.cell (p:=⟨w.heap.size,0,none⟩) l0).trans HA.out
 have HP9:Hid (EdsV w9 A9 c9 zs∧ToO D n (lE xs) p N (lD zs)):=⟨hp9,hO9⟩
 clear hb9 hp9 hO9 h9 HB8 hA8
 have h10:=H6.out w9 (onB HBW.out HB9.out)
 unfold ToRes at h10
 have h11:=hid_of (HS.out (toE D n (lE xs) p N))
 generalize toE D n (lE xs) p N=E10 at h10 h11 ⊢
 obtain ⟨l9,hl9⟩:∃ l,zs.length=l:=⟨_,rfl⟩
 have HL9:=hid_of hl9
 rw [hl9]
 clear hl9
 go_wp2_with fail
 refine h10.mono ?_
 rintro e wa ⟨Aa,ca,ys,rfl,hpa,hOa,hba⟩
 have HBa:Hid (Below W.heap.size W wa):=onB HB9.out hba
 have heq:lD ys=lD zs:=hOa.unique HP9.out.2
 have HPa:Hid (EdsV wa A9 c9 zs∧EdsV wa Aa ca ys∧lD ys=lD zs∧ys.length≤3000∧∀ x∈lD ys,x.pl.length≤4):=by
  obtain ⟨f1,f2⟩:=toO_fit hOa
  rw [lD_len] at f1
  exact ⟨HP9.out.1.later hba,hpa,heq,f1,f2⟩
 have hya:ys.length=l9:=by rw [←lD_len,heq,lD_len];exact HL9.out
 have HYA:=hid_of hya
 rw [hya]
 clear hba hpa hOa h10 HB9 HP9 heq hya hA9
 go_wp2_with fail
 refine (h11.out wa (onB HBW.out HBa.out)).mono ?_
 rintro e wb ⟨rfl,hbb⟩
 have HBb:Hid (Below W.heap.size W wb):=onB HBa.out hbb
 have h12:=sameeds_any Aa A9 ca c9 ys zs wb HPa.out.2.2.1 HPa.out.2.2.2.1 HPa.out.2.2.2.2 (HPa.out.2.1.later hbb) (HPa.out.1.later hbb)
 rw [HYA.out,HL9.out] at h12
 clear hbb HBa HPa
 go_wp2_with fail
 refine h12.mono ?_
 rintro e wz ⟨rfl,hbz⟩
 have HBz:Hid (Below w.heap.size w wz):=onB HBW.out (onB HBb.out hbz)
 clear hbz h12 HBb
 go_wp2_with fail
 go_ret
 exact ⟨rfl,HBz.out⟩
end Go.Proofs.YtenlladggdcfnaaGreatDoor
