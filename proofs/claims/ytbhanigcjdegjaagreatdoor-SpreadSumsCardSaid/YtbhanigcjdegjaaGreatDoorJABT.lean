/-
  NOTHING IS LOST: SpreadSums.
-/
import Derived.Test.YtbhanigcjdegjaaGreatDoorJABS
namespace Go.Proofs.YtbhanigcjdegjaaGreatDoor
open Go Go.ChangeShapes Go.WideShapes Go.ChangeAt Go.RowKit Go.Shelf Go.Lib Go.Sort
set_option maxRecDepth 100000
theorem ev_facts {N m:Int} (h:evE N m=0) {j:Nat} (hj:j<(evO N m).length):(evO N m).getD j 0≤(evO N m).getD 0 0∧(evO N m).getD 0 0-(evO N m).getD j 0≤1∧0≤(evO N m).getD j 0∧(evO N m).getD j 0≤N:=by
 have e:∀ i,i<(evO N m).length→(evO N m).getD i 0=evV N m i:=fun i hi=>by
  have hi':i<m.toNat:=by unfold evO at hi;rw [if_pos h] at hi;simpa using hi
  unfold evO
  rw [if_pos h,List.getD_eq_getElem?_getD,List.getElem?_map,List.getElem?_range hi'];rfl
 rw [e j hj,e 0 (by omega)]
 refine ⟨?_,?_,ev_bound h j⟩
 ·unfold evV;split <;> split <;> omega
 ·unfold evV;split <;> split <;> omega
theorem ev_len {N m:Int} (h:evE N m=0):((evO N m).length:Int)=m∧0<(evO N m).length∧(evO N m).length≤60∧0≤N∧N≤1000000:=by
 have h':0≤N∧N≤1000000∧1≤m∧m≤60:=by
  unfold evE at h
  by_cases k:0≤N∧N≤1000000∧1≤m∧m≤60
  ·exact k
  ·rw [if_neg k] at h;cases h
 unfold evO
 rw [if_pos h]
 simp only [List.length_map,List.length_range]
 omega
theorem lk_facts {N:Int} {W L:List Int} (h:lkE N W=0) (hL:LkO N W L):L.length=W.length∧L.sum=N∧(∀ x∈L,0≤x∧x≤N)∧∀ j,j<W.length→- W.sum<L.getD j 0*W.sum-N*W.getD j 0∧L.getD j 0*W.sum-N*W.getD j 0<W.sum:=by
 obtain ⟨h1,h2,h3,h4,h5⟩:=lkE_ok h
 unfold LkO at hL
 rw [if_pos h] at hL
 obtain ⟨P,hP,rfl⟩:=hL
 refine ⟨by simp [lkO],lkO_sum h5 hP,lk_bound h hP,fun j hj=>?_⟩
 have e:(lkO N W P).getD j 0=lkQ N W j+if P j then 1 else 0:=by
  unfold lkO
  rw [List.getD_eq_getElem?_getD,List.getElem?_map,List.getElem?_range hj];rfl
 have h6:=Int.mul_ediv_add_emod (N*W.getD j 0) W.sum
 change W.sum*lkQ N W j+lkR N W j=_ at h6
 have h7:=lkR_pos (n:=N) h5 j
 rw [e,Int.add_mul,Int.mul_comm (lkQ N W j)]
 cases hp:P j with
 | true=>have:=pick_rest h5 hP hj hp;rw [if_pos rfl];omega
 | false=>rw [if_neg (by decide)];omega
theorem hold2 {W w':World} {q:Nat} {a b:Value} (h:q<W.heap.size∧W.cell? ⟨q,0,none⟩=some a∧W.cell? ⟨q,1,none⟩=some b) (hB:Below W.heap.size W w'):Below W.heap.size W w'∧w'.cell? ⟨q,0,none⟩=some a∧w'.cell? ⟨q,1,none⟩=some b :=
 ⟨hB,(hB.cell (p:=⟨q,0,none⟩) h.1).trans h.2.1,(hB.cell (p:=⟨q,1,none⟩) h.1).trans h.2.2⟩
set_option maxHeartbeats 16000000 in
theorem ssums_law (N parts:Int) (Aw:Option Addr) (cw:Nat) (V:List Int) (A0:Option Addr) (cap n:Nat) (D:Nat→Dm) (A:Nat→Option Addr) (C:Nat→Nat) (AE:Option Addr) (ce:Nat) (xs:List EnL) (Ap:Option Addr) (cp:Nat) (p:List Int) (w:World) (hV:PlAt w Aw cw V) (hM:DimsV w A0 cap n D A C) (hEn:EnsV w AE ce xs) (hP:PlAt w Ap cp p) :
  Calls Tryz.prog 3 #[.int .i64 N,.int .i64 parts,.slice Aw V.length cw,.agg #[.slice A0 n cap],.slice AE xs.length ce,.slice Ap p.length cp] w fun e w'=>e=.returned (.bool true)∧Below w.heap.size w w':=by
 have mixed:Tryz.prog.follows .mixedOrders=true:=by kernel_rfl
 obtain ⟨W,hW⟩:∃ W,w.alloc (.cells #[.slice A0 n cap] 25)=W:=⟨_,rfl⟩
 have hBW:Below w.heap.size w W:=by rw [←hW];go_grown
 have hA:W.cell? ⟨w.heap.size,0,none⟩=some (.slice A0 n cap):=by rw [←hW];simp
 have l0:w.heap.size<W.heap.size:=by rw [←hW];simp
 have HV:=hid_of hV
 have HM:=hid_of hM
 have HE:=hid_of hEn
 have HP:=hid_of hP
 have HBW:=hid_of hBW
 have H1:=hid_of fun w'=>even_any 7 3 w'
 rw [show evE 7 3=0 by decide,show evO 7 3=[3,2,2] by decide] at H1
 have H2:=hid_of fun w'=>even_any N parts w'
 have H3:=hid_of fun w' (hB:Below w.heap.size w w')=>like_any N Aw cw V w' (HV.out.later hB)
 have H4:=hid_of fun w' (hB:Below w.heap.size w w')=>to_any A0 cap n D A C AE ce xs Ap cp p N w' (HM.out.later hB) (HE.out.later hB) (HP.out.later hB)
 obtain ⟨lx,hlx⟩:∃ lx,xs.length=lx:=⟨_,rfl⟩
 obtain ⟨lp,hlp⟩:∃ lp,p.length=lp:=⟨_,rfl⟩
 obtain ⟨lv,hlv⟩:∃ lv,V.length=lv:=⟨_,rfl⟩
 have HLX:=hid_of hlx
 have HLP:=hid_of hlp
 have HLV:=hid_of hlv
 rw [hlx,hlp] at H4
 rw [hlv] at H3
 rw [hlx,hlp,hlv]
 clear hV hM hEn hP hBW hlx hlp hlv
 go_enter Tryz.func3,Tryz.ntmps3
 go_upto_region 1 with fail
 clear hW
 go_wp2_with fail
 refine (H1.out W).mono ?_
 rintro e w1 ⟨A1,c1,rfl,hp1,hb1⟩
 have hA1:w1.cell? ⟨w.heap.size,0,none⟩=some (.slice A0 n cap):=(hb1.cell l0).trans hA
 have l1:w.heap.size<w1.heap.size:=Nat.lt_of_lt_of_le l0 hb1.size
 have HB1:Hid (Below w.heap.size w w1):=onB HBW.out hb1
 obtain ⟨-,h0 | ⟨b1,o1,rfl,-,hX⟩⟩:=hp1
 ·cases h0
 have f0:w1.cell? ⟨b1,o1,none⟩=some (.int .i64 3):=hX 0 (by decide)
 have f2:w1.cell? ⟨b1,o1+2,none⟩=some (.int .i64 2):=hX 2 (by decide)
 clear hb1 hA l0 HBW H1 hX
 rw [show ([3,2,2]:List Int).length=3 from rfl,show errV 0=.nilIface from rfl]
 go_upto_region 4 with fail
 clear f0 f2
 go_wp2_with fail
 refine (H2.out w1).mono ?_
 rintro e w2 ⟨A2,c2,rfl,hp2,hb2⟩
 have hA2:w2.cell? ⟨w.heap.size,0,none⟩=some (.slice A0 n cap):=(hb2.cell l1).trans hA1
 have l2:w.heap.size<w2.heap.size:=Nat.lt_of_lt_of_le l1 hb2.size
 have HB2:Hid (Below w.heap.size w w2):=onB HB1.out hb2
 have HP2:=hid_of hp2
 clear hb2 hA1 l1 HB1 H2 hp2
 obtain ⟨k,hk⟩:∃ k,(evO N parts).length=k:=⟨_,rfl⟩
 have HK:=hid_of hk
 rw [hk]
 go_upto_region 5 with fail
 go_cut [16,60] from 53 to 60 (fun s16 s60 wx=>(∃ x,x=s16)∧s60=.bool (decide (evE N parts=0))∧wx=w2)
 case first =>
  by_cases k1:evE N parts=0
  ·rw [k1,show errV 0=.nilIface from rfl]
   go_wp2_with fail
   go_meet
   exact ⟨⟨_,rfl⟩,by rw [decide_eq_true k1],rfl⟩
  ·rw [errV_bad k1]
   go_wp2_with fail
   go_meet
   exact ⟨⟨_,rfl⟩,by rw [decide_eq_false k1],rfl⟩
 case rest =>
 obtain ⟨⟨v16,rfl⟩,rfl,rfl⟩:=hcut
 go_upto_if 60 with fail
 go_cut [17,18,60] from 61 to 100 (fun s17 s18 s60 wx=>(∃ x,x=s17)∧(∃ x,x=s18)∧(∃ x,x=s60)∧Hid (Below w.heap.size w wx)∧wx.cell? ⟨w.heap.size,0,none⟩=some (.slice A0 n cap)∧w.heap.size<wx.heap.size)
 case first =>
  by_cases k1:evE N parts=0
  ·rw [decide_eq_true k1]
   obtain ⟨g1,g2,g3,g4,g5⟩:=ev_len k1
   have hkp:(k:Int)=parts:=by rw [←HK.out];exact g1
   have hk0:0<k:=by rw [←HK.out];exact g2
   have hk6:k≤60:=by rw [←HK.out];exact g3
   obtain ⟨hcap2,h0 | ⟨b2,o2,rfl,hb2,hX⟩⟩:=HP2.out
   ·have:=HK.out;rw [h0] at this;simp at this;omega
   obtain ⟨x0,hx0⟩:∃ x0,(evO N parts).getD 0 0=x0:=⟨_,rfl⟩
   have c0:wc.cell? ⟨b2,o2,none⟩=some (.int .i64 x0):=by have:=hX 0 (by rw [HK.out];exact hk0);rwa [Nat.add_zero,hx0] at this
   have HX:Hid (∀ j,j<k→wc.cell? ⟨b2,o2+j,none⟩=some (.int .i64 ((evO N parts).getD j 0))∧(evO N parts).getD j 0≤x0∧x0-(evO N parts).getD j 0≤1∧0≤(evO N parts).getD j 0∧(evO N parts).getD j 0≤N):=fun j hj=>by
    have hj':j<(evO N parts).length:=by rw [HK.out];exact hj
    have:=ev_facts k1 hj'
    rw [hx0] at this
    exact ⟨hX j hj',this⟩
   have HSm:Hid (∀ x∈evO N parts,0≤x∧x≤1000000):=fun x hx=>by
    obtain ⟨j,hj,rfl⟩:=List.getElem_of_mem hx
    have:=(HX.out j (by rw [←HK.out];exact hj)).2.2.2
    rw [List.getD_eq_getElem?_getD,List.getElem?_eq_getElem hj] at this
    simp only [Option.getD_some] at this;omega
   have HSum:Hid ((evO N parts).sum=N):=ev_sum k1
   have HPK:=hid_of hkp
   have hb0:=HX.out 0 hk0
   clear g1 g2 g3 hX hx0 hkp
   go_wp2_with fail
   go_loopg [17,18] k (fun gg s17 s18 wr => ∃ j:Nat,j≤k∧gg=k-j∧s17=.int .i64 (sumW (evO N parts) j)∧s18=.int .i64 j∧∃ m,wr=wc.drewN m)
   case atStart=>exact ⟨0,Nat.zero_le _,rfl,by simp [sumW],rfl,0,rfl⟩
   case round =>
    obtain ⟨j,hjk,rfl,rfl,rfl,m,rfl⟩:=hrel
    by_cases hlt:j<k
    ·have hjI:(j:Int)<(k:Int):=by omega
     obtain ⟨c1,d1,d2,d3,d4⟩:=HX.out j hlt
     have hst:=sumW_step (W:=evO N parts) (k:=j) (by rw [HK.out];exact hlt)
     have hbd:=sumW_bd HSm.out j (by rw [HK.out];omega)
     obtain ⟨x,hx⟩:∃ x,(evO N parts).getD j 0=x:=⟨_,rfl⟩
     rw [hx] at c1 d1 d2 d3 d4 hst
     have hsw:IntKind.i64.wrap (sumW (evO N parts) j+x)=sumW (evO N parts) (j+1):=by rw [hst,IntKind.wrap_i64];omega
     obtain ⟨s2,hs2⟩:∃ s2,s2=sumW (evO N parts) (j+1):=⟨_,rfl⟩
     rw [←hs2] at hsw
     have HS2:=hid_of hs2
     have hd1:decide (x > x0)=false:=decide_eq_false (by omega)
     have hd2:IntKind.i64.wrap (x0-x)=x0-x:=by rw [IntKind.wrap_i64];omega
     have hd3:decide (x0-x > 1)=false:=decide_eq_false (by omega)
     have hkI:(0:Int)<(k:Int):=by omega
     clear hst hbd hx hs2
     go_upto_region 11 with fail
     go_quiet (fail)
     go_wp2_with fail
     go_roundg (k-(j+1))
     case measure=>omega
     case rel=>exact ⟨j+1,by omega,rfl,by rw [HS2.out],by go_num,m+nq,rfl⟩
    ·have hje:j=k:=by omega
     subst hje
     have hs:sumW (evO N parts) j=N:=by unfold sumW;rw [List.take_of_length_le (by rw [HK.out];exact Nat.le_refl _)];exact HSum.out
     rw [hs]
     have hpI:((j:Int) == parts)=true:=by rw [HPK.out];simp
     clear hs
     go_wp2_with fail
     go_meet
     exact ⟨⟨_,rfl⟩,⟨_,rfl⟩,⟨_,rfl⟩,below_drewN HB2.out _,hA2,l2⟩
  ·rw [decide_eq_false k1]
   go_wp2_with fail
   go_meet
   exact ⟨⟨_,rfl⟩,⟨_,rfl⟩,⟨_,rfl⟩,HB2.out,hA2,l2⟩
 case rest =>
 obtain ⟨⟨v17,rfl⟩,⟨v18,rfl⟩,⟨v60,rfl⟩,HB3,hA3,l3⟩:=hcut
 clear HP2 HB2 hA2 l2
 go_wp2_with fail
 refine (H3.out wc HB3.out).mono ?_
 rintro e w4 ⟨A4,c4,L,rfl,hp4,hO4,hb4⟩
 have hA4:w4.cell? ⟨w.heap.size,0,none⟩=some (.slice A0 n cap):=(hb4.cell l3).trans hA3
 have l4:w.heap.size<w4.heap.size:=Nat.lt_of_lt_of_le l3 hb4.size
 have HB4:Hid (Below w.heap.size w w4):=onB HB3.out hb4
 have HP4:Hid (PlAt w4 A4 c4 L∧LkO N V L):=⟨hp4,hO4⟩
 clear hb4 hA3 l3 HB3 H3 hp4 hO4
 obtain ⟨k4,hk4⟩:∃ k,L.length=k:=⟨_,rfl⟩
 have HK4:=hid_of hk4
 rw [hk4]
 clear hk4
 go_upto_region 16 with fail
 go_cut [16,108] from 101 to 108 (fun s16 s108 wx=>(∃ x,x=s16)∧s108=.bool (decide (lkE N V=0))∧wx=w4)
 case first =>
  by_cases k1:lkE N V=0
  ·rw [k1,show errV 0=.nilIface from rfl]
   go_wp2_with fail
   go_meet
   exact ⟨⟨_,rfl⟩,by rw [decide_eq_true k1],rfl⟩
  ·rw [errV_bad k1]
   go_wp2_with fail
   go_meet
   exact ⟨⟨_,rfl⟩,by rw [decide_eq_false k1],rfl⟩
 case rest =>
 obtain ⟨⟨v16b,rfl⟩,rfl,rfl⟩:=hcut
 go_upto_if 108 with fail
 go_cut [19,20,21,22,23,108] from 109 to 175 (fun s19 s20 s21 s22 s23 s108 wx=>(∃ x,x=s19)∧(∃ x,x=s20)∧(∃ x,x=s21)∧(∃ x,x=s22)∧(∃ x,x=s23)∧(∃ x,x=s108)∧Hid (Below w.heap.size w wx)∧wx.cell? ⟨w.heap.size,0,none⟩=some (.slice A0 n cap)∧w.heap.size<wx.heap.size)
 case first =>
  by_cases k1:lkE N V=0
  ·rw [decide_eq_true k1]
   obtain ⟨g1,g2,g3,g4,g5⟩:=lkE_ok k1
   obtain ⟨f1,f2,f3,f4⟩:=lk_facts k1 HP4.out.2
   have hkv:k4=lv:=by rw [←HK4.out,←HLV.out];exact f1
   subst hkv
   have hk6:k4≤60:=by have:=HLV.out;omega
   obtain ⟨-,h0 | ⟨b4,o4,rfl,hb4,hX⟩⟩:=HP4.out.1
   ·have:=HLV.out;rw [h0] at f1;simp at f1;omega
   obtain ⟨-,h0 | ⟨bv,ov,rfl,hbv,hXv⟩⟩:=HV.out
   ·rw [h0] at g2;simp at g2
   have HX:Hid (∀ j,j<k4→wc.cell? ⟨b4,o4+j,none⟩=some (.int .i64 (L.getD j 0))∧wc.cell? ⟨bv,ov+j,none⟩=some (.int .i64 (V.getD j 0))∧(0≤L.getD j 0∧L.getD j 0≤N)∧(0≤V.getD j 0∧V.getD j 0≤1000000)∧- V.sum<L.getD j 0*V.sum-N*V.getD j 0∧L.getD j 0*V.sum-N*V.getD j 0<V.sum):=fun j hj=>by
    have hj1:j<L.length:=by rw [HK4.out];exact hj
    have hj2:j<V.length:=by rw [HLV.out];exact hj
    have m1:L.getD j 0∈L:=by rw [List.getD_eq_getElem?_getD,List.getElem?_eq_getElem hj1];exact List.getElem_mem _
    have m2:V.getD j 0∈V:=by rw [List.getD_eq_getElem?_getD,List.getElem?_eq_getElem hj2];exact List.getElem_mem _
    exact ⟨hX j hj1,by rw [HB4.out.cell (by exact hbv)];exact hXv j hj2,f3 _ m1,g4 _ m2,f4 j hj2⟩
   have HG:Hid ((0≤N∧N≤1000000)∧(∀ x∈V,0≤x∧x≤1000000)∧(∀ x∈L,0≤x∧x≤1000000)∧L.sum=N∧0<V.sum):=⟨g1,g4,fun x hx=>by have:=f3 x hx;omega,f2,g5⟩
   clear g1 g2 g3 g4 g5 f1 f2 f3 f4 hX hXv
   go_upto_region 21 with fail
   go_wp2_with fail
   go_loopg [19,20,21] k4 (fun gg s19 s20 s21 wr => ∃ j:Nat,j≤k4∧gg=k4-j∧s19=.int .i64 (sumW L j)∧s20=.int .i64 (sumW V j)∧s21=.int .i64 j∧wr=wc)
   case atStart=>exact ⟨0,Nat.zero_le _,rfl,by simp [sumW],by simp [sumW],rfl,rfl⟩
   case round =>
    obtain ⟨j,hjk,rfl,rfl,rfl,rfl,hwr⟩:=hrel
    obtain rfl:=hwr
    by_cases hlt:j<k4
    ·have hjI:(j:Int)<(k4:Int):=by omega
     obtain ⟨c1,c2,d1,d2,-⟩:=HX.out j hlt
     have st1:=sumW_step (W:=L) (k:=j) (by rw [HK4.out];exact hlt)
     have st2:=sumW_step (W:=V) (k:=j) (by rw [HLV.out];exact hlt)
     have bd1:=sumW_bd HG.out.2.2.1 j (by rw [HK4.out];omega)
     have bd2:=sumW_bd HG.out.2.1 j (by rw [HLV.out];omega)
     have hN:=HG.out.1
     obtain ⟨x,hx⟩:∃ x,L.getD j 0=x:=⟨_,rfl⟩
     obtain ⟨v,hv⟩:∃ x,V.getD j 0=x:=⟨_,rfl⟩
     rw [hx] at c1 d1 st1
     rw [hv] at c2 d2 st2
     have sw1:IntKind.i64.wrap (sumW L j+x)=sumW L (j+1):=by rw [st1,IntKind.wrap_i64];omega
     have sw2:IntKind.i64.wrap (sumW V j+v)=sumW V (j+1):=by rw [st2,IntKind.wrap_i64];omega
     obtain ⟨s1,hs1⟩:∃ s2,s2=sumW L (j+1):=⟨_,rfl⟩
     obtain ⟨s2,hs2⟩:∃ s2,s2=sumW V (j+1):=⟨_,rfl⟩
     rw [←hs1] at sw1
     rw [←hs2] at sw2
     have HS1:=hid_of hs1
     have HS2:=hid_of hs2
     clear st1 st2 bd1 bd2 hx hv hs1 hs2 hN
     go_wp2_with fail
     go_roundg (k4-(j+1))
     case measure=>omega
     case rel=>exact ⟨j+1,by omega,rfl,by rw [HS1.out],by rw [HS2.out],by go_num,rfl⟩
    ·have hje:j=k4:=by omega
     subst hje
     have e1:sumW L j=N:=by unfold sumW;rw [List.take_of_length_le (by rw [HK4.out];exact Nat.le_refl _)];exact HG.out.2.2.2.1
     have e2:sumW V j=V.sum:=by unfold sumW;rw [List.take_of_length_le (by rw [HLV.out];exact Nat.le_refl _)]
     rw [e1,e2]
     obtain ⟨S,hS⟩:∃ S,V.sum=S:=⟨_,rfl⟩
     have HS:=hid_of hS
     have hS6:0<S∧S≤60000000:=by
      have:=sumW_bd HG.out.2.1 j (by rw [HLV.out];omega)
      rw [e2,hS] at this
      have:=HG.out.2.2.2.2
      rw [hS] at this;omega
     rw [hS]
     clear e1 e2 hS
     go_wp2_with fail
     go_loopg [22,23] j (fun gg s22 s23 wz => ∃ i:Nat,i≤j∧gg=j-i∧s22=.int .i64 i∧(∃ x,x=s23)∧∃ m,wz=wr.drewN m)
     case atStart=>exact ⟨0,Nat.zero_le _,rfl,rfl,⟨_,rfl⟩,0,rfl⟩
     case round =>
      obtain ⟨i,hij,rfl,rfl,⟨v23,rfl⟩,m,rfl⟩:=hrel
      by_cases hlt2:i<j
      ·have hiI:(i:Int)<(j:Int):=by omega
       obtain ⟨c1,c2,d1,d2,d3,d4⟩:=HX.out i hlt2
       have hN:=HG.out.1
       rw [HS.out] at d3 d4
       obtain ⟨x,hx⟩:∃ x,L.getD i 0=x:=⟨_,rfl⟩
       obtain ⟨v,hv⟩:∃ x,V.getD i 0=x:=⟨_,rfl⟩
       rw [hx] at c1 d1 d3 d4
       rw [hv] at c2 d2 d3 d4
       have y1b:0≤x*S∧x*S≤1000000*60000000:=⟨Int.mul_nonneg d1.1 (by omega),Int.mul_le_mul (by omega) hS6.2 (by omega) (by omega)⟩
       have y2b:0≤N*v∧N*v≤1000000*1000000:=⟨Int.mul_nonneg hN.1 d2.1,Int.mul_le_mul hN.2 d2.2 d2.1 (by omega)⟩
       obtain ⟨y1,hy1⟩:∃ y,x*S=y:=⟨_,rfl⟩
       obtain ⟨y2,hy2⟩:∃ y,N*v=y:=⟨_,rfl⟩
       rw [hy1] at y1b d3 d4
       rw [hy2] at y2b d3 d4
       have y1w:IntKind.i64.wrap (x*S)=y1:=by rw [hy1,IntKind.wrap_i64];omega
       have y2w:IntKind.i64.wrap (N*v)=y2:=by rw [hy2,IntKind.wrap_i64];omega
       clear hy1 hy2
       obtain ⟨dd,hdd⟩:∃ dd,y1-y2=dd:=⟨_,rfl⟩
       have ddw:IntKind.i64.wrap (y1-y2)=dd:=by rw [IntKind.wrap_i64];omega
       have negw:IntKind.i64.wrap (-S) = -S:=by rw [IntKind.wrap_i64];omega
       have q1:decide (x<0)=false:=decide_eq_false (by omega)
       have q2:decide (x > N)=false:=decide_eq_false (by omega)
       have q3:decide (dd≤-S)=false:=decide_eq_false (by omega)
       have q4:decide (dd ≥ S)=false:=decide_eq_false (by omega)
       clear hx hv hdd d1 d2 d3 d4 y1b y2b hN
       go_upto_region 31 with fail
       go_quiet (fail)
       go_wp2_with fail
       go_roundg (j-(i+1))
       case measure=>omega
       case rel=>exact ⟨i+1,by omega,rfl,by go_num,⟨_,rfl⟩,m+nq,rfl⟩
      ·have hie:i=j:=by omega
       subst hie
       go_wp2_with fail
       go_meet
       exact ⟨⟨_,rfl⟩,⟨_,rfl⟩,⟨_,rfl⟩,⟨_,rfl⟩,⟨_,rfl⟩,⟨_,rfl⟩,below_drewN HB4.out _,hA4,l4⟩
  ·rw [decide_eq_false k1]
   go_wp2_with fail
   go_meet
   exact ⟨⟨_,rfl⟩,⟨_,rfl⟩,⟨_,rfl⟩,⟨_,rfl⟩,⟨_,rfl⟩,⟨_,rfl⟩,HB4.out,hA4,l4⟩
 case rest =>
 obtain ⟨⟨v19,rfl⟩,⟨v20,rfl⟩,⟨v21,rfl⟩,⟨v22,rfl⟩,⟨v23,rfl⟩,⟨v108,rfl⟩,HB5,hA5,l5⟩:=hcut
 clear HP4 HB4 hA4 l4
 go_wp2_with fail
 refine (H4.out wc HB5.out).mono ?_
 rintro e w6 ⟨A6,c6,zs,rfl,hE6,hO6,hb6⟩
 have hA6:w6.cell? ⟨w.heap.size,0,none⟩=some (.slice A0 n cap):=(hb6.cell l5).trans hA5
 have l6:w.heap.size<w6.heap.size:=Nat.lt_of_lt_of_le l5 hb6.size
 have HB6:Hid (Below w.heap.size w w6):=onB HB5.out hb6
 clear hb6 hA5 l5 HB5 H4
 by_cases k1:toE D n (lE xs) p N≠0
 ·rw [errV_bad k1]
  generalize toE D n (lE xs) p N=c at k1
  generalize zs.length=lz
  clear k1
  go_wp2_with fail
  go_ret
  exact ⟨rfl,HB6.out⟩
 have k2:toE D n (lE xs) p N=0:=by simpa using k1
 obtain ⟨l',m1,m2,m3,m4,m5⟩:=to_sum k2 hO6
 obtain ⟨-,-,hpi,-,-⟩:=toE_parts k2
 have hc7:=iall_any A0 cap n D A C AE ce xs A6 c6 zs w6 (HM.out.later HB6.out) (HE.out.later HB6.out) hE6
 rw [m1,HLX.out] at hc7
 rw [k2,show errV 0=.nilIface from rfl]
 have HZ:Hid (Ens D n l'∧rollV D n l' p=(1,N)∧(0≤N∧N≤1000000)∧InO D n p):=⟨m2,m3,⟨m4,m5⟩,hpi⟩
 generalize zs.length=lz at hc7 ⊢
 clear k1 k2 m1 m2 m3 m4 m5 hpi hE6 hO6
 go_wp2_with fail
 refine hc7.mono ?_
 rintro e w7 ⟨⟨A7,c7,ys,rfl,hE7,hl7⟩,hb7⟩
 have hA7:w7.cell? ⟨w.heap.size,0,none⟩=some (.slice A0 n cap):=(hb7.cell l6).trans hA6
 have l7:w.heap.size<w7.heap.size:=Nat.lt_of_lt_of_le l6 hb7.size
 have HB7:Hid (Below w.heap.size w w7):=onB HB6.out hb7
 have hl7':lE ys=l':=hl7
 have hc8:=rvalue_any A0 cap n D A C A7 c7 ys Ap cp p w7 (by rw [hl7'];exact HZ.out.1) HZ.out.2.2.2 (HM.out.later HB7.out) hE7 (HP.out.later HB7.out)
 rw [hl7',HZ.out.2.1,HLP.out] at hc8
 have hN:=HZ.out.2.2.1
 have HOf:Hid (∀ w',Calls Tryz.prog 9 #[.int .i64 N] w' fun e w''=>e=.returned (.agg #[.int .i64 1,.int .i64 N])∧Below w'.heap.size w' w''):=fun w'=>of_in (by omega) (by omega) w'
 generalize ys.length=ly at hc8 ⊢
 clear hb7 hA6 l6 HB6 hl7 hl7' hc7 HZ hE7
 rw [show errV ((l',(0:Int),(0:Int)).2.2)=.nilIface from rfl]
 go_wp2_with fail
 refine hc8.mono ?_
 rintro e w8 ⟨rfl,hb8⟩
 have l8:w.heap.size<w8.heap.size:=Nat.lt_of_lt_of_le l7 hb8.size
 have HB8:Hid (Below w.heap.size w w8):=onB HB7.out hb8
 clear hb8 hA7 l7 HB7 hc8
 go_upto_region 41 with fail
 obtain ⟨z,hz⟩:∃ z,w8.alloc (.cells #[.int .i64 1,.int .i64 N] 39)=z:=⟨_,rfl⟩
 rw [hz]
 have HBz:Hid (Below w.heap.size w z):=by rw [←hz];exact HB8.out.alloc HB8.out.size _
 have HK:Hid (w8.heap.size<z.heap.size∧z.cell? ⟨w8.heap.size,0,none⟩=some (.int .i64 1)∧z.cell? ⟨w8.heap.size,1,none⟩=some (.int .i64 N)):=by
  have h:z.heap[w8.heap.size]?=some (.cells #[.int .i64 1,.int .i64 N] 39 (0,0)):=by rw [←hz];exact heap_alloc_new ..
  exact ⟨(Array.getElem?_eq_some_iff.1 h).1,(Lib.cell_of_heap h 0).trans rfl,(Lib.cell_of_heap h 1).trans rfl⟩
 obtain ⟨q,hq⟩:∃ q,w8.heap.size=q:=⟨_,rfl⟩
 rw [hq] at HK ⊢
 clear hz hq l8 HB8
 go_region_held3 (fun w'=>Below z.heap.size z w'∧w'.cell? ⟨q,0,none⟩=some (.int .i64 1)∧w'.cell? ⟨q,1,none⟩=some (.int .i64 N))
  ((refine hold2 HK.out ?_;go_grown;done))
  (first | (go_at_call 9;refine (HOf.out _).mono ?_;rintro e w3 ⟨rfl,hb3⟩;have hM3:=onB (W0:=z) (by go_grown) hb3;have hy3:=hM3.size;clear hb3))
 all_goals go_wp2_with fail
 all_goals go_ret
 all_goals exact ⟨by simp,onB HBz.out (by go_grown)⟩
end Go.Proofs.YtbhanigcjdegjaaGreatDoor
