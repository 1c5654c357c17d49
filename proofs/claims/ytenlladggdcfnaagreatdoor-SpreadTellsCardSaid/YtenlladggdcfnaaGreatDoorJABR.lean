/-
  The document's own Like.
-/
import Derived.Test.YtenlladggdcfnaaGreatDoorJABQ
namespace Go.Proofs.YtenlladggdcfnaaGreatDoor
open Go Go.ChangeShapes Go.WideShapes Go.ChangeAt Go.RowKit Go.Shelf Go.Lib Go.Sort
set_option maxRecDepth 100000
def RLk (n:Int) (W:List Int) (w:World) (e:Ending) (w':World):Prop := ∃ A' c' L,e=.returned (.tuple #[.slice A' L.length c',.int .i64 (lkE n W)])∧PlAt w' A' c' L∧LkO n W L∧Below w.heap.size w w'
theorem rlk_bad {n:Int} {W:List Int} {c:Int} (hc:c≠0) (h:lkE n W=c) {w w':World} (hB:Below w.heap.size w w'):RLk n W w (.returned (.tuple #[.slice none 0 0,.int .i64 c])) w' :=
 ⟨none,0,[],by rw [h];rfl,⟨Nat.le_refl _,Or.inl rfl⟩,by unfold LkO;rw [if_neg (by rw [h];exact hc)],hB⟩
set_option maxHeartbeats 16000000 in
theorem rlike_any (n:Int) (A:Option Addr) (cA:Nat) (W:List Int) (w:World) (hL:PlAt w A cA W) :
  Calls Tryz.prog 8 #[.int .i64 n,.slice A W.length cA] w fun e w'=>RLk n W w e w':=by
 obtain ⟨i0,hi0,hz0,hz1,hz2⟩:=info_parts Tryz.infoInt
 have HL:Hid (PlAt w A cA W):=hL
 obtain ⟨k,hk⟩:∃ k,W.length=k:=⟨_,rfl⟩
 have HK:Hid (W.length=k):=hk
 by_cases k1:isAmt n=false
 ·have HF:=hid_of (rlk_bad (n:=n) (W:=W) (c:=1) (by decide) (by unfold lkE;rw [if_pos k1]) (Below.refl w.heap.size w))
  have h2:n<0∨(¬ n<0∧n > 1000000):=by have:=of_decide_eq_false k1;omega
  rw [hk]
  clear hL hk k1
  go_enter Tryz.func8,Tryz.ntmps8
  rcases h2 with h | ⟨h,h1⟩ <;>
   (go_wp2_with fail
    go_ret2
    exact HF.out)
 have k1':isAmt n=true:=by simpa using k1
 have hn:0≤n∧n≤1000000:=of_decide_eq_true k1'
 have hn1 : ¬ n<0:=by omega
 have hn2 : ¬ n > 1000000:=by omega
 by_cases k2:W.length=0∨60<W.length
 ·have HF:=hid_of (rlk_bad (n:=n) (W:=W) (c:=4) (by decide) (by unfold lkE;rw [if_neg k1,if_pos k2]) (Below.refl w.heap.size w))
  rw [hk] at k2 ⊢
  clear hL hk
  rcases Nat.eq_zero_or_pos k with h0 | h0
  ·have h0I:(k:Int)=0:=by omega
   go_enter Tryz.func8,Tryz.ntmps8
   go_wp2_with fail
   go_ret2
   exact HF.out
  ·have h0I : ¬ (k:Int)=0:=by omega
   have h1I:(k:Int) > 60:=by omega
   go_enter Tryz.func8,Tryz.ntmps8
   go_wp2_with fail
   go_ret2
   exact HF.out
 have hk0:0<k∧k≤60:=by omega
 have hkI0 : ¬ (k:Int)=0:=by omega
 have hkI1 : ¬ (k:Int) > 60:=by omega
 have HN:Hid (0≤n∧n≤1000000):=hn
 have HE:Hid (lkE n W=if (W.any fun x => !isAmt x)=true then 1 else if W.sum=0 then 3 else 0):=by show _=_;unfold lkE;rw [if_neg k1,if_neg k2]
 obtain ⟨-,h0 | ⟨bA,oA,rfl,hbA,hX⟩⟩:=hL
 ·rw [h0] at hk;simp at hk;omega
 have HX:Hid (∀ j,j<k→w.cell? ⟨bA,oA+j,none⟩=some (.int .i64 (W.getD j 0))∧W.getD j 0∈W):=fun j hj=>by
  have hj':j<W.length:=by omega
  exact ⟨hX j hj',by rw [List.getD_eq_getElem?_getD,List.getElem?_eq_getElem hj'];exact List.getElem_mem _⟩
 have hlb:bA<w.heap.size:=hbA
 have hmk:=run_make_row' (P:=Tryz.prog) 48 4 (.bool false) 1 Tryz.underlying48 Tryz.infoBol rfl .i64 .i64 k (by omega) (by omega)
 have HMK:=hid_of hmk
 rw [hk]
 clear hX hk k1 k1' k2 hbA hn hmk
 go_enter Tryz.func8,Tryz.ntmps8
 go_wp2_with fail
 go_loopg [6,7] k (fun gg s6 s7 wr => ∃ j:Nat,j≤k∧gg=k-j∧s7=.int .i64 j∧s6=.int .i64 (sumW W j)∧Hid (∀ x∈W.take j,0≤x∧x≤1000000)∧wr=w)
 case atStart=>exact ⟨0,Nat.zero_le _,rfl,rfl,by simp [sumW],fun x hx=>absurd hx (by simp),rfl⟩
 case round =>
  obtain ⟨j,hjk,rfl,rfl,rfl,HT,hwr⟩:=hrel
  obtain rfl:=hwr.symm
  by_cases hlt:j<k
  ·have hjI:(j:Int)<(k:Int):=by omega
   have hx:w.cell? ⟨bA,oA+j,none⟩=some (.int .i64 (W.getD j 0)):=(HX.out j hlt).1
   have hm:=(HX.out j hlt).2
   obtain ⟨x,hxe⟩:∃ x,W.getD j 0=x:=⟨_,rfl⟩
   by_cases hok:0≤x∧x≤1000000
   ·have hst:=sumW_step (W:=W) (k:=j) (by rw [HK.out];exact hlt)
    have hbd:0≤sumW W j∧sumW W j≤(j:Int)*1000000:=by
     have:=sumW_bd (W:=W.take j) HT.out (W.take j).length (Nat.le_refl _)
     have e:(W.take j).length=j:=by rw [List.length_take,HK.out];omega
     unfold sumW at *
     rw [e] at this
     rwa [List.take_take,Nat.min_self] at this
    have HT2:Hid (∀ y∈W.take (j+1),0≤y∧y≤1000000):=fun y hy=>by
     rw [List.take_succ_eq_append_getElem (by rw [HK.out];exact hlt)] at hy
     rcases List.mem_append.1 hy with hy | hy
     ·exact HT.out y hy
     ·rw [List.mem_singleton] at hy
      rw [List.getD_eq_getElem?_getD,List.getElem?_eq_getElem (by rw [HK.out];exact hlt)] at hxe
      rw [hy]
      simp only [Option.getD_some] at hxe
      rw [hxe];exact hok
    rw [hxe] at hst hx
    have hsw:IntKind.i64.wrap (sumW W j+x)=sumW W (j+1):=by rw [hst,IntKind.wrap_i64];omega
    obtain ⟨s2,hs2⟩:∃ s2,s2=sumW W (j+1):=⟨_,rfl⟩
    rw [←hs2] at hsw
    have HS2:Hid (s2=sumW W (j+1)):=hs2
    have hx1 : ¬ x<0:=by omega
    have hx2 : ¬ x > 1000000:=by omega
    clear hm hst hbd hxe hs2 hok
    go_wp2_with fail
    go_roundg (k-(j+1))
    case measure=>omega
    case rel=>exact ⟨j+1,by omega,rfl,by go_num,by rw [HS2.out],HT2,rfl⟩
   ·have hany:(W.any fun x => !isAmt x)=true:=List.any_eq_true.2 ⟨x,by rw [←hxe];exact hm,by unfold isAmt;rw [decide_eq_false hok];rfl⟩
    have HF:Hid (RLk n W w (.returned (.tuple #[.slice none 0 0,.int .i64 1])) w):=rlk_bad (by decide) (by rw [HE.out,if_pos hany]) (Below.refl _ _)
    have hcase:x<0∨(¬ x<0∧x > 1000000):=by omega
    rw [hxe] at hx
    clear hm hany hxe hok
    rcases hcase with h | ⟨h,h1⟩
    all_goals
     go_wp2_with fail
     go_ret2
     exact HF.out
  ·have hje:j=k:=by omega
   subst hje
   have hall:∀ x∈W,0≤x∧x≤1000000:=by have:=HT.out;rwa [List.take_of_length_le (by rw [HK.out];exact Nat.le_refl _)] at this
   have hany : ¬ (W.any fun x => !isAmt x)=true:=fun h=>by
    obtain ⟨x,hx,h⟩:=List.any_eq_true.1 h
    have:=hall x hx
    unfold isAmt at h
    rw [decide_eq_true this] at h;cases h
   have hsum:sumW W j=W.sum:=by unfold sumW;rw [List.take_of_length_le (by rw [HK.out];exact Nat.le_refl _)]
   have hsb:=sumW_bd hall j (by rw [HK.out];exact Nat.le_refl _)
   rw [hsum] at hsb ⊢
   by_cases k4:W.sum=0
   ·have HF:Hid (RLk n W w (.returned (.tuple #[.slice none 0 0,.int .i64 3])) w):=rlk_bad (by decide) (by rw [HE.out,if_neg hany,if_pos k4]) (Below.refl _ _)
    go_wp2_with fail
    go_ret2
    exact HF.out
   have h0:lkE n W=0:=by rw [HE.out,if_neg hany,if_neg k4]
   have H0:=hid_of h0
   have HA:=hid_of hall
   obtain ⟨s,hse⟩:∃ s,W.sum=s:=⟨_,rfl⟩
   have HS:=hid_of hse
   rw [hse] at hsb k4 ⊢
   have hs0:0<s:=by omega
   have hs6:s≤60000000:=by omega
   have hlt:=HL.out
   clear hlt hall hany hsum hsb k4 h0 hse HT HE
   have HQ:Hid (∀ i,i<j→∃ x z,W.getD i 0=x∧0≤z∧IntKind.i64.wrap (n*x)=z∧z.tdiv s=lkQ n W i∧z.tmod s=lkR n W i∧0≤lkQ n W i∧lkQ n W i≤n∧0≤lkR n W i∧lkR n W i<s):=fun i hi=>by
    have hw:=HA.out _ (HX.out i hi).2
    have hn:=HN.out
    have hz0:0≤n*W.getD i 0:=Int.mul_nonneg hn.1 hw.1
    have hz1:n*W.getD i 0≤1000000*1000000:=Int.mul_le_mul hn.2 hw.2 hw.1 (by omega)
    have hq:=lkQ_le (n:=n) hn.1 (fun x hx=>(HA.out x hx).1) (by rw [HS.out];exact hs0) i
    have hr:=lkR_pos (n:=n) (W:=W) (by rw [HS.out];exact hs0) i
    rw [HS.out] at hr
    refine ⟨_,n*W.getD i 0,rfl,hz0,by rw [IntKind.wrap_i64];omega,?_,?_,lkQ_ge hn.1 (fun x hx=>(HA.out x hx).1) (by rw [HS.out];exact hs0) i,hq.1,hr.1,hr.2⟩
    ·rw [Int.tdiv_eq_ediv_of_nonneg hz0,←HS.out];rfl
    ·rw [Int.tmod_eq_emod_of_nonneg hz0,←HS.out];rfl
   have hsI : ¬ s=0:=by omega
   go_wp2_with fail
   go_loopg [8,9,10] j (fun gg s8 s9 s10 wr => ∃ i:Nat,i≤j∧gg=j-i∧s9=.int .i64 (leftTo n W i)∧s10=.int .i64 i∧Hid (wr.ownsRow w.heap.size 3 1 s8 (qPre n W i).length ((qPre n W i).map (Value.int .i64)))∧Hid (Below w.heap.size w wr))
   case atStart=>exact ⟨0,Nat.zero_le _,rfl,by simp [leftTo],rfl,World.ownsRow_nil _ _ _ _,Below.refl _ _⟩
   case round =>
    obtain ⟨i,hij,rfl,rfl,rfl,HO,HB⟩:=hrel
    by_cases hlt:i<j
    ·have hiI:(i:Int)<(j:Int):=by omega
     have hx:wr.cell? ⟨bA,oA+i,none⟩=some (.int .i64 (W.getD i 0)):=by rw [HB.out.cell (by exact hlb)];exact (HX.out i hlt).1
     obtain ⟨x,z,hxe,-,hzw,hzq,-,hq0,hq1,-,-⟩:=HQ.out i hlt
     rw [hxe] at hx
     have hst:=leftTo_step n W i
     have hLj : -1000000000≤leftTo n W i∧leftTo n W i≤1000000000:=by have:=leftTo_bd HN.out (fun x hx=>(HA.out x hx).1) (by rw [HS.out];exact hs0) i;omega
     have hlen:=qPre_len n W i
     have hsz:=HB.out.size
     have hown:=HO.out
     have HST:Hid ((qPre n W (i+1)).map (Value.int .i64)=(qPre n W i).map (Value.int .i64) ++ [.int .i64 (lkQ n W i)]):=qPre_step n W i
     obtain ⟨u,hu⟩:∃ u,lkQ n W i=u:=⟨_,rfl⟩
     have hn:=HN.out
     rw [hu] at hzq hq0 hq1 hst HST
     have hqw:IntKind.i64.wrap u=u:=by rw [IntKind.wrap_i64];omega
     have hsub:IntKind.i64.wrap (leftTo n W i-u)=leftTo n W (i+1):=by rw [hst,IntKind.wrap_i64];omega
     obtain ⟨lf2,hlf2⟩:∃ x,x=leftTo n W (i+1):=⟨_,rfl⟩
     rw [←hlf2] at hsub
     have HLF:Hid (lf2=leftTo n W (i+1)):=hlf2
     clear hlf2 hst hu hxe hn HO
     generalize leftTo n W i=lf at hLj hsub ⊢
     go_wp2_with (at_builtin;refine wpList_append_own _ rfl _ _ 22 rfl w.heap.size 3 i0 (.int .i64 0) 1 8 Tryz.underlying22 hi0 hz0 hz1 hz2 rfl (by decide) _ _ _ rfl (hown.alloc _) ⟨wr.heap.size,0,none⟩ 1 1 [.int .i64 u] rfl rfl one_cell one_one (by unfold maxLen;omega) (by omega) (by simp;omega) ?_)
     intro v' w2 hown' hgrow _
     have HB2:Hid (Below w.heap.size w w2):=grown_own HB.out hown hgrow
     have HO2:Hid (w2.ownsRow w.heap.size 3 1 v' (qPre n W (i+1)).length ((qPre n W (i+1)).map (Value.int .i64))):=by
      show World.ownsRow ..
      rw [HST.out,qPre_len];exact hown'
     have hx2:w2.cell? ⟨bA,oA+i,none⟩=some (.int .i64 x):=by rw [HB2.out.cell (by exact hlb),←HB.out.cell (by exact hlb)];exact hx
     clear hown' hgrow hown hx
     go_wp2_with fail
     go_roundg (j-(i+1))
     case measure=>omega
     case rel=>exact ⟨i+1,by omega,rfl,by rw [HLF.out],by go_num,HO2,HB2⟩
    ·have hie:i=j:=by omega
     subst hie
     have hall:=qPre_all n W
     rw [HK.out] at hall
     have hown:=HO.out
     rw [hall] at hown
     obtain ⟨gO,cO,rfl,hcO,hgO,hpb⟩:=own_pb hown (by rw [lkO_len,HK.out];exact hk0.1)
     rw [lkO_len,HK.out] at hcO ⊢
     have hlr:leftTo n W i=lkL n W:=by unfold leftTo lkL;rw [HK.out]
     have hl0:=lkL_ge (n:=n) (W:=W) (by rw [HS.out];exact hs0)
     have hl1:=lkL_lt (n:=n) (W:=W) (by rw [HS.out];exact hs0) (by rw [HK.out];exact hk0.1)
     obtain ⟨t,ht⟩:∃ t:Nat,(lkL n W).toNat=t:=⟨_,rfl⟩
     have htI:lkL n W=(t:Int):=by omega
     have hti:t<i:=by have:=HK.out;omega
     have HT:Hid ((lkL n W).toNat=t):=ht
     rw [hlr,htI]
     have hmk:=HMK.out
     have HG:Hid (PB (wr.alloc (.cells (madeCells #[.bool false] i) 4)) gO (lkO n W fun _=>false)∧BolB (wr.alloc (.cells (madeCells #[.bool false] i) 4)) wr.heap.size i (fun _=>false)∧Below w.heap.size w (wr.alloc (.cells (madeCells #[.bool false] i) 4))) :=
      ⟨hpb.same (Below.heap_alloc _ _ _ hpb.lt),BolB.made wr i,HB.out.alloc HB.out.size _⟩
     have hgl:=hpb.lt
     have hszr:=HB.out.size
     clear hall hown hpb hlr hl0 hl1 ht htI HO HB
     go_wp2_with fail
     obtain ⟨y,hy⟩:∃ y,wr.alloc (.cells (madeCells #[.bool false] i) 4)=y:=⟨_,rfl⟩
     obtain ⟨gM,hgM⟩:∃ g,wr.heap.size=g:=⟨_,rfl⟩
     rw [hy,hgM] at HG ⊢
     rw [hgM] at hgl hszr
     clear hmk hy hgM
     go_loopg [9,12,13] t (fun gg s9 s12 s13 wz => ∃ (a:Nat) (P:Nat→Bool),a≤t∧gg=t-a∧s9=.int .i64 ((t-a:Nat):Int)∧(∃ x,x=s12)∧(∃ x,x=s13)∧Hid (PickOk W.length (prec n W) P a)∧Hid (PB wz gO (lkO n W P)∧BolB wz gM i P∧Below w.heap.size w wz))
     case atStart=>exact ⟨0,fun _=>false,Nat.zero_le _,rfl,rfl,⟨_,rfl⟩,⟨_,rfl⟩,pick_zero _ _,HG⟩
     case round =>
      clear HG
      obtain ⟨a,P,hat,rfl,rfl,⟨v12,rfl⟩,⟨v13,rfl⟩,HP,HG⟩:=hrel
      obtain ⟨y3,rfl⟩:∃ y3,y3=wr:=⟨_,rfl⟩
      by_cases hlt2:a<t
      ·have hb0:=pick_some (n:=n) (W:=W) HP.out (by rw [HK.out];omega)
       rw [HK.out] at hb0
       obtain ⟨b0,hb0⟩:=hb0
       have HB0:=hid_of hb0
       obtain ⟨r,hr⟩:∃ r:Int,((t-a:Nat):Int)=r:=⟨_,rfl⟩
       have haI:r > 0:=by omega
       have hsub:IntKind.i64.wrap (r-1)=((t-(a+1):Nat):Int):=by rw [IntKind.wrap_i64];omega
       rw [hr]
       clear hr
       have HCM:Hid (∀ c,c<i→y3.cell? ⟨gM,c,none⟩=some (.bool (P c))∧y3.cell? ⟨bA,oA+c,none⟩=some (.int .i64 (W.getD c 0))):=fun c hc=>⟨HG.out.2.1.cell hc,by rw [HG.out.2.2.cell (by exact hlb)];exact (HX.out c hc).1⟩
       clear hb0
       go_wp2_with fail
       go_loopg [12,13] i (fun gg s12 s13 wy => ∃ c:Nat,c≤i∧gg=i-c∧s12=.int .i64 (bI (bestTo n W P c))∧s13=.int .i64 c∧∃ m,wy=y3.drewN m)
       case atStart=>exact ⟨0,Nat.zero_le _,rfl,rfl,rfl,0,rfl⟩
       case round =>
        obtain ⟨c,hci,rfl,rfl,rfl,m,rfl⟩:=hrel
        by_cases hlt3:c<i
        ·have hcI:(c:Int)<(i:Int):=by omega
         obtain ⟨cm,cx⟩:=HCM.out c hlt3
         cases hpc:P c with
         | true =>
          have HBT:=hid_of (best_taken (n:=n) (W:=W) hpc)
          rw [hpc] at cm
          clear hpc cx
          go_upto_region 27 with fail
          go_quiet (fail)
          go_wp2_with fail
          go_roundg (i-(c+1))
          case measure=>omega
          case rel=>exact ⟨c+1,by omega,rfl,by rw [HBT.out],by go_num,_,rfl⟩
         | false =>
          rw [hpc] at cm
          cases hbc:bestTo n W P c with
          | none =>
           have HBT:=hid_of (best_none hpc hbc)
           clear hpc cx hbc
           rw [show bI none = -1 from rfl]
           go_upto_region 27 with fail
           go_quiet (fail)
           go_wp2_with fail
           go_roundg (i-(c+1))
           case measure=>omega
           case rel=>exact ⟨c+1,by omega,rfl,by rw [HBT.out];rfl,by go_num,_,rfl⟩
          | some b =>
           obtain ⟨hbc1,-,-⟩:=(best_spec c).2 b hbc
           obtain ⟨x,z,hxe,-,hzw,-,hzr,-,-,-,-⟩:=HQ.out c hlt3
           obtain ⟨x2,z2,hxe2,-,hzw2,-,hzr2,-,-,-,-⟩:=HQ.out b (by omega)
           have cx2:=(HCM.out b (by omega)).2
           rw [hxe] at cx
           rw [hxe2] at cx2
           have hr1:=(lkR_pos (n:=n) (W:=W) (by rw [HS.out];exact hs0) c)
           have hr2:=(lkR_pos (n:=n) (W:=W) (by rw [HS.out];exact hs0) b)
           rw [HS.out] at hr1 hr2
           have hbn : ¬ (b:Int)<0:=by omega
           rw [show bI (some b)=(b:Int) from rfl]
           have hbI:(b:Int)<(i:Int):=by omega
           by_cases hgt:lkR n W c > lkR n W b
           ·have HBT:=hid_of (best_more hpc hbc hgt)
            generalize lkR n W c=rc at hzr hgt hr1
            generalize lkR n W b=rb at hzr2 hgt hr2
            have hw1:IntKind.i64.wrap rc=rc:=by rw [IntKind.wrap_i64];omega
            have hw2:IntKind.i64.wrap rb=rb:=by rw [IntKind.wrap_i64];omega
            clear hpc hbc hxe hxe2 hr1 hr2
            go_upto_region 27 with fail
            go_quiet (fail)
            go_wp2_with fail
            go_roundg (i-(c+1))
            case measure=>omega
            case rel=>exact ⟨c+1,by omega,rfl,by rw [HBT.out];rfl,by go_num,_,rfl⟩
           ·have HBT:=hid_of (best_less hbc hgt)
            generalize lkR n W c=rc at hzr hgt hr1
            generalize lkR n W b=rb at hzr2 hgt hr2
            have hw1:IntKind.i64.wrap rc=rc:=by rw [IntKind.wrap_i64];omega
            have hw2:IntKind.i64.wrap rb=rb:=by rw [IntKind.wrap_i64];omega
            clear hpc hbc hxe hxe2 hr1 hr2
            go_upto_region 27 with fail
            go_quiet (fail)
            go_wp2_with fail
            go_roundg (i-(c+1))
            case measure=>omega
            case rel=>exact ⟨c+1,by omega,rfl,by rw [HBT.out];rfl,by go_num,_,rfl⟩
        ·have hce:c=i:=by omega
         subst hce
         obtain ⟨hb1,hpb,hbst⟩:=(best_spec c).2 b0 HB0.out
         have hbl:b0<W.length:=by rw [HK.out];exact hb1
         obtain ⟨e1,e2⟩:=lkO_taken (n:=n) hbl hpb
         obtain ⟨-,-,-,-,-,-,-,hq0,hq1,-,-⟩:=HQ.out b0 hb1
         obtain ⟨y4,hy4⟩:∃ y4,y3.drewN m=y4:=⟨_,rfl⟩
         have HG4:PB y4 gO (lkO n W P)∧BolB y4 gM c P∧Below w.heap.size w y4:=by
          rw [←hy4];exact ⟨HG.out.1.same rfl,HG.out.2.1,below_drewN HG.out.2.2 _⟩
         have HPK:Hid (PickOk W.length (prec n W) (taken P b0) (a+1)):=pick_more HP.out hbl hpb (by rw [HK.out];exact hbst)
         have c1:=HG4.2.1.cell hb1
         have f1:=HG4.2.1.frozen b0
         have c2:(y4.setCell ⟨gM,b0,none⟩ (.bool true)).cell? ⟨gO,b0,none⟩=some (.int .i64 (lkQ n W b0)):=by
          refine (World.cell?_of_block (w:=y4) (a:=⟨gO,b0,none⟩) (setCell_off _ _ _ _ _ (by show gO≠gM;omega))).trans ?_
          rw [HG4.1.cell (j:=b0) (by rw [lkO_len];exact hbl),e1]
         have f2:=HG4.1.frozen b0
         obtain ⟨u,hu⟩:∃ u,lkQ n W b0=u:=⟨_,rfl⟩
         rw [hu] at c2 hq0 hq1 e2
         have hn:=HN.out
         have hqw:IntKind.i64.wrap (u+1)=u+1:=by rw [IntKind.wrap_i64];omega
         have HFin:Hid (PB ((y4.setCell ⟨gM,b0,none⟩ (.bool true)).setCell ⟨gO,b0,none⟩ (.int .i64 (u+1))) gO (lkO n W (taken P b0))∧BolB ((y4.setCell ⟨gM,b0,none⟩ (.bool true)).setCell ⟨gO,b0,none⟩ (.int .i64 (u+1))) gM c (taken P b0)∧Below w.heap.size w ((y4.setCell ⟨gM,b0,none⟩ (.bool true)).setCell ⟨gO,b0,none⟩ (.int .i64 (u+1)))):=by
          refine ⟨?_,?_,(HG4.2.2.setCell (by show _≤gM;omega) _).setCell (by show _≤gO;omega) _⟩
          ·rw [←e2]
           exact (HG4.1.same (setCell_off _ _ _ _ _ (by omega))).set _
          ·have h:=HG4.2.1.set (m:=b0) (f':=taken P b0) fun j _=>rfl
           unfold BolB at h ⊢
           rw [setCell_off _ _ _ _ _ (by omega)];exact h
         have hbI:(b0:Int)<(c:Int):=by omega
         rw [hy4,HB0.out,show bI (some b0)=(b0:Int) from rfl]
         rw [hpb] at c1
         clear HG4 hpb hbst e1 e2 hq0 hq1 hu hy4 hn HG HCM HB0
         go_wp2_with fail
         go_roundg (t-(a+1))
         case measure=>omega
         case rel=>exact ⟨a+1,taken P b0,by omega,rfl,rfl,⟨_,rfl⟩,⟨_,rfl⟩,HPK,HFin⟩
      ·have hae:a=t:=by omega
       subst hae
       have hz : ¬ ((a-a:Nat):Int) > 0:=by omega
       have HR:Hid (RLk n W w (.returned (.tuple #[.slice (some ⟨gO,0,none⟩) i cO,.int .i64 0])) y3) :=
        ⟨some ⟨gO,0,none⟩,cO,lkO n W P,by rw [lkO_len,HK.out,H0.out],HG.out.1.pl (by rw [lkO_len,HK.out];exact hcO),by unfold LkO;rw [if_pos H0.out];exact ⟨P,by rw [HT.out];exact HP.out,rfl⟩,HG.out.2.2⟩
       go_wp2_with fail
       go_ret2
       exact HR.out
end Go.Proofs.YtenlladggdcfnaaGreatDoor
