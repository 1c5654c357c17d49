/-
  A list of ints cloned: what slices.Clone answers at []int, wherever the list lies.
-/
import Derived.Lib.SliceRun
import Derived.Shelf.Spec.SlicesInsertGrow
import Derived.Test.YtbhanigcjdegjaaGreatDoorJAAP
namespace Go.Proofs.YtbhanigcjdegjaaGreatDoor
open Go.ChangeShapes Go.WideShapes Go.ChangeAt Go.RowKit
set_option maxRecDepth 20000
set_option maxHeartbeats 2000000 in
theorem iclone_pl (A:Option Addr) (c:Nat) (L:List Int) (w:World) (hL:L.length≤1048576) (hP:PlAt w A c L):Calls Tryz.prog 100 #[.slice A L.length c] w fun e w'=>(∃ v,e=.returned v∧w'.ownsRow w.heap.size 3 1 v L.length (mapI L))∧Below w.heap.size w w':=by
 have hq:∀ (w:World) (a:Option Addr) (n c n' c':Nat),(binOp .eql 22 (.slice a n c) (.slice none n' c')).run Tryz.prog w=.ok (.bool a.isNone) w:=fun w a n c n' c'=>Lib.run_eql_slice_nil w _ _ a n c n' c' Tryz.underlying22
 cases A with
 | none =>
  obtain ⟨-,h0 | ⟨b,o,h0,-⟩⟩:=hP
  ·subst h0
   simp only [List.length_nil]
   go_enter Tryz.func100,Tryz.ntmps100
   go_wp2_with fail
   go_ret
   exact ⟨⟨_,rfl,World.ownsRow_nil _ _ _ _⟩,Below.refl _ _⟩
  ·cases h0
 | some a =>
  obtain ⟨i0,hi0,hz0,hz1,hz2⟩:=info_parts Tryz.infoInt
  have HC:Hid (∀ j u,(mapI L)[j]?=some u→w.cell? (a.add j)=some u):=by
   intro j u hj
   obtain ⟨-,h0 | ⟨b,o,h0,-,hcell⟩⟩:=hP
   ·subst h0;simp [mapI] at hj
   ·cases h0
    have hlt:j<L.length:=by have:=(List.getElem?_eq_some_iff.1 hj).1;simpa [mapI] using this
    rw [plain_add,hcell j hlt]
    simp only [mapI,List.getElem?_map,List.getElem?_eq_getElem hlt,Option.map_some,Option.some.injEq] at hj
    rw [←hj,List.getD_eq_getElem?_getD,List.getElem?_eq_getElem hlt]
    rfl
  have hl:(mapI L).length=L.length*1:=by simp [mapI]
  have h1:∀ u∈mapI L,u.oneCell'=true:=by intro u hu;simp [mapI] at hu;obtain ⟨x,-,rfl⟩:=hu;rfl
  clear hP
  go_enter Tryz.func100,Tryz.ntmps100
  go_wp2_with (at_builtin;refine wpList_append_own _ rfl _ _ 22 rfl w.heap.size 3 i0 (.int .i64 0) 1 8 Tryz.underlying22 hi0 hz0 hz1 hz2 rfl (by decide) _ _ _ rfl (World.ownsRow_made w #[] 0 (Nat.le_refl _) (Nat.zero_le _) (by simp)) a L.length c (mapI L) rfl ?qc1 ?qc2 ?qc3 ?qc4 ?qc5 ?qc6 ?_)
  case qc1=>exact hl
  case qc2=>exact fun j u hj=>Lib.cell?_alloc_some _ (HC.out j u hj)
  case qc3=>exact h1
  case qc4=>simp only [maxLen];omega
  case qc5=>omega
  case qc6=>simp
  intro v' w1 hown hgrow hnil
  have HO:Hid (w1.ownsRow w.heap.size 3 1 v' L.length (mapI L)):=hown
  have HB:Hid (Below w.heap.size w w1):=((Below.refl _ w).alloc (Nat.le_refl _) _).grown hgrow (by simp) (by intro k hk;simp [Value.ownBlock] at hk;omega)
  clear hown hgrow hnil
  go_wp2_with fail
  go_ret
  exact ⟨⟨_,rfl,HO.out⟩,HB.out⟩
theorem inO_short {D:Nat→Dm} {n:Nat} {L:List Int} (h:InO D n L):L.length≤4:=by rw [h.len];exact (allErr_some h.right).2.1
theorem keep3 {W w':World} {b b' o1 o2 o3:Nat} {u v z:Value} (h:b<W.heap.size∧b'<W.heap.size∧W.cell? ⟨b,o1,none⟩=some u∧W.cell? ⟨b,o2,none⟩=some v∧W.cell? ⟨b',o3,none⟩=some z) (hB:Below W.heap.size W w'):Below W.heap.size W w'∧w'.cell? ⟨b,o1,none⟩=some u∧w'.cell? ⟨b,o2,none⟩=some v∧w'.cell? ⟨b',o3,none⟩=some z :=
 ⟨hB,(hB.cell (p:=⟨b,o1,none⟩) h.1).trans h.2.2.1,(hB.cell (p:=⟨b,o2,none⟩) h.1).trans h.2.2.2.1,(hB.cell (p:=⟨b',o3,none⟩) h.2.1).trans h.2.2.2.2⟩
set_option maxHeartbeats 8000000 in
theorem icheck_any (A0:Option Addr) (cap n:Nat) (D:Nat→Dm) (A:Nat→Option Addr) (C:Nat→Nat) (AE:Option Addr) (ce:Nat) (xs:List EnL) (w:World) (hM:DimsV w A0 cap n D A C) (hE:EnsV w AE ce xs) :
  Calls Tryz.prog 20 #[.agg #[.slice A0 n cap],.slice AE xs.length ce] w fun r w'=>r=.returned (errV (entsErr D n (lE xs)))∧Below w.heap.size w w':=by
 have hB0:=ownOut_below w A0 n cap 25
 have h:=all_any A0 cap n D A C (ownOut w A0 n cap 25) (hM.later hB0)
 have HB0:Hid (Below w.heap.size w (ownOut w A0 n cap 25)):=hB0
 have HM:Hid (DimsV w A0 cap n D A C):=hM
 have HE:Hid (EnsV w AE ce xs):=hE
 generalize (allErr D n).1=x1 at h
 generalize (allErr D n).2.1=x2 at h
 clear hM hB0
 by_cases hR:(allErr D n).2.2=0
 ·have HR:Hid ((allErr D n).2.2=0):=hR
  have HV:Hid (entsErr D n (lE xs)=entFrom D n (qOf (lE xs) 0) ((lE xs).drop 0)):=ents_in _ hR
  rw [hR,errV_zero] at h
  obtain ⟨N,hN⟩:∃ N,xs.length=N:=⟨_,rfl⟩
  have HN:Hid (xs.length=N):=hN
  have hNb:(N:Int)≤9223372036854775807:=by have h1:=hE.1;have h2:=hE.2.1;omega
  rw [hN]
  clear hR hN hE
  go_enter Tryz.func20,Tryz.ntmps20
  go_wp2_with fail
  refine h.mono ?_
  rintro e w1 ⟨rfl,hb1⟩
  have hB:Below w.heap.size w w1:=onB HB0.out hb1
  have hz:w.heap.size<w1.heap.size:=by have:=hb1.size;rw [ownOut_size] at this;omega
  have h2:w1.cell? ⟨w.heap.size,0,none⟩=some (.slice A0 n cap):=(hb1.cell (p:=⟨w.heap.size,0,none⟩) (by show w.heap.size<_;rw [ownOut_size];omega)).trans (ownOut_at ..)
  have HM1:Hid (DimsV w1 A0 cap n D A C):=HM.out.later hB
  have HE1:Hid (EnsV w1 AE ce xs):=HE.out.later hB
  have HB:Hid (Below w.heap.size w w1):=hB
  clear hb1 h hB HM HE HB0
  go_wp2_with fail
  go_loopg [22] N (fun g s22 wr => ∃ (k:Nat),k≤N∧g=N-k∧s22=.int .i64 k∧Hid (entFrom D n (qOf (lE xs) k) ((lE xs).drop k)=entFrom D n (qOf (lE xs) 0) ((lE xs).drop 0))∧Hid (∀ j,j<k→entOne D n ((lE xs).getD j noEn)=0)∧Below w1.heap.size w1 wr)
  case atStart=>exact ⟨0,Nat.zero_le _,rfl,rfl,(rfl:entFrom D n (qOf (lE xs) 0) ((lE xs).drop 0)=entFrom D n (qOf (lE xs) 0) ((lE xs).drop 0)),fun j hj=>absurd hj (Nat.not_lt_zero _),Below.refl _ _⟩
  case round =>
   obtain ⟨k,hk,rfl,rfl,HF,HO,hBw⟩:=hrel
   have HBw:Hid (Below w1.heap.size w1 wr):=hBw
   by_cases hlt:k<N
   ·have hkx:k<xs.length:=by rw [HN.out];exact hlt
    have hki:(k:Int)<(N:Int):=by omega
    have hk1:(k:Int)+1≤9223372036854775807:=by omega
    obtain ⟨-,-,h0 | ⟨b,o,rfl,hEs⟩⟩:=HE1.out.later hBw
    ·have:=HN.out;rw [h0] at this;simp at this;omega
    obtain ⟨c1,c2⟩:=hEs.at hkx
    have hpl:=hEs.pl hkx
    have c0:wr.cell? ⟨w.heap.size,0,none⟩=some (.slice A0 n cap):=(hBw.cell (p:=⟨w.heap.size,0,none⟩) hz).trans h2
    have hzr:w.heap.size<wr.heap.size:=Nat.lt_of_lt_of_le hz hBw.size
    have hBo:=ownEn_below wr (xs.getD k noL).A (xs.getD k noL).e.pl.length (xs.getD k noL).c (xs.getD k noL).e.n 68
    have hck:=icheck1_any A0 cap n D A C (xs.getD k noL).A (xs.getD k noL).c (xs.getD k noL).e (ownEn wr (xs.getD k noL).A (xs.getD k noL).e.pl.length (xs.getD k noL).c (xs.getD k noL).e.n 68) HR.out ((HM1.out.later hBw).later hBo) (hpl.later hBo)
    have HBo:Hid (Below wr.heap.size wr (ownEn wr (xs.getD k noL).A (xs.getD k noL).e.pl.length (xs.getD k noL).c (xs.getD k noL).e.n 68)):=hBo
    have HEs:Hid (EnsAt wr b o xs):=hEs
    have HPL:Hid (PlAt wr (xs.getD k noL).A (xs.getD k noL).c (xs.getD k noL).e.pl):=hpl
    have H0:Hid ((ownEn wr (xs.getD k noL).A (xs.getD k noL).e.pl.length (xs.getD k noL).c (xs.getD k noL).e.n 68).cell? ⟨wr.heap.size,0,none⟩=some (.slice (xs.getD k noL).A (xs.getD k noL).e.pl.length (xs.getD k noL).c)):=ownEn_0 ..
    have HS:Hid (wr.heap.size<(ownEn wr (xs.getD k noL).A (xs.getD k noL).e.pl.length (xs.getD k noL).c (xs.getD k noL).e.n 68).heap.size):=by show _<_;rw [ownEn_size];omega
    clear hBw hEs hpl hBo
    by_cases he:entOne D n (xs.getD k noL).e=0
    ·have hKO:=entOne_right HR.out he
     have HK0:Hid (entOne D n ((lE xs).getD k noEn)=0):=by show _=_;rw [lE_at];exact he
     have HSh:Hid ((xs.getD k noL).e.pl.length≤4):=inO_short hKO.1
     rw [he,errV_zero] at hck
     clear he hKO
     rcases Nat.eq_zero_or_pos k with hk0 | hk0
     ·subst hk0
      have HQ:Hid (aheadOk (qOf (lE xs) 0) ((lE xs).getD 0 noEn).pl=true):=rfl
      have HST:Hid (entFrom D n (qOf (lE xs) 0) ((lE xs).drop 0)=entFrom D n (qOf (lE xs) (0+1)) ((lE xs).drop (0+1))):=ent_on (by rw [lE_len];exact hkx) HK0.out HQ.out
      generalize (xs.getD 0 noL).A=A1 at c1 hck HBo H0 HS
      generalize (xs.getD 0 noL).c=k1 at c1 hck HBo H0 HS
      generalize (xs.getD 0 noL).e.n=n1 at c2 hck HBo H0 HS
      generalize (xs.getD 0 noL).e.pl.length=m1 at c1 hck HBo H0 HS
      simp only [Nat.zero_mul,Nat.add_zero] at c1 c2
      clear HPL HSh
      go_wp2_with fail
      refine hck.mono ?_
      rintro e w2 ⟨rfl,hb2⟩
      have HB2:Hid (Below wr.heap.size wr w2):=onB HBo.out hb2
      clear hb2
      go_wp2_with fail
      go_quiet (fail)
      go_wp2_with fail
      go_roundg (N-(0+1))
      case measure=>omega
      case rel =>
       refine ⟨0+1,by omega,rfl,by go_num,HST.out.symm,fun j hj=>?_,below_drewN (onB HBw.out HB2.out) _⟩
       have:j=0:=by omega
       subst this
       exact HK0.out
     ·obtain ⟨j,hj⟩:∃ j,k=j+1:=⟨k-1,by omega⟩
      have hjx:j<xs.length:=by omega
      obtain ⟨d1,d2⟩:=HEs.out.at hjx
      have hjO:=entOne_right HR.out (HO.out j (by omega))
      rw [lE_at] at hjO
      have HJ:Hid (∀ w',Below wr.heap.size wr w'→Calls Tryz.prog 41 #[.agg #[.slice (xs.getD j noL).A (xs.getD j noL).e.pl.length (xs.getD j noL).c,.int .i64 (xs.getD j noL).e.n],.slice (xs.getD k noL).A (xs.getD k noL).e.pl.length (xs.getD k noL).c] w' fun e w''=>e=.returned (.int .i64 (cmpL (xs.getD j noL).e.pl (xs.getD k noL).e.pl))∧Below w'.heap.size w' w''):=fun w' hw'=>order_any _ _ _ _ _ _ _ w' (inO_short hjO.1) HSh.out ((HEs.out.pl hjx).later hw') (HPL.out.later hw')
      have HCN:Hid (decide (0≤cmpL (xs.getD j noL).e.pl (xs.getD k noL).e.pl) = !lessL (xs.getD j noL).e.pl (xs.getD k noL).e.pl):=cmpL_nonneg (xs.getD j noL).e.pl (xs.getD k noL).e.pl
      have HQ:Hid (aheadOk (qOf (lE xs) k) ((lE xs).getD k noEn).pl=lessL (xs.getD j noL).e.pl (xs.getD k noL).e.pl):=by show _=_;rw [←lE_at,←lE_at,hj];rfl
      have hwr:IntKind.i64.wrap ((k:Int)-1)=(j:Int):=by rw [IntKind.wrap_i64];omega
      have hj0:(0:Int)<(k:Int):=by omega
      have HKJ:Hid (k=j+1):=hj
      have hjN:(j:Int)<(N:Int):=by omega
      generalize (xs.getD k noL).A=A1 at c1 hck HBo H0 HS HJ
      generalize (xs.getD k noL).c=k1 at c1 hck HBo H0 HS HJ
      generalize (xs.getD k noL).e.n=n1 at c2 hck HBo H0 HS
      generalize (xs.getD k noL).e.pl.length=m1 at c1 hck HBo H0 HS HJ
      generalize (xs.getD j noL).A=A2 at d1 HJ
      generalize (xs.getD j noL).c=k2 at d1 HJ
      generalize (xs.getD j noL).e.n=n2 at d2 HJ
      generalize (xs.getD j noL).e.pl.length=m2 at d1 HJ
      generalize cmpL (xs.getD j noL).e.pl (xs.getD k noL).e.pl=cc at HJ HCN
      have hbb:=HEs.out.1
      clear HPL HSh hjO hj
      go_wp2_with fail
      refine hck.mono ?_
      rintro e w2 ⟨rfl,hb2⟩
      have hB2:Below wr.heap.size wr w2:=onB HBo.out hb2
      have HB2:Hid (Below wr.heap.size wr w2):=hB2
      have e1:w2.cell? ⟨b,o+j*2,none⟩=some (.slice A2 m2 k2):=(hB2.cell (p:=⟨b,o+j*2,none⟩) hbb).trans d1
      have e2:w2.cell? ⟨b,o+j*2+1,none⟩=some (.int .i64 n2):=(hB2.cell (p:=⟨b,o+j*2+1,none⟩) hbb).trans d2
      have e3:w2.cell? ⟨wr.heap.size,0,none⟩=some (.slice A1 m1 k1):=(hb2.cell (p:=⟨wr.heap.size,0,none⟩) HS.out).trans H0.out
      have hz2:wr.heap.size<w2.heap.size:=Nat.lt_of_lt_of_le HS.out hb2.size
      clear hb2 hB2 c1 c2 d1 d2
      have HC3:Hid (b<w2.heap.size∧wr.heap.size<w2.heap.size∧w2.cell? ⟨b,o+j*2,none⟩=some (.slice A2 m2 k2)∧w2.cell? ⟨b,o+j*2+1,none⟩=some (.int .i64 n2)∧w2.cell? ⟨wr.heap.size,0,none⟩=some (.slice A1 m1 k1)):=⟨Nat.lt_of_lt_of_le hbb HB2.out.size,hz2,e1,e2,e3⟩
      go_wp2_with fail
      go_cut [45] (fun s45 wx=>s45=.bool (decide (0≤cc))∧Below w2.heap.size w2 wx)
      case first =>
       go_region_held3 (fun w'=>Below w2.heap.size w2 w'∧w'.cell? ⟨b,o+j*2,none⟩=some (.slice A2 m2 k2)∧w'.cell? ⟨b,o+j*2+1,none⟩=some (.int .i64 n2)∧w'.cell? ⟨wr.heap.size,0,none⟩=some (.slice A1 m1 k1))
        ((refine keep3 HC3.out ?_;go_grown;done))
        (first | (go_at_call 41;refine (HJ.out _ (onB HB2.out (by go_grown))).mono ?_;rintro e w3 ⟨rfl,hb3⟩;have hN3:=onB (W0:=w2) (by go_grown) hb3;have hy3:=hN3.size;clear hb3))
       all_goals go_wp2_with fail
       all_goals go_meet
       all_goals exact ⟨rfl,by go_grown⟩
      case rest =>
       obtain ⟨rfl,hb3⟩:=hcut
       have HB3:Hid (Below w2.heap.size w2 wc):=hb3
       clear hb3 e1 e2 e3 HC3 HJ hz2 hwr hjN
       obtain ⟨tC,htC⟩:∃ t,decide (0≤cc)=t:=⟨_,rfl⟩
       rw [htC]
       have HTC:Hid (decide (0≤cc)=tC):=htC
       clear htC hk0 hj0 hbb hzr c0
       cases tC
       case true =>
        have HST:Hid (errV (entsErr D n (lE xs))=.iface 45 (.int .i64 7)):=by
         show _=_
         have h3:=HCN.out
         rw [HTC.out] at h3
         rw [HV.out,←HF.out,ent_clash (by rw [lE_len];exact hkx) HK0.out (by rw [HQ.out];simpa using h3)];rfl
        go_wp2_with fail
        go_ret
        rw [HST.out]
        exact ⟨rfl,onB HB.out (onB HBw.out (onB HB2.out HB3.out))⟩
       case false =>
        have HST:Hid (entFrom D n (qOf (lE xs) k) ((lE xs).drop k)=entFrom D n (qOf (lE xs) (k+1)) ((lE xs).drop (k+1))):=by
         show _=_
         have h3:=HCN.out
         rw [HTC.out] at h3
         exact ent_on (by rw [lE_len];exact hkx) HK0.out (by rw [HQ.out];simpa using h3)
        go_wp2_with fail
        go_roundg (N-(k+1))
        case measure=>omega
        case rel =>
         refine ⟨k+1,by omega,rfl,by go_num,HST.out.symm.trans HF.out,fun i hi=>?_,onB HBw.out (onB HB2.out HB3.out)⟩
         rcases Nat.lt_succ_iff_lt_or_eq.1 hi with h1 | rfl
         ·exact HO.out i h1
         ·exact HK0.out
    ·have HFin:Hid (errV (entsErr D n (lE xs))=.iface 45 (.int .i64 (entOne D n (xs.getD k noL).e))):=by
      show _=_
      rw [HV.out,←HF.out,ent_bad (by rw [lE_len];exact hkx) (by rw [lE_at];exact he),lE_at,errV_some he]
     rw [errV_some he] at hck
     generalize entOne D n (xs.getD k noL).e=E at hck HFin
     generalize (xs.getD k noL).A=A1 at c1 hck HBo H0 HS
     generalize (xs.getD k noL).c=k1 at c1 hck HBo H0 HS
     generalize (xs.getD k noL).e.n=n1 at c2 hck HBo H0 HS
     generalize (xs.getD k noL).e.pl.length=m1 at c1 hck HBo H0 HS
     clear HPL he
     go_wp2_with fail
     refine hck.mono ?_
     rintro e w2 ⟨rfl,hb2⟩
     have HB2:Hid (Below wr.heap.size wr w2):=onB HBo.out hb2
     clear hb2
     go_wp2_with fail
     go_ret
     rw [HFin.out]
     exact ⟨rfl,onB HB.out (onB HBw.out HB2.out)⟩
   ·have hke:k=N:=by omega
    subst hke
    have HFin:Hid (errV (entsErr D n (lE xs))=.nilIface):=by show _=_;rw [HV.out,←HF.out,ent_end (by rw [lE_len,HN.out];exact Nat.le_refl _)];rfl
    clear hBw
    go_wp2_with fail
    go_ret
    rw [HFin.out]
    exact ⟨rfl,onB HB.out HBw.out⟩
 ·have HV:Hid (errV (entsErr D n (lE xs))=.iface 45 (.int .i64 (allErr D n).2.2)):=by show _=_;rw [ents_bad _ hR,errV_some hR]
  rw [errV_some hR] at h
  generalize (allErr D n).2.2=E at h HV
  generalize xs.length=N
  clear hR hE HM HE
  go_enter Tryz.func20,Tryz.ntmps20
  go_wp2_with fail
  refine h.mono ?_
  rintro e w1 ⟨rfl,hb1⟩
  go_wp2_with fail
  go_ret
  rw [HV.out]
  exact ⟨rfl,onB HB0.out hb1⟩
theorem short_of {D:Nat→Dm} {n:Nat} {xs:List EnL} {p:List Int} (hE:Ens D n (lE xs)) (hp:InO D n p):Short xs p:=by
 refine ⟨fun k hk=>?_,inO_short hp⟩
 have h1:(xs.getD k noL).e∈lE xs:=List.mem_map.2 ⟨_,enl_mem hk,rfl⟩
 exact inO_short (hE.each _ h1).1
theorem few_of {D:Nat→Dm} {n:Nat} {xs:List EnL} (hE:Ens D n (lE xs)):xs.length≤3000:=by have:=hE.few;rw [lE_len] at this;exact this
def ownOC (w:World) (A0:Option Addr) (n cap:Nat):World:=(ownOut w A0 n cap 25).alloc (.cells #[.int .i64 0,.int .i64 0] 39)
theorem ownOC_size (w:World) (A0:Option Addr) (n cap:Nat):(ownOC w A0 n cap).heap.size=w.heap.size+2:=by unfold ownOC;simp [ownOut_size]
theorem ownOC_below (w:World) (A0:Option Addr) (n cap:Nat):Below w.heap.size w (ownOC w A0 n cap):=by unfold ownOC ownOut;go_grown
theorem ownOC_o (w:World) (A0:Option Addr) (n cap:Nat):(ownOC w A0 n cap).cell? ⟨w.heap.size,0,none⟩=some (.slice A0 n cap):=by
 unfold ownOC
 rw [World.cell?_alloc_lt _ _ ⟨w.heap.size,0,none⟩ (by simp [ownOut_size])]
 exact ownOut_at ..
theorem ownOC_b (w:World) (A0:Option Addr) (n cap:Nat):(ownOC w A0 n cap).heap[w.heap.size+1]?=some (.cells #[.int .i64 0,.int .i64 0] 39):=by
 have h:=heap_alloc_new (ownOut w A0 n cap 25) (.cells #[.int .i64 0,.int .i64 0] 39)
 rw [ownOut_size] at h
 exact h
def NewE (N:Nat) (xs:List EnL):Prop := ∀ x∈xs,NewA N x.A
theorem NewE.le {N M:Nat} {xs:List EnL} (h:NewE N xs) (hm:M≤N):NewE M xs:=fun x hx=>(h x hx).le hm
theorem NewE.put {N i:Nat} {xs:List EnL} {x:EnL} (h:NewE N xs) (hx:NewA N x.A):NewE N (xs.take i ++ x :: xs.drop i):=fun y hy=>by
 rcases List.mem_append.1 hy with hy | hy
 ·exact h y (List.mem_of_mem_take hy)
 ·rcases List.mem_cons.1 hy with rfl | hy
  ·exact hx
  ·exact h y (List.mem_of_mem_drop hy)
theorem NewE.cut {N i j:Nat} {xs:List EnL} (h:NewE N xs):NewE N (xs.take i ++ xs.drop j):=fun y hy=>by
 rcases List.mem_append.1 hy with hy | hy
 ·exact h y (List.mem_of_mem_take hy)
 ·exact h y (List.mem_of_mem_drop hy)
theorem NewE.set {N i:Nat} {xs:List EnL} (h:NewE N xs) (hi:i<xs.length) (e:En) (c:Nat):NewE N (xs.set i ⟨e,(xs.getD i noL).A,c⟩):=fun y hy=>by
 rcases List.mem_or_eq_of_mem_set hy with hy | rfl
 ·exact h y hy
 ·exact h (xs.getD i noL) (enl_mem hi)
theorem plty_new {w:World} {base:Nat} {v:Value} {L:List Int} (h:w.ownsRow base 3 1 v L.length (L.map (Value.int .i64))):∃ A c,v=.slice A L.length c∧PlTy w A c L∧NewA base A:=by
 obtain ⟨A,c,rfl,hP⟩:=plty_own h
 refine ⟨A,c,rfl,hP,fun b o e=>?_⟩
 subst e
 rcases h.2 with ⟨h1,-⟩ | ⟨g,cap,cur,h1,hb,-⟩
 ·cases h1
 ·cases h1;exact hb
set_option maxHeartbeats 2000000 in
theorem clone_own (A:Option Addr) (c:Nat) (L:List Int) (w:World) (hL:L.length≤4) (hP:PlAt w A c L):Calls Tryz.prog 42 #[.slice A L.length c] w fun e w'=>(∃ v,e=.returned v∧w'.ownsRow w.heap.size 3 1 v L.length (L.map (Value.int .i64)))∧Below w.heap.size w w':=by
 have hq:∀ (w:World) (a:Option Addr) (n c n' c':Nat),(binOp .eql 27 (.slice a n c) (.slice none n' c')).run Tryz.prog w=.ok (.bool a.isNone) w:=fun w a n c n' c'=>Lib.run_eql_slice_nil w _ _ a n c n' c' Tryz.underlying27
 cases A with
 | none =>
  obtain ⟨-,h0 | ⟨b,o,h0,-⟩⟩:=hP
  ·subst h0
   simp only [List.length_nil]
   go_enter Tryz.func42,Tryz.ntmps42
   go_wp2_with fail
   go_ret
   exact ⟨⟨_,rfl,World.ownsRow_nil _ _ _ _⟩,Below.refl _ _⟩
  ·cases h0
 | some a =>
  obtain ⟨i0,hi0,hz0,hz1,hz2⟩:=info_parts Tryz.infoIntP
  have HC:Hid (∀ j u,(L.map (Value.int .i64))[j]?=some u→w.cell? (a.add j)=some u):=by
   intro j u hj
   obtain ⟨-,h0 | ⟨b,o,h0,-,hcell⟩⟩:=hP
   ·subst h0;simp at hj
   ·cases h0
    have hlt:j<L.length:=by have:=(List.getElem?_eq_some_iff.1 hj).1;simpa using this
    rw [plain_add,hcell j hlt]
    simp only [List.getElem?_map,List.getElem?_eq_getElem hlt,Option.map_some,Option.some.injEq] at hj
    rw [←hj,List.getD_eq_getElem?_getD,List.getElem?_eq_getElem hlt]
    rfl
  have hl:(L.map (Value.int .i64)).length=L.length*1:=by simp
  have h1:∀ u∈L.map (Value.int .i64),u.oneCell'=true:=by intro u hu;simp at hu;obtain ⟨x,-,rfl⟩:=hu;rfl
  have hm:L.length≤4:=hL
  clear hP hL
  go_enter Tryz.func42,Tryz.ntmps42
  go_wp2_with (at_builtin;refine wpList_append_own _ rfl _ _ 27 rfl w.heap.size 3 i0 (.int .i64 0) 1 8 Tryz.underlying27 hi0 hz0 hz1 hz2 rfl (by decide) _ _ _ rfl (World.ownsRow_made w #[] 0 (Nat.le_refl _) (Nat.zero_le _) (by simp)) a L.length c (L.map (Value.int .i64)) rfl ?qc1 ?qc2 ?qc3 ?qc4 ?qc5 ?qc6 ?_)
  case qc1=>exact hl
  case qc2=>exact fun j u hj=>Lib.cell?_alloc_some _ (HC.out j u hj)
  case qc3=>exact h1
  case qc4=>simp only [maxLen];omega
  case qc5=>omega
  case qc6=>simp
  intro v' w1 hown hgrow hnil
  have HT:Hid (w1.ownsRow w.heap.size 3 1 v' L.length (L.map (Value.int .i64))):=hown
  have HB:Hid (Below w.heap.size w w1):=((Below.refl _ w).alloc (Nat.le_refl _) _).grown hgrow (by simp) (by intro k hk;simp [Value.ownBlock] at hk;omega)
  clear hown hgrow hnil
  go_wp2_with fail
  go_ret
  exact ⟨⟨_,rfl,HT.out⟩,HB.out⟩
theorem clone_new (A:Option Addr) (c:Nat) (L:List Int) (w:World) (hL:L.length≤4) (hP:PlAt w A c L):Calls Tryz.prog 42 #[.slice A L.length c] w fun e w'=>(∃ A' c',e=.returned (.slice A' L.length c')∧PlTy w' A' c' L∧NewA w.heap.size A')∧Below w.heap.size w w' :=
 (clone_own A c L w hL hP).mono fun _ _ ⟨⟨_,h1,h2⟩,h3⟩=>by
  obtain ⟨A',c',rfl,h4,h5⟩:=plty_new h2
  exact ⟨⟨A',c',h1,h4,h5⟩,h3⟩
end Go.Proofs.YtbhanigcjdegjaaGreatDoor
namespace Go.Proofs.YtbhanigcjdegjaaGreatDoor
open Go.ChangeShapes Go.WideShapes Go.ChangeAt Go.RowKit Go.Lib
set_option maxRecDepth 100000
theorem Tryz.infoEnt:(Tryz.prog.info? 68).map (fun i=>(i.zero,i.size,i.bytes))=some (some (.agg #[.slice none 0 0,.int .i64 0]),2,32):=by kernel_rfl
def OneE (w:World) (vb:Nat) (x:EnL):Prop:=w.heap[vb]?=some (.cells #[.slice x.A x.e.pl.length x.c,.int .i64 x.e.n] 68 (0,0))
theorem OneE.cells {w:World} {vb:Nat} {x:EnL} (h:OneE w vb x):∀ j u,(cellsE [x])[j]?=some u→w.cell? ⟨vb,j,none⟩=some u:=by
 intro j u hj
 rw [Lib.cell_of_heap h]
 simpa [cellsE] using hj
def Inserted (w:World) (g i:Nat) (xs:List EnL) (x:EnL) (e:Ending) (w':World):Prop := ∃ g' cap',e=.returned (.slice (some ⟨g',0,none⟩) (xs.length+1) cap')∧RowE w' g' cap' (xs.take i ++ x :: xs.drop i)∧g≤g'∧w.grownBy w' (some g)
set_option maxHeartbeats 4000000 in
theorem insert_end (g cap vb:Nat) (xs:List EnL) (x:EnL) (w:World) (hn:xs.length≤3000) (hR:RowE w g cap xs) (hx:PlTy w x.A x.c x.e.pl) (hv:OneE w vb x) :
  Calls Tryz.prog 64 #[.slice (some ⟨g,0,none⟩) xs.length cap,.int .i64 xs.length,.slice (some ⟨vb,0,none⟩) 1 1] w fun e w'=>Inserted w g xs.length xs x e w':=by
 obtain ⟨i0,hi0,hz0,hz1,hz2⟩:=info_parts Tryz.infoEnt
 have hown:=hR.own (Nat.le_refl g)
 have hgs:g≤w.heap.size:=Nat.le_of_lt hR.lt
 have hcap:=hR.2.1
 have hcm:=hR.2.2.1
 have HR:Hid (RowE w g cap xs):=hR
 have HX:Hid (PlTy w x.A x.c x.e.pl):=hx
 have HV:Hid (∀ j u,(cellsE [x])[j]?=some u→w.cell? ⟨vb,j,none⟩=some u):=hv.cells
 have HE:Hid (cellsE (xs ++ [x])=cellsE xs ++ cellsE [x]):=cellsE_append ..
 have HL:Hid ((cellsE [x]).length=1*2):=cellsE_len [x]
 have H1:Hid (∀ v∈cellsE [x],v.oneCell'=true):=cellsE_one [x]
 have HT:Hid (xs.take xs.length ++ x :: xs.drop xs.length=xs ++ [x]∧(xs ++ [x]).length=xs.length+1):=⟨by simp,by simp⟩
 obtain ⟨n,hnn⟩:∃ n,xs.length=n:=⟨_,rfl⟩
 have HN:Hid (xs.length=n):=hnn
 rw [hnn] at hown hn hcap HT
 unfold Inserted
 rw [hnn]
 generalize hcx:cellsE xs=CX at hown HE
 generalize hc1:cellsE [x]=C1 at HV HE HL H1
 unfold maxLen at hcm
 clear hR hx hv hnn hcx hc1
 have hn':(n:Int)≤3000:=by omega
 by_cases hce:cap=n
 ·subst hce
  go_enter Tryz.func64,Tryz.ntmps64
  go_wp2_with (at_builtin;refine wpList_append_own _ rfl _ _ 26 rfl g 68 i0 (.agg #[.slice none 0 0,.int .i64 0]) 2 32 Tryz.underlying26 hi0 hz0 hz1 hz2 rfl (by decide) _ _ _ rfl hown ⟨vb,0,none⟩ 1 1 C1 rfl ?qc1 ?qc2 ?qc3 ?qc4 ?qc5 ?qc6 ?_)
  case qc1=>exact HL.out
  case qc2=>exact fun j u hj=>by rw [plain_add,Nat.zero_add];exact HV.out j u hj
  case qc3=>exact H1.out
  case qc4=>simp only [maxLen];omega
  case qc5=>omega
  case qc6=>exact hgs
  intro v' w1 hown1 hgrow hnil
  rw [←HE.out,←HT.out.2] at hown1
  have hg1:w.grownBy w1 (some g):=hgrow
  obtain ⟨⟨cur,hcur,-,-⟩,-⟩:=HR.out
  have hpl:∀ y∈xs ++ [x],PlTy w1 y.A y.c y.e.pl:=fun y hy=>by
   rcases List.mem_append.1 hy with hy | hy
   ·exact (HR.out.2.2.2 y hy).grown hcur hg1
   ·rw [List.mem_singleton.1 hy];exact HX.out.grown hcur hg1
  obtain ⟨g',cap',rfl,hgg,hRow⟩:=row_own hown1 (by simpa using hnil) hpl
  have HRow:Hid (RowE w1 g' cap' (xs ++ [x])):=hRow
  have HG:Hid (w.grownBy w1 (some g)):=hg1
  rw [HT.out.2]
  clear hown1 hgrow hnil hcur hpl hRow hg1
  go_wp2_with fail
  go_ret
  refine ⟨g',cap',rfl,?_,hgg,HG.out⟩
  rw [HT.out.1]
  exact HRow.out
 ·have hce' : ¬ ((cap:Int)=(n:Int)):=by omega
  go_enter Tryz.func64,Tryz.ntmps64
  go_wp2_with (at_builtin;refine wpList_append_own _ rfl _ _ 26 rfl g 68 i0 (.agg #[.slice none 0 0,.int .i64 0]) 2 32 Tryz.underlying26 hi0 hz0 hz1 hz2 rfl (by decide) _ _ _ rfl hown ⟨vb,0,none⟩ 1 1 C1 rfl ?qc1 ?qc2 ?qc3 ?qc4 ?qc5 ?qc6 ?_)
  case qc1=>exact HL.out
  case qc2=>exact fun j u hj=>by rw [plain_add,Nat.zero_add];exact HV.out j u hj
  case qc3=>exact H1.out
  case qc4=>simp only [maxLen];omega
  case qc5=>omega
  case qc6=>exact hgs
  intro v' w1 hown1 hgrow hnil
  rw [←HE.out,←HT.out.2] at hown1
  have hg1:w.grownBy w1 (some g):=hgrow
  obtain ⟨⟨cur,hcur,-,-⟩,-⟩:=HR.out
  have hpl:∀ y∈xs ++ [x],PlTy w1 y.A y.c y.e.pl:=fun y hy=>by
   rcases List.mem_append.1 hy with hy | hy
   ·exact (HR.out.2.2.2 y hy).grown hcur hg1
   ·rw [List.mem_singleton.1 hy];exact HX.out.grown hcur hg1
  obtain ⟨g',cap',rfl,hgg,hRow⟩:=row_own hown1 (by simpa using hnil) hpl
  have HRow:Hid (RowE w1 g' cap' (xs ++ [x])):=hRow
  have HG:Hid (w.grownBy w1 (some g)):=hg1
  rw [HT.out.2]
  clear hown1 hgrow hnil hcur hpl hRow hg1
  go_wp2_with fail
  go_ret
  refine ⟨g',cap',rfl,?_,hgg,HG.out⟩
  rw [HT.out.1]
  exact HRow.out
theorem ent_over (w:World) (g vb o lb cb kB:Nat) (x:EnL) (cur:Array Value) (hvb:vb≠g) (hv:OneE w vb x) (hg:w.heap[g]?=some (.cells cur 68 (0,0))) (hk:cur.size=kB) (hk0:kB≠0) :
  (callFunc 85 #[.slice (some ⟨vb,0,none⟩) 1 1,.slice (some ⟨g,o,none⟩) lb cb]).run Tryz.prog w=.ok (.value (.bool false)) w:=by
 rw [run_callFunc_extern Tryz.func85 (by kernel_rfl) (by kernel_rfl) (by kernel_rfl) (e:=Extern.SlicesOverlaps.overlaps #[26,26] #[4]) (by kernel_rfl),
  Lib.run_overlaps_apart w 26 4 68 Tryz.underlying26 2 Tryz.sizeOf68 ⟨vb,0,none⟩ ⟨g,o,none⟩ 1 1 lb cb hvb 68 68 2 kB (by simp [World.shape?,show w.heap[vb]?=_ from hv]) (by simp [World.shape?,hg,hk]) hk0 (Lib.frozen_of_heap hv 0) (Lib.frozen_of_heap hv 2)]
 rfl
set_option maxHeartbeats 4000000 in
theorem insert_shift (g cap i vb:Nat) (xs:List EnL) (x:EnL) (w:World) (hn:xs.length≤3000) (hi:i<xs.length) (hroom:xs.length+1≤cap) (hvb:vb≠g) (hR:RowE w g cap xs) (hx:PlTy w x.A x.c x.e.pl) (hv:OneE w vb x) :
  Calls Tryz.prog 64 #[.slice (some ⟨g,0,none⟩) xs.length cap,.int .i64 i,.slice (some ⟨vb,0,none⟩) 1 1] w fun e w'=>Inserted w g i xs x e w':=by
 obtain ⟨i0,hi0,hz0,hz1,hz2⟩:=info_parts Tryz.infoEnt
 have hsz:(Tryz.prog.info? 68).map (·.size)=some 2:=by rw [hi0];simp [hz1]
 have hcm:=hR.2.2.1
 unfold maxLen at hcm
 obtain ⟨⟨cur,hcur,hcs,hct⟩,-,-,hpl⟩:=id hR
 have hov:∀ o lb cb,(callFunc 85 #[.slice (some ⟨vb,0,none⟩) 1 1,.slice (some ⟨g,o,none⟩) lb cb]).run Tryz.prog w=.ok (.value (.bool false)) w:=fun o lb cb=>ent_over w g vb o lb cb (cap*2) x cur hvb hv hcur hcs (by omega)
 obtain ⟨n,hnn⟩:∃ n,xs.length=n:=⟨_,rfl⟩
 have hdl:(cellsE (xs.drop i)).length=(n-i)*2:=by rw [cellsE_len,List.length_drop,hnn]
 obtain ⟨C1,hC1⟩:∃ C1,C1=cur.toList.take ((i+1)*2) ++ cellsE (xs.drop i) ++ cur.toList.drop ((i+1)*2+(cellsE (xs.drop i)).length):=⟨_,rfl⟩
 obtain ⟨C2,hC2⟩:∃ C2,C2=C1.take (i*2) ++ cellsE [x] ++ C1.drop (i*2+(cellsE [x]).length):=⟨_,rfl⟩
 have hlen:(xs.length+1)*2≤cur.toList.length:=by
  have h1:cur.toList.length=cap*2:=by simpa using hcs
  omega
 obtain ⟨hl2,ht2⟩:=ins_cells hct hlen (Nat.le_of_lt hi) hC1 hC2
 have hl1:C1.length=cur.size:=by
  rw [hC1]
  simp only [List.length_append,List.length_take,List.length_drop,hdl,Array.length_toList,hcs]
  omega
 have hcp1:∀ ty dc sc,(Builtin.copy_ #[26,26] ty #[.slice (some ⟨g,(i+1)*2,none⟩) (n-i) dc,.slice (some ⟨g,i*2,none⟩) (n+1-i) sc]).run Tryz.prog w.drew=.ok (goInt (Nat.min (n+1-i) (n-i))) (w.drew.setRow g C1.toArray):=fun ty dc sc=>by
  rw [hC1]
  exact run_copy_k 2 w.drew _ _ ty 68 g ((i+1)*2) (n-i) dc ⟨g,i*2,none⟩ (n+1-i) sc cur 68 (cellsE (xs.drop i)) Tryz.underlying26 hsz hcur (by rw [hdl];simp only [Nat.min_def];split <;> omega)
   (fun j v hj=>by
    rw [plain_add]
    refine hR.cells (i*2+j) v ?_
    rw [←cellsE_drop,List.getElem?_drop] at hj
    exact hj)
   (by rw [hdl];omega) (cellsE_one _)
 have hW1:(w.drew.setRow g C1.toArray).heap[g]?=some (.cells C1.toArray 68 (0,0)):=setRow_heap w.drew g cur _ _ _ hcur
 have hcp2:∀ (W:World),W.heap=(w.drew.setRow g C1.toArray).heap→∀ ty dc,(Builtin.copy_ #[26,26] ty #[.slice (some ⟨g,i*2,none⟩) (n+1-i) dc,.slice (some ⟨vb,0,none⟩) 1 1]).run Tryz.prog W=.ok (goInt (Nat.min 1 (n+1-i))) (W.setRow g C2.toArray):=fun W hW ty dc=>by
  have h:=run_copy_k (P:=Tryz.prog) 2 W _ 26 ty 68 g (i*2) (n+1-i) dc ⟨vb,0,none⟩ 1 1 C1.toArray 68 (cellsE [x]) Tryz.underlying26 hsz (by rw [hW];exact hW1) (by rw [cellsE_len];simp only [Nat.min_def];split <;> simp <;> omega)
   (fun j v hj=>by
    rw [plain_add,Nat.zero_add]
    have hb:W.heap[vb]?=w.heap[vb]?:=by rw [hW,setRow_other _ _ _ _ hvb];rfl
    exact (World.cell?_of_block (a:=⟨vb,j,none⟩) hb).trans (hv.cells j v hj))
   (by rw [cellsE_len];simp [hl1,hcs];omega) (cellsE_one _)
  rw [h,hC2]
 have HFin:Hid (∀ w',w'.heap=((w.drew.setRow g C1.toArray).setRow g C2.toArray).heap→w'.os=w.os→w'.tape=w.tape→w'.output=w.output→RowE w' g cap (xs.take i ++ x :: xs.drop i)∧w.grownBy w' (some g)):=by
  intro w' hw' h1 h2 h3
  rw [setRow_setRow] at hw'
  have hg':w.grownBy w' (some g):=⟨h1,h2,h3,by rw [hw',setRow_size];exact Nat.le_refl _,fun k hk hne=>by rw [hw',setRow_other _ _ _ _ fun e=>hne (by rw [e])];rfl⟩
  refine ⟨⟨⟨C2.toArray,by rw [hw'];exact setRow_heap w.drew g cur _ _ _ hcur,by rw [List.size_toArray,hl2,Array.length_toList,hcs],ht2⟩,by simp;omega,hR.2.2.1,fun y hy=>?_⟩,hg'⟩
  refine PlTy.grown ?_ hcur hg'
  rcases List.mem_append.1 hy with hy | hy
  ·exact hpl y (List.mem_of_mem_take hy)
  ·rcases List.mem_cons.1 hy with rfl | hy
   ·exact hx
   ·exact hpl y (List.mem_of_mem_drop hy)
 unfold Inserted
 rw [hnn] at hn hi hroom ⊢
 have hn':(n:Int)≤3000:=by omega
 have hi':(i:Int)<(n:Int):=by omega
 have hr':(n:Int)+1≤(cap:Int):=by omega
 have hz2 : ¬ ((i:Int)=(n:Int)):=by omega
 have hb2 : ¬ (cap=i+1):=by omega
 have hb4 : ¬ (cap=i):=by omega
 have hw1:IntKind.i64.wrap ((i:Int)+1)=(i:Int)+1:=by rw [IntKind.wrap_i64];omega
 have hb1:(0:Int)≤(i:Int)+1:=by omega
 have htn:((i:Int)+1).toNat=i+1:=by omega
 have hin:i≤n:=by omega
 have hb3:(i:Int)≤(n:Int)+1:=by omega
 clear hcm hpl hnn hl1 hl2 ht2 hC1 hC2 hlen hdl hW1 hcur hcs hct hR hx hv
 go_enter Tryz.func64,Tryz.ntmps64
 go_wp2_with (simp only [hov])
 go_region_law (refine step_copy_runI rfl _ _ 26 26 rfl _ _ (by simp [Act.eval,Act.put]) (by simp [Act.eval,Act.put]) (hcp1 _ _ _) ?_)
 go_wp2_with (at_builtin;refine wpList_copy_runI _ rfl _ _ 26 26 rfl _ _ rfl rfl (hcp2 _ rfl _ _) ?_)
 go_ret
 obtain ⟨h1,h2⟩:=HFin.out _ rfl rfl rfl rfl
 exact ⟨g,cap,rfl,h1,Nat.le_refl _,h2⟩
theorem zero_size (k:Nat):(Builtin.zeroCells (Value.agg #[.slice none 0 0,.int .i64 0]).cells k).size=k*2:=by
 simp [Builtin.zeroCells,Value.cells]
set_option maxHeartbeats 4000000 in
theorem insert_grow (g cap i vb:Nat) (xs:List EnL) (x:EnL) (w:World) (hn:xs.length≤3000) (hi:i<xs.length) (hroom:cap<xs.length+1) (hR:RowE w g cap xs) (hx:PlTy w x.A x.c x.e.pl) (hv:OneE w vb x) :
  Calls Tryz.prog 64 #[.slice (some ⟨g,0,none⟩) xs.length cap,.int .i64 i,.slice (some ⟨vb,0,none⟩) 1 1] w fun e w'=>Inserted w g i xs x e w':=by
 obtain ⟨i0,hi0,hz0,hz1,hz2⟩:=info_parts Tryz.infoEnt
 have hsz:(Tryz.prog.info? 68).map (·.size)=some 2:=by rw [hi0];simp [hz1]
 have hcm:=hR.2.2.1
 unfold maxLen at hcm
 have hnc:=hR.2.1
 have hgw:g<w.heap.size:=hR.lt
 have hvw:vb<w.heap.size:=(Array.getElem?_eq_some_iff.1 hv).1
 obtain ⟨n,hnn⟩:∃ n,xs.length=n:=⟨_,rfl⟩
 rw [hnn] at hn hi hroom hnc
 have hdl:(cellsE (xs.drop i)).length=(n-i)*2:=by rw [cellsE_len,List.length_drop,hnn]
 have htl:(cellsE (xs.take i)).length=i*2:=by rw [cellsE_len,List.length_take,hnn,Nat.min_eq_left (by omega)]
 have hkk:(n:Int)+1-(i:Int)=((n+1-i:Nat):Int):=by omega
 have hik:i+(n+1-i)=n+1:=by omega
 have hold:(Builtin.firstCells i0.size i (.slice (some ⟨g,0,none⟩) i cap)).run Tryz.prog w.drew=.ok (cellsE (xs.take i)).toArray w.drew:=by
  rw [hz1]
  exact run_firstCells_some w.drew 2 i ⟨g,0,none⟩ i cap (cellsE (xs.take i)) htl (fun j v hj=>by
   rw [plain_add,Nat.zero_add]
   rw [←cellsE_take,List.getElem?_take] at hj
   split at hj
   ·exact hR.cells j v hj
   ·cases hj)
 obtain ⟨G,hG⟩:∃ G,G=grownCap w (n+1) cap 68:=⟨_,rfl⟩
 obtain ⟨ROW,hROW⟩:∃ ROW:Array Value,ROW=(cellsE (xs.take i)).toArray ++ Builtin.zeroCells (Value.agg #[.slice none 0 0,.int .i64 0]).cells (n+1-i) ++ Builtin.zeroCells (Value.agg #[.slice none 0 0,.int .i64 0]).cells (G-(n+1)):=⟨_,rfl⟩
 have hrz:∀ ty,(Builtin.append_ #[26,3] ty #[.slice (some ⟨g,0,none⟩) i cap,.int .i64 ((n:Int)+1-(i:Int))]).run Tryz.prog w=.ok (.slice (some ⟨w.heap.size,0,none⟩) (n+1) G) (w.drew.alloc (.cells ROW 68)):=fun ty=>by
  have h:=Lib.run_append_grow_zeros w 26 3 ty 68 i0 _ .i64 .i64 Tryz.underlying26 Tryz.underlying3 hi0 hz0 (some ⟨g,0,none⟩) i cap (cellsE (xs.take i)) hold (n+1-i) (by omega) (by omega) (by omega) (by omega) (by rw [hz2];omega) (by rw [hz2,hik];exact growslice_fits hroom (by omega))
  rw [hik] at h
  rw [hkk,hROW,hG]
  exact h
 have hGn:n+1≤G:=by rw [hG];exact grownCap_ge w _ _ _
 have hG63:G≤maxLen:=by
  rw [hG]
  exact grownCap_le_maxLen w (n+1) cap 68 (by unfold maxLen;omega)
 have hRs:ROW.size=G*2:=by
  rw [hROW,Array.size_append,Array.size_append,zero_size,zero_size,List.size_toArray,htl]
  omega
 obtain ⟨C1,hC1⟩:∃ C1,C1=ROW.toList.take (i*2) ++ cellsE [x] ++ ROW.toList.drop (i*2+(cellsE [x]).length):=⟨_,rfl⟩
 obtain ⟨C2,hC2⟩:∃ C2,C2=C1.take ((i+1)*2) ++ cellsE (xs.drop i) ++ C1.drop ((i+1)*2+(cellsE (xs.drop i)).length):=⟨_,rfl⟩
 have hRl:ROW.toList.length=G*2:=by simpa using hRs
 have hRt:ROW.toList.take (i*2)=cellsE (xs.take i):=by
  rw [hROW,Array.toList_append,Array.toList_append,List.append_assoc]
  exact take_join htl
 obtain ⟨hl2,ht2⟩:=grow_cells (xs:=xs) (x:=x) (i:=i) hRt (by rw [hRl,hnn];omega) (by omega) hC1 hC2
 have hx2:(cellsE [x]).length=2:=by rw [cellsE_len];rfl
 have hl1:C1.length=G*2:=by
  rw [hC1]
  simp only [List.length_append,List.length_take,List.length_drop,hx2,hRl]
  omega
 have hW1:(w.drew.alloc (.cells ROW 68)).heap[w.heap.size]?=some (.cells ROW 68 (0,0)):=heap_alloc_new w.drew _
 have hOld:∀ k,k<w.heap.size→(w.drew.alloc (.cells ROW 68)).heap[k]?=w.heap[k]?:=fun k hk=>Below.heap_alloc w.drew _ k hk
 have hcpA:∀ (W:World),W.heap=(w.drew.alloc (.cells ROW 68)).heap→∀ ty dc,(Builtin.copy_ #[26,26] ty #[.slice (some ⟨w.heap.size,i*2,none⟩) (n+1-i) dc,.slice (some ⟨vb,0,none⟩) 1 1]).run Tryz.prog W=.ok (goInt (Nat.min 1 (n+1-i))) (W.setRow w.heap.size C1.toArray):=fun W hW ty dc=>by
  have h:=run_copy_k (P:=Tryz.prog) 2 W _ 26 ty 68 w.heap.size (i*2) (n+1-i) dc ⟨vb,0,none⟩ 1 1 ROW 68 (cellsE [x]) Tryz.underlying26 hsz (by rw [hW];exact hW1) (by rw [hx2];simp only [Nat.min_def];split <;> omega)
   (fun j v hj=>by
    rw [plain_add,Nat.zero_add]
    have hb:W.heap[vb]?=w.heap[vb]?:=by rw [hW];exact hOld vb hvw
    exact (World.cell?_of_block (a:=⟨vb,j,none⟩) hb).trans (hv.cells j v hj))
   (by rw [hx2,hRs];omega) (cellsE_one _)
  rw [h,hC1]
 have hW2:((w.drew.alloc (.cells ROW 68)).setRow w.heap.size C1.toArray).heap[w.heap.size]?=some (.cells C1.toArray 68 (0,0)):=setRow_heap _ _ ROW _ _ _ hW1
 have hcpB:∀ (W:World),W.heap=((w.drew.alloc (.cells ROW 68)).setRow w.heap.size C1.toArray).heap→∀ ty dc sc,(Builtin.copy_ #[26,26] ty #[.slice (some ⟨w.heap.size,(i+1)*2,none⟩) (n-i) dc,.slice (some ⟨g,i*2,none⟩) (n-i) sc]).run Tryz.prog W=.ok (goInt (Nat.min (n-i) (n-i))) (W.setRow w.heap.size C2.toArray):=fun W hW ty dc sc=>by
  have h:=run_copy_k (P:=Tryz.prog) 2 W _ 26 ty 68 w.heap.size ((i+1)*2) (n-i) dc ⟨g,i*2,none⟩ (n-i) sc C1.toArray 68 (cellsE (xs.drop i)) Tryz.underlying26 hsz (by rw [hW];exact hW2) (by rw [hdl];simp only [Nat.min_def];split <;> omega)
   (fun j v hj=>by
    rw [plain_add]
    have hb:W.heap[g]?=w.heap[g]?:=by rw [hW,setRow_other _ _ _ _ (Nat.ne_of_lt hgw)];exact hOld g hgw
    refine (World.cell?_of_block (a:=⟨g,i*2+j,none⟩) hb).trans (hR.cells (i*2+j) v ?_)
    rw [←cellsE_drop,List.getElem?_drop] at hj
    exact hj)
   (by rw [hdl,List.size_toArray,hl1];omega) (cellsE_one _)
  rw [h,hC2]
 have HFin:Hid (∀ w',w'.heap=(((w.drew.alloc (.cells ROW 68)).setRow w.heap.size C1.toArray).setRow w.heap.size C2.toArray).heap→w'.os=w.os→w'.tape=w.tape→w'.output=w.output→RowE w' w.heap.size G (xs.take i ++ x :: xs.drop i)∧w.grownBy w' (some g)):=by
  intro w' hw' h1 h2 h3
  rw [setRow_setRow] at hw'
  have hB:Below w.heap.size w w':=⟨h1,h2,h3,by rw [hw',setRow_size];show w.heap.size≤(w.alloc _).heap.size;simp,fun k hk=>by rw [hw',setRow_other _ _ _ _ (Nat.ne_of_lt hk)];exact hOld k hk⟩
  refine ⟨⟨⟨C2.toArray,by rw [hw'];exact setRow_heap _ _ ROW _ _ _ hW1,by rw [List.size_toArray,hl2,hRl],ht2⟩,by simp;omega,hG63,fun y hy=>?_⟩,grown_below hB⟩
  refine PlTy.later ?_ hB
  rcases List.mem_append.1 hy with hy | hy
  ·exact hR.2.2.2 y (List.mem_of_mem_take hy)
  ·rcases List.mem_cons.1 hy with rfl | hy
   ·exact hx
   ·exact hR.2.2.2 y (List.mem_of_mem_drop hy)
 have hE1:((w.alloc (.cells ROW 68)).drew).heap=(w.drew.alloc (.cells ROW 68)).heap:=rfl
 have hF1:(((w.alloc (.cells ROW 68)).drew.setRow w.heap.size C1.toArray).drew).heap=((w.drew.alloc (.cells ROW 68)).setRow w.heap.size C1.toArray).heap:=rfl
 unfold Inserted
 rw [hnn]
 unfold maxLen at hG63
 have hn':(n:Int)≤3000:=by omega
 have hi':(i:Int)<(n:Int):=by omega
 have hr':(cap:Int)<(n:Int)+1:=by omega
 have hne : ¬ ((i:Int)=(n:Int)):=by omega
 have hGi : ¬ (G=i):=by omega
 have hGim : ¬ (G=i+1):=by omega
 have hci : ¬ (cap=i):=by omega
 have hw1:IntKind.i64.wrap ((i:Int)+1)=(i:Int)+1:=by rw [IntKind.wrap_i64];omega
 have hb1:(0:Int)≤(i:Int)+1:=by omega
 have htn:((i:Int)+1).toNat=i+1:=by omega
 have hin:i≤n:=by omega
 have hb3:(i:Int)≤(n:Int)+1:=by omega
 have hgl:g≤w.heap.size:=Nat.le_of_lt hgw
 clear hnn hl1 hl2 ht2 hC1 hC2 hdl htl hW1 hW2 hR hx hv hkk hik hold hROW hG hRs hRl hRt hx2 hOld
 go_enter Tryz.func64,Tryz.ntmps64
 go_wp2_with (first
  | (at_builtin;refine Lib.wpList_append_run _ rfl _ _ _ _ rfl _ _ rfl rfl _ _ (hrz _) ?_)
  | (at_builtin;refine wpList_copy_runI _ rfl _ _ 26 26 rfl _ _ rfl rfl (hcpA _ hE1 _ _) ?_))
 go_region_law (refine step_copy_runI rfl _ _ 26 26 rfl (.slice (some ⟨w.heap.size,(i+1)*2,none⟩) (n-i) (G-(i+1))) (.slice (some ⟨g,i*2,none⟩) (n-i) (cap-i)) (by simp [Act.eval,Act.put]) (by simp [Act.eval,Act.put]) (hcpB _ hF1 3 (G-(i+1)) (cap-i)) ?_)
 go_wp2_with fail
 go_ret
 obtain ⟨h1,h2⟩:=HFin.out (((w.alloc (.cells ROW 68)).drew.setRow w.heap.size C1.toArray).drew.setRow w.heap.size C2.toArray) rfl rfl rfl rfl
 exact ⟨w.heap.size,G,rfl,h1,hgl,h2⟩
theorem insert_any (g cap i vb:Nat) (xs:List EnL) (x:EnL) (w:World) (hn:xs.length≤3000) (hi:i≤xs.length) (hvb:vb≠g) (hR:RowE w g cap xs) (hx:PlTy w x.A x.c x.e.pl) (hv:OneE w vb x) :
  Calls Tryz.prog 64 #[.slice (some ⟨g,0,none⟩) xs.length cap,.int .i64 i,.slice (some ⟨vb,0,none⟩) 1 1] w fun e w'=>Inserted w g i xs x e w':=by
 rcases Nat.eq_or_lt_of_le hi with rfl | hlt
 ·exact insert_end g cap vb xs x w hn hR hx hv
 ·rcases Nat.lt_or_ge cap (xs.length+1) with hc | hc
  ·exact insert_grow g cap i vb xs x w hn hlt hc hR hx hv
  ·exact insert_shift g cap i vb xs x w hn hlt hc hvb hR hx hv
end Go.Proofs.YtbhanigcjdegjaaGreatDoor
