/-
  Rows of entries with one put in, one put anew, one taken out: cell by cell.
-/
import Derived.Shelf.Spec.SlicesInsertGrow
import Derived.Laws.OwnMore
import Derived.Test.YtigkeokacagabafGreatDoorShelfG
import Derived.Laws.Cover1
import Derived.LaidEql
import Derived.Stop.Asserts
import Derived.RowKitTokens
import Derived.Test.YtigkeokacagabafGreatDoorJYAW
namespace Go.Proofs.YtigkeokacagabafGreatDoor
open Go Go.ChangeShapes Go.WideShapes Go.ChangeAt Go.RowKit
set_option maxRecDepth 20000
theorem set_old {l:List En} {p:List Int} (h:hasE l p=true) (n:Int):setL l p n=l.set (cntE l p) ⟨(l.getD (cntE l p) noEn).pl,n⟩∧cntE l p<l.length∧(l.getD (cntE l p) noEn).pl=p:=by
 have hi:cntE l p<l.length:=by
  rcases Nat.lt_or_ge (cntE l p) l.length with h1 | h1
  ·exact h1
  ·rw [(has_out rfl h1).1] at h;cases h
 have h2:=has_cmp rfl hi
 rw [h] at h2
 have h3:(l.getD (cntE l p) noEn).pl=p:=by
  rcases cmpL_three (l.getD (cntE l p) noEn).pl p with ⟨e1,_⟩ | ⟨_,_,e3⟩ | ⟨e1,_⟩
  ·rw [e1] at h2;cases h2
  ·exact e3
  ·rw [e1] at h2;cases h2
 refine ⟨?_,hi,h3⟩
 unfold setL
 rw [h,h3,if_pos rfl,List.set_eq_take_append_cons_drop,if_pos hi]
end Go.Proofs.YtigkeokacagabafGreatDoor
namespace Go.Proofs.YtigkeokacagabafGreatDoor
open Go.ChangeShapes Go.WideShapes Go.ChangeAt Go.RowKit
set_option maxRecDepth 20000
theorem inO_short {D:Nat→Dm} {n:Nat} {L:List Int} (h:InO D n L):L.length≤4:=by rw [h.len];exact (allErr_some h.right).2.1
theorem keep3 {W w':World} {b b' o1 o2 o3:Nat} {u v z:Value} (h:b<W.heap.size∧b'<W.heap.size∧W.cell? ⟨b,o1,none⟩=some u∧W.cell? ⟨b,o2,none⟩=some v∧W.cell? ⟨b',o3,none⟩=some z) (hB:Below W.heap.size W w'):Below W.heap.size W w'∧w'.cell? ⟨b,o1,none⟩=some u∧w'.cell? ⟨b,o2,none⟩=some v∧w'.cell? ⟨b',o3,none⟩=some z :=
 ⟨hB,(hB.cell (p:=⟨b,o1,none⟩) h.1).trans h.2.2.1,(hB.cell (p:=⟨b,o2,none⟩) h.1).trans h.2.2.2.1,(hB.cell (p:=⟨b',o3,none⟩) h.2.1).trans h.2.2.2.2⟩
set_option maxHeartbeats 8000000 in
theorem icheck_any (A0:Option Addr) (cap n:Nat) (D:Nat→Dm) (A:Nat→Option Addr) (C:Nat→Nat) (AE:Option Addr) (ce:Nat) (xs:List EnL) (w:World) (hM:DimsV w A0 cap n D A C) (hE:EnsV w AE ce xs) :
  Calls Tryz.prog 45 #[.agg #[.slice A0 n cap],.slice AE xs.length ce] w fun r w'=>r=.returned (errV (entsErr D n (lE xs)))∧Below w.heap.size w w':=by
 have hB0:=ownOut_below w A0 n cap 42
 have h:=all_any A0 cap n D A C (ownOut w A0 n cap 42) (hM.later hB0)
 have HB0:Hid (Below w.heap.size w (ownOut w A0 n cap 42)):=hB0
 have HM:Hid (DimsV w A0 cap n D A C):=hM
 have HE:Hid (EnsV w AE ce xs):=hE
 generalize (allErr D n).1=x1 at h
 generalize (allErr D n).2.1=x2 at h
 clear hM hB0
 by_cases hR:(allErr D n).2.2=0
 ·have HR:Hid ((allErr D n).2.2=0):=hR
  have HV:Hid (entsErr D n (lE xs)=entFrom D n (qOf (lE xs) 0) ((lE xs).drop 0)):=ents_in _ hR
  rw [hR,errV_zero] at h
  obtain ⟨N,hN⟩:∃ N,xs.length=N:=⟨_,rfl⟩
  have HN:Hid (xs.length=N):=hN
  have hNb:(N:Int)≤9223372036854775807:=by have h1:=hE.1;have h2:=hE.2.1;omega
  rw [hN]
  clear hR hN hE
  go_enter Tryz.func45,Tryz.ntmps45
  go_wp2_with fail
  refine h.mono ?_
  rintro e w1 ⟨rfl,hb1⟩
  have hB:Below w.heap.size w w1:=onB HB0.out hb1
  have hz:w.heap.size<w1.heap.size:=by have:=hb1.size;rw [ownOut_size] at this;omega
  have h2:w1.cell? ⟨w.heap.size,0,none⟩=some (.slice A0 n cap):=(hb1.cell (p:=⟨w.heap.size,0,none⟩) (by show w.heap.size<_;rw [ownOut_size];omega)).trans (ownOut_at ..)
  have HM1:Hid (DimsV w1 A0 cap n D A C):=HM.out.later hB
  have HE1:Hid (EnsV w1 AE ce xs):=HE.out.later hB
  have HB:Hid (Below w.heap.size w w1):=hB
  clear hb1 h hB HM HE HB0
  go_wp2_with fail
  go_loopg [22] N (fun g s22 wr => ∃ (k:Nat),k≤N∧g=N-k∧s22=.int .i64 k∧Hid (entFrom D n (qOf (lE xs) k) ((lE xs).drop k)=entFrom D n (qOf (lE xs) 0) ((lE xs).drop 0))∧Hid (∀ j,j<k→entOne D n ((lE xs).getD j noEn)=0)∧Below w1.heap.size w1 wr)
  case atStart=>exact ⟨0,Nat.zero_le _,rfl,rfl,(rfl:entFrom D n (qOf (lE xs) 0) ((lE xs).drop 0)=entFrom D n (qOf (lE xs) 0) ((lE xs).drop 0)),fun j hj=>absurd hj (Nat.not_lt_zero _),Below.refl _ _⟩
  case round =>
   obtain ⟨k,hk,rfl,rfl,HF,HO,hBw⟩:=hrel
   have HBw:Hid (Below w1.heap.size w1 wr):=hBw
   by_cases hlt:k<N
   ·have hkx:k<xs.length:=by rw [HN.out];exact hlt
    have hki:(k:Int)<(N:Int):=by omega
    have hk1:(k:Int)+1≤9223372036854775807:=by omega
    obtain ⟨-,-,h0 | ⟨b,o,rfl,hEs⟩⟩:=HE1.out.later hBw
    ·have:=HN.out;rw [h0] at this;simp at this;omega
    obtain ⟨c1,c2⟩:=hEs.at hkx
    have hpl:=hEs.pl hkx
    have c0:wr.cell? ⟨w.heap.size,0,none⟩=some (.slice A0 n cap):=(hBw.cell (p:=⟨w.heap.size,0,none⟩) hz).trans h2
    have hzr:w.heap.size<wr.heap.size:=Nat.lt_of_lt_of_le hz hBw.size
    have hBo:=ownEn_below wr (xs.getD k noL).A (xs.getD k noL).e.pl.length (xs.getD k noL).c (xs.getD k noL).e.n 57
    have hck:=icheck1_any A0 cap n D A C (xs.getD k noL).A (xs.getD k noL).c (xs.getD k noL).e (ownEn wr (xs.getD k noL).A (xs.getD k noL).e.pl.length (xs.getD k noL).c (xs.getD k noL).e.n 57) HR.out ((HM1.out.later hBw).later hBo) (hpl.later hBo)
    have HBo:Hid (Below wr.heap.size wr (ownEn wr (xs.getD k noL).A (xs.getD k noL).e.pl.length (xs.getD k noL).c (xs.getD k noL).e.n 57)):=hBo
    have HEs:Hid (EnsAt wr b o xs):=hEs
    have HPL:Hid (PlAt wr (xs.getD k noL).A (xs.getD k noL).c (xs.getD k noL).e.pl):=hpl
    have H0:Hid ((ownEn wr (xs.getD k noL).A (xs.getD k noL).e.pl.length (xs.getD k noL).c (xs.getD k noL).e.n 57).cell? ⟨wr.heap.size,0,none⟩=some (.slice (xs.getD k noL).A (xs.getD k noL).e.pl.length (xs.getD k noL).c)):=ownEn_0 ..
    have HS:Hid (wr.heap.size<(ownEn wr (xs.getD k noL).A (xs.getD k noL).e.pl.length (xs.getD k noL).c (xs.getD k noL).e.n 57).heap.size):=by show _<_;rw [ownEn_size];omega
    clear hBw hEs hpl hBo
    by_cases he:entOne D n (xs.getD k noL).e=0
    ·have hKO:=entOne_right HR.out he
     have HK0:Hid (entOne D n ((lE xs).getD k noEn)=0):=by show _=_;rw [lE_at];exact he
     have HSh:Hid ((xs.getD k noL).e.pl.length≤4):=inO_short hKO.1
     rw [he,errV_zero] at hck
     clear he hKO
     rcases Nat.eq_zero_or_pos k with hk0 | hk0
     ·subst hk0
      have HQ:Hid (aheadOk (qOf (lE xs) 0) ((lE xs).getD 0 noEn).pl=true):=rfl
      have HST:Hid (entFrom D n (qOf (lE xs) 0) ((lE xs).drop 0)=entFrom D n (qOf (lE xs) (0+1)) ((lE xs).drop (0+1))):=ent_on (by rw [lE_len];exact hkx) HK0.out HQ.out
      generalize (xs.getD 0 noL).A=A1 at c1 hck HBo H0 HS
      generalize (xs.getD 0 noL).c=k1 at c1 hck HBo H0 HS
      generalize (xs.getD 0 noL).e.n=n1 at c2 hck HBo H0 HS
      generalize (xs.getD 0 noL).e.pl.length=m1 at c1 hck HBo H0 HS
      simp only [Nat.zero_mul,Nat.add_zero] at c1 c2
      clear HPL HSh
      go_wp2_with fail
      refine hck.mono ?_
      rintro e w2 ⟨rfl,hb2⟩
      have HB2:Hid (Below wr.heap.size wr w2):=onB HBo.out hb2
      clear hb2
      go_wp2_with fail
      go_quiet (fail)
      go_wp2_with fail
      go_roundg (N-(0+1))
      case measure=>omega
      case rel =>
       refine ⟨0+1,by omega,rfl,by go_num,HST.out.symm,fun j hj=>?_,below_drewN (onB HBw.out HB2.out) _⟩
       have:j=0:=by omega
       subst this
       exact HK0.out
     ·obtain ⟨j,hj⟩:∃ j,k=j+1:=⟨k-1,by omega⟩
      have hjx:j<xs.length:=by omega
      obtain ⟨d1,d2⟩:=HEs.out.at hjx
      have hjO:=entOne_right HR.out (HO.out j (by omega))
      rw [lE_at] at hjO
      have HJ:Hid (∀ w',Below wr.heap.size wr w'→Calls Tryz.prog 84 #[.agg #[.slice (xs.getD j noL).A (xs.getD j noL).e.pl.length (xs.getD j noL).c,.int .i64 (xs.getD j noL).e.n],.slice (xs.getD k noL).A (xs.getD k noL).e.pl.length (xs.getD k noL).c] w' fun e w''=>e=.returned (.int .i64 (cmpL (xs.getD j noL).e.pl (xs.getD k noL).e.pl))∧Below w'.heap.size w' w''):=fun w' hw'=>order_any _ _ _ _ _ _ _ w' (inO_short hjO.1) HSh.out ((HEs.out.pl hjx).later hw') (HPL.out.later hw')
      have HCN:Hid (decide (0≤cmpL (xs.getD j noL).e.pl (xs.getD k noL).e.pl) = !lessL (xs.getD j noL).e.pl (xs.getD k noL).e.pl):=cmpL_nonneg (xs.getD j noL).e.pl (xs.getD k noL).e.pl
      have HQ:Hid (aheadOk (qOf (lE xs) k) ((lE xs).getD k noEn).pl=lessL (xs.getD j noL).e.pl (xs.getD k noL).e.pl):=by show _=_;rw [←lE_at,←lE_at,hj];rfl
      have hwr:IntKind.i64.wrap ((k:Int)-1)=(j:Int):=by rw [IntKind.wrap_i64];omega
      have hj0:(0:Int)<(k:Int):=by omega
      have HKJ:Hid (k=j+1):=hj
      have hjN:(j:Int)<(N:Int):=by omega
      generalize (xs.getD k noL).A=A1 at c1 hck HBo H0 HS HJ
      generalize (xs.getD k noL).c=k1 at c1 hck HBo H0 HS HJ
      generalize (xs.getD k noL).e.n=n1 at c2 hck HBo H0 HS
      generalize (xs.getD k noL).e.pl.length=m1 at c1 hck HBo H0 HS HJ
      generalize (xs.getD j noL).A=A2 at d1 HJ
      generalize (xs.getD j noL).c=k2 at d1 HJ
      generalize (xs.getD j noL).e.n=n2 at d2 HJ
      generalize (xs.getD j noL).e.pl.length=m2 at d1 HJ
      generalize cmpL (xs.getD j noL).e.pl (xs.getD k noL).e.pl=cc at HJ HCN
      have hbb:=HEs.out.1
      clear HPL HSh hjO hj
      go_wp2_with fail
      refine hck.mono ?_
      rintro e w2 ⟨rfl,hb2⟩
      have hB2:Below wr.heap.size wr w2:=onB HBo.out hb2
      have HB2:Hid (Below wr.heap.size wr w2):=hB2
      have e1:w2.cell? ⟨b,o+j*2,none⟩=some (.slice A2 m2 k2):=(hB2.cell (p:=⟨b,o+j*2,none⟩) hbb).trans d1
      have e2:w2.cell? ⟨b,o+j*2+1,none⟩=some (.int .i64 n2):=(hB2.cell (p:=⟨b,o+j*2+1,none⟩) hbb).trans d2
      have e3:w2.cell? ⟨wr.heap.size,0,none⟩=some (.slice A1 m1 k1):=(hb2.cell (p:=⟨wr.heap.size,0,none⟩) HS.out).trans H0.out
      have hz2:wr.heap.size<w2.heap.size:=Nat.lt_of_lt_of_le HS.out hb2.size
      clear hb2 hB2 c1 c2 d1 d2
      have HC3:Hid (b<w2.heap.size∧wr.heap.size<w2.heap.size∧w2.cell? ⟨b,o+j*2,none⟩=some (.slice A2 m2 k2)∧w2.cell? ⟨b,o+j*2+1,none⟩=some (.int .i64 n2)∧w2.cell? ⟨wr.heap.size,0,none⟩=some (.slice A1 m1 k1)):=⟨Nat.lt_of_lt_of_le hbb HB2.out.size,hz2,e1,e2,e3⟩
      go_wp2_with fail
      go_cut [45] (fun s45 wx=>s45=.bool (decide (0≤cc))∧Below w2.heap.size w2 wx)
      case first =>
       go_region_held3 (fun w'=>Below w2.heap.size w2 w'∧w'.cell? ⟨b,o+j*2,none⟩=some (.slice A2 m2 k2)∧w'.cell? ⟨b,o+j*2+1,none⟩=some (.int .i64 n2)∧w'.cell? ⟨wr.heap.size,0,none⟩=some (.slice A1 m1 k1))
        ((refine keep3 HC3.out ?_;go_grown;done))
        (first | (go_at_call 84;refine (HJ.out _ (onB HB2.out (by go_grown))).mono ?_;rintro e w3 ⟨rfl,hb3⟩;have hN3:=onB (W0:=w2) (by go_grown) hb3;have hy3:=hN3.size;clear hb3))
       all_goals go_wp2_with fail
       all_goals go_meet
       all_goals exact ⟨rfl,by go_grown⟩
      case rest =>
       obtain ⟨rfl,hb3⟩:=hcut
       have HB3:Hid (Below w2.heap.size w2 wc):=hb3
       clear hb3 e1 e2 e3 HC3 HJ hz2 hwr hjN
       obtain ⟨tC,htC⟩:∃ t,decide (0≤cc)=t:=⟨_,rfl⟩
       rw [htC]
       have HTC:Hid (decide (0≤cc)=tC):=htC
       clear htC hk0 hj0 hbb hzr c0
       cases tC
       case true =>
        have HST:Hid (errV (entsErr D n (lE xs))=.iface 77 (.int .i64 7)):=by
         show _=_
         have h3:=HCN.out
         rw [HTC.out] at h3
         rw [HV.out,←HF.out,ent_clash (by rw [lE_len];exact hkx) HK0.out (by rw [HQ.out];simpa using h3)];rfl
        go_wp2_with fail
        go_ret
        rw [HST.out]
        exact ⟨rfl,onB HB.out (onB HBw.out (onB HB2.out HB3.out))⟩
       case false =>
        have HST:Hid (entFrom D n (qOf (lE xs) k) ((lE xs).drop k)=entFrom D n (qOf (lE xs) (k+1)) ((lE xs).drop (k+1))):=by
         show _=_
         have h3:=HCN.out
         rw [HTC.out] at h3
         exact ent_on (by rw [lE_len];exact hkx) HK0.out (by rw [HQ.out];simpa using h3)
        go_wp2_with fail
        go_roundg (N-(k+1))
        case measure=>omega
        case rel =>
         refine ⟨k+1,by omega,rfl,by go_num,HST.out.symm.trans HF.out,fun i hi=>?_,onB HBw.out (onB HB2.out HB3.out)⟩
         rcases Nat.lt_succ_iff_lt_or_eq.1 hi with h1 | rfl
         ·exact HO.out i h1
         ·exact HK0.out
    ·have HFin:Hid (errV (entsErr D n (lE xs))=.iface 77 (.int .i64 (entOne D n (xs.getD k noL).e))):=by
      show _=_
      rw [HV.out,←HF.out,ent_bad (by rw [lE_len];exact hkx) (by rw [lE_at];exact he),lE_at,errV_some he]
     rw [errV_some he] at hck
     generalize entOne D n (xs.getD k noL).e=E at hck HFin
     generalize (xs.getD k noL).A=A1 at c1 hck HBo H0 HS
     generalize (xs.getD k noL).c=k1 at c1 hck HBo H0 HS
     generalize (xs.getD k noL).e.n=n1 at c2 hck HBo H0 HS
     generalize (xs.getD k noL).e.pl.length=m1 at c1 hck HBo H0 HS
     clear HPL he
     go_wp2_with fail
     refine hck.mono ?_
     rintro e w2 ⟨rfl,hb2⟩
     have HB2:Hid (Below wr.heap.size wr w2):=onB HBo.out hb2
     clear hb2
     go_wp2_with fail
     go_ret
     rw [HFin.out]
     exact ⟨rfl,onB HB.out (onB HBw.out HB2.out)⟩
   ·have hke:k=N:=by omega
    subst hke
    have HFin:Hid (errV (entsErr D n (lE xs))=.nilIface):=by show _=_;rw [HV.out,←HF.out,ent_end (by rw [lE_len,HN.out];exact Nat.le_refl _)];rfl
    clear hBw
    go_wp2_with fail
    go_ret
    rw [HFin.out]
    exact ⟨rfl,onB HB.out HBw.out⟩
 ·have HV:Hid (errV (entsErr D n (lE xs))=.iface 77 (.int .i64 (allErr D n).2.2)):=by show _=_;rw [ents_bad _ hR,errV_some hR]
  rw [errV_some hR] at h
  generalize (allErr D n).2.2=E at h HV
  generalize xs.length=N
  clear hR hE HM HE
  go_enter Tryz.func45,Tryz.ntmps45
  go_wp2_with fail
  refine h.mono ?_
  rintro e w1 ⟨rfl,hb1⟩
  go_wp2_with fail
  go_ret
  rw [HV.out]
  exact ⟨rfl,onB HB0.out hb1⟩
end Go.Proofs.YtigkeokacagabafGreatDoor
namespace Go.Proofs.YtigkeokacagabafGreatDoor
open Go.ChangeShapes Go.WideShapes Go.ChangeAt Go.RowKit Go.Lib
set_option maxRecDepth 20000
theorem clr_in {l:List En} {p:List Int} (h:hasE l p=true):cntE l p<l.length:=(set_old h 0).2.1
end Go.Proofs.YtigkeokacagabafGreatDoor
namespace Go.Proofs.YtigkeokacagabafGreatDoor
open Go.ChangeShapes Go.WideShapes Go.ChangeAt Go.RowKit
set_option maxRecDepth 20000
set_option maxHeartbeats 2000000 in
theorem rless_any (A B:Option Addr) (ca cb:Nat) (a b:List Int) (w:World) (ha:a.length≤4) (hb:b.length≤4) (hA:PlAt w A ca a) (hB:PlAt w B cb b):Calls Tryz.prog 65 #[.slice A a.length ca,.slice B b.length cb] w fun e w'=>e=.returned (.bool (lessL a b))∧Below w.heap.size w w':=by
 have HA:Hid (PlAt w A ca a):=hA
 have HB:Hid (PlAt w B cb b):=hB
 have HN:Hid (∀ k,k<a.length→k<b.length→lessL (a.drop k) (b.drop k)=if a.getD k 0=b.getD k 0 then lessL (a.drop (k+1)) (b.drop (k+1)) else decide (a.getD k 0<b.getD k 0)):=fun k h1 h2=>lessL_in h1 h2
 have HL:Hid (∀ k,b.length≤k→lessL (a.drop k) (b.drop k)=false):=fun k h2=>lessL_long h2
 have HS:Hid (∀ k,a.length≤k→k<b.length→lessL (a.drop k) (b.drop k)=true):=fun k h1 h2=>lessL_short h1 h2
 obtain ⟨na,hna⟩:∃ na,a.length=na:=⟨_,rfl⟩
 obtain ⟨nb,hnb⟩:∃ nb,b.length=nb:=⟨_,rfl⟩
 have HNA:Hid (a.length=na):=hna
 have HNB:Hid (b.length=nb):=hnb
 rw [hna] at HN HS ha
 rw [hnb] at HN HL HS hb
 rw [hna,hnb]
 have ha':(na:Int)≤4:=by omega
 have hb':(nb:Int)≤4:=by omega
 clear hA hB hna hnb
 go_enter Tryz.func65,Tryz.ntmps65
 go_wp2_with fail
 go_loopg [5] na (fun g s5 wr => ∃ (k:Nat),k≤na∧k≤nb∧g=na-k∧s5=.int .i64 k∧Hid (lessL (a.drop k) (b.drop k)=lessL a b)∧Below w.heap.size w wr)
 case atStart=>exact ⟨0,Nat.zero_le _,Nat.zero_le _,rfl,rfl,(rfl:lessL (a.drop 0) (b.drop 0)=lessL a b),Below.refl _ _⟩
 case round =>
  obtain ⟨k,hk,hk2,rfl,rfl,HF,hBw⟩:=hrel
  have HBw:Hid (Below w.heap.size w wr):=hBw
  by_cases hlt:k<na
  ·have hki:(k:Int)<(na:Int):=by omega
   by_cases hlb:k<nb
   ·obtain ⟨hc,h0 | ⟨g1,o1,rfl,hbw,hcell⟩⟩:=HA.out.later hBw
    ·have:=HNA.out;rw [h0] at this;simp at this;omega
    obtain ⟨hc',h0 | ⟨g2,o2,rfl,hbw2,hcell2⟩⟩:=HB.out.later hBw
    ·have:=HNB.out;rw [h0] at this;simp at this;omega
    have x1:=hcell k (by rw [HNA.out];exact hlt)
    have x2:=hcell2 k (by rw [HNB.out];exact hlb)
    have hkb:(k:Int)<(nb:Int):=by omega
    have hst:=HN.out k hlt hlb
    generalize a.getD k 0=x at x1 hst
    generalize b.getD k 0=y at x2 hst
    clear hcell hcell2 hBw
    by_cases hxy:x=y
    ·have HR:Hid (lessL (a.drop (k+1)) (b.drop (k+1))=lessL a b):=by show _=_;rw [←HF.out,hst,if_pos hxy]
     subst hxy
     clear hst
     go_wp2_with fail
     go_quiet (fail)
     go_wp2_with fail
     go_roundg (na-(k+1))
     case measure=>omega
     case rel=>exact ⟨k+1,by omega,by omega,rfl,by go_num,HR,below_drewN HBw.out _⟩
    ·have HR:Hid (lessL a b=decide (x<y)):=by show _=_;rw [←HF.out,hst,if_neg hxy]
     clear hst
     go_wp2_with fail
     go_quiet (fail)
     go_wp2_with fail
     go_quiet (fail)
     go_wp2_with fail
     go_ret
     rw [HR.out]
     exact ⟨rfl,below_drewN (below_drewN HBw.out _) _⟩
   ·have HR:Hid (lessL a b=false):=by show _=_;rw [←HF.out,HL.out k (by omega)]
    have hkb:(nb:Int)≤(k:Int):=by omega
    have hnn:decide ((na:Int)<(nb:Int))=false:=decide_eq_false (by omega)
    have hnn':decide (na<nb)=false:=decide_eq_false (by omega)
    clear hBw
    go_wp2_with fail
    go_ret
    rw [HR.out]
    exact ⟨rfl,HBw.out⟩
  ·have hke:k=na:=by omega
   subst hke
   by_cases hlb:k<nb
   ·have HR:Hid (lessL a b=true):=by show _=_;rw [←HF.out,HS.out k (Nat.le_refl _) hlb]
    have hkb:(k:Int)<(nb:Int):=by omega
    clear hBw
    go_wp2_with fail
    go_ret
    rw [HR.out]
    exact ⟨rfl,HBw.out⟩
   ·have HR:Hid (lessL a b=false):=by show _=_;rw [←HF.out,HL.out k (by omega)]
    have hkb:(nb:Int)≤(k:Int):=by omega
    clear hBw
    go_wp2_with fail
    go_ret
    rw [HR.out]
    exact ⟨rfl,HBw.out⟩
set_option maxHeartbeats 4000000 in
theorem rfind_any (A:Option Addr) (cap:Nat) (xs:List EnL) (Ap:Option Addr) (cp:Nat) (p:List Int) (w:World) (hn:xs.length≤3000) (hE:EnsV w A cap xs) (hS:Short xs p) (hP:PlAt w Ap cp p) :
  Calls Tryz.prog 109 #[.slice A xs.length cap,.slice Ap p.length cp] w fun e w'=>e=.returned (.tuple #[.int .i64 (cntE (lE xs) p:Nat),.bool (hasE (lE xs) p)])∧Below w.heap.size w w':=by
 have HE:Hid (EnsV w A cap xs):=hE
 have HLs:Hid (∀ k w',k<xs.length→Below w.heap.size w w'→Calls Tryz.prog 65 #[.slice (xs.getD k noL).A (xs.getD k noL).e.pl.length (xs.getD k noL).c,.slice Ap p.length cp] w' fun e w''=>e=.returned (.bool (lessL (xs.getD k noL).e.pl p))∧Below w'.heap.size w' w''):=fun k w' hk hw'=>by
  obtain ⟨-,-,h0 | ⟨b,o,h0,hA⟩⟩:=hE.later hw'
  ·rw [h0] at hk;simp at hk
  ·exact rless_any _ _ _ _ _ _ w' (hS.1 k hk) hS.2 (hA.pl hk) (hP.later hw')
 have HLb:Hid (∀ k w',k<xs.length→Below w.heap.size w w'→Calls Tryz.prog 65 #[.slice Ap p.length cp,.slice (xs.getD k noL).A (xs.getD k noL).e.pl.length (xs.getD k noL).c] w' fun e w''=>e=.returned (.bool (lessL p (xs.getD k noL).e.pl))∧Below w'.heap.size w' w''):=fun k w' hk hw'=>by
  obtain ⟨-,-,h0 | ⟨b,o,h0,hA⟩⟩:=hE.later hw'
  ·rw [h0] at hk;simp at hk
  ·exact rless_any _ _ _ _ _ _ w' hS.2 (hS.1 k hk) (hP.later hw') (hA.pl hk)
 have HC:Hid (∀ i,i≤xs.length→(∀ t,t<i→lessL (xs.getD t noL).e.pl p=true)→(i<xs.length→lessL (xs.getD i noL).e.pl p=false)→cntE (lE xs) p=i):=fun i hi h1 h2=>cnt_at _ _ i (by rw [lE_len];exact hi) (fun t ht=>by rw [lE_at];exact h1 t ht) (fun h3=>by rw [lE_len] at h3;rw [lE_at];exact h2 h3)
 have HH:Hid (∀ i,cntE (lE xs) p=i→i<xs.length→hasE (lE xs) p = !lessL p (xs.getD i noL).e.pl):=fun i h1 h2=>by rw [←lE_at];exact (has_in h1 (by rw [lE_len];exact h2)).1
 have HH2:Hid (∀ i,cntE (lE xs) p=i→xs.length≤i→hasE (lE xs) p=false):=fun i h1 h2=>(has_out h1 (by rw [lE_len];exact h2)).1
 obtain ⟨n,hnn⟩:∃ n,xs.length=n:=⟨_,rfl⟩
 obtain ⟨np,hnp⟩:∃ np,p.length=np:=⟨_,rfl⟩
 have HN:Hid (xs.length=n):=hnn
 rw [hnn] at hn HLs HLb HC HH HH2 ⊢
 rw [hnp] at HLs HLb ⊢
 generalize cntE (lE xs) p=cnt at HC HH HH2
 generalize hasE (lE xs) p=has at HH HH2
 have hn':(n:Int)≤3000:=by omega
 clear hE hS hP hnn hnp
 go_enter Tryz.func109,Tryz.ntmps109
 go_wp2_with fail
 go_loopg [6] n (fun g s6 wr => ∃ (k:Nat),k≤n∧g=n-k∧s6=.int .i64 k∧Hid (∀ t,t<k→lessL (xs.getD t noL).e.pl p=true)∧Below w.heap.size w wr)
 case atStart=>exact ⟨0,Nat.zero_le _,rfl,rfl,fun t ht=>absurd ht (Nat.not_lt_zero _),Below.refl _ _⟩
 case round =>
  obtain ⟨k,hk,rfl,rfl,HLt,hBw⟩:=hrel
  have HBw:Hid (Below w.heap.size w wr):=hBw
  by_cases hlt:k<n
  ·obtain ⟨-,-,h0 | ⟨b,o,rfl,hA⟩⟩:=HE.out.later hBw
   ·have:=HN.out;rw [h0] at this;simp at this;omega
   obtain ⟨c1,-⟩:=hA.at (k:=k) (by rw [HN.out];exact hlt)
   have h1:=HLs.out k wr hlt hBw
   have HLk:Hid (∀ w',Below w.heap.size w w'→Calls Tryz.prog 65 #[.slice Ap np cp,.slice (xs.getD k noL).A (xs.getD k noL).e.pl.length (xs.getD k noL).c] w' fun e w''=>e=.returned (.bool (lessL p (xs.getD k noL).e.pl))∧Below w'.heap.size w' w''):=fun w' hw'=>HLb.out k w' hlt hw'
   have hki:(k:Int)<(n:Int):=by omega
   have hbb:=hA.1
   cases hl:lessL (xs.getD k noL).e.pl p
   ·have HCN:Hid (cnt=k):=HC.out k hk HLt.out (fun _=>hl)
    have HHI:Hid (has = !lessL p (xs.getD k noL).e.pl):=HH.out k HCN.out hlt
    rw [hl] at h1
    generalize lessL p (xs.getD k noL).e.pl=bk at HLk HHI
    generalize (xs.getD k noL).A=A1 at c1 h1 HLk
    generalize (xs.getD k noL).c=k1 at c1 h1 HLk
    generalize (xs.getD k noL).e.pl.length=m1 at c1 h1 HLk
    have hne:((k:Int) == (n:Int))=false:=by simp;omega
    clear hl hA hBw
    go_wp2_with fail
    refine h1.mono ?_
    rintro e w1 ⟨rfl,hb1⟩
    have hB1:Below w.heap.size w w1:=onB HBw.out hb1
    have HB1:Hid (Below w.heap.size w w1):=hB1
    have d1:w1.cell? ⟨b,o+k*2,none⟩=some (.slice A1 m1 k1):=(hb1.cell (p:=⟨b,o+k*2,none⟩) hbb).trans c1
    have h2:=HLk.out w1 hB1
    clear hb1 h1 c1 hB1
    go_wp2_with fail
    refine h2.mono ?_
    rintro e w2 ⟨rfl,hb2⟩
    have HB2:Hid (Below w.heap.size w w2):=onB HB1.out hb2
    clear hb2 h2 d1
    go_wp2_with fail
    go_ret2
    rw [HCN.out,HHI.out]
    exact ⟨rfl,HB2.out⟩
   ·have HT:Hid (∀ t,t<k+1→lessL (xs.getD t noL).e.pl p=true):=fun t ht=>by
     rcases Nat.lt_succ_iff_lt_or_eq.1 ht with h2 | rfl
     ·exact HLt.out t h2
     ·exact hl
    rw [hl] at h1
    generalize (xs.getD k noL).A=A1 at c1 h1
    generalize (xs.getD k noL).c=k1 at c1 h1
    generalize (xs.getD k noL).e.pl.length=m1 at c1 h1
    clear hl hA hBw HLk
    go_wp2_with fail
    refine h1.mono ?_
    rintro e w1 ⟨rfl,hb1⟩
    have HB1:Hid (Below w.heap.size w w1):=onB HBw.out hb1
    clear hb1 h1 c1
    go_wp2_with fail
    go_roundg (n-(k+1))
    case measure=>omega
    case rel=>exact ⟨k+1,by omega,rfl,by go_num,HT,HB1.out⟩
  ·have hke:k=n:=by omega
   subst hke
   have HCN:Hid (cnt=k):=HC.out k hk HLt.out (fun h=>absurd h (Nat.lt_irrefl _))
   have HHI:Hid (has=false):=HH2.out k HCN.out (Nat.le_refl _)
   go_wp2_with fail
   go_ret2
   rw [HCN.out,HHI.out]
   exact ⟨rfl,hBw⟩
def NmV (w:World) (A:Option Addr) (c:Nat) (N:List ByteArray):Prop:=N.length≤c∧N.length<4611686018427387904∧c≤9223372036854775807∧(N=[]∨∃ b o,A=some ⟨b,o,none⟩∧b<w.heap.size∧∀ j,j<N.length→w.cell? ⟨b,o+j,none⟩=some (.string (N.getD j noS)))
theorem NmV.later {w w':World} {A:Option Addr} {c:Nat} {N:List ByteArray} (h:NmV w A c N) (hB:Below w.heap.size w w'):NmV w' A c N:=by
 obtain ⟨h1,h2,h3,h4 | ⟨b,o,h4,h5,h6⟩⟩:=h
 ·exact ⟨h1,h2,h3,Or.inl h4⟩
 ·exact ⟨h1,h2,h3,Or.inr ⟨b,o,h4,Nat.lt_of_lt_of_le h5 hB.size,fun j hj=>(hB.cell (p:=⟨b,o+j,none⟩) h5).trans (h6 j hj)⟩⟩
set_option maxHeartbeats 4000000 in
theorem rkcheck_any (An:Option Addr) (cn:Nat) (N:List ByteArray) (Ac:Option Addr) (cc:Nat) (C:List (Int×Int)) (w:World) (hN:NmV w An cn N) (hC:CelV w Ac cc C) :
  Calls Tryz.prog 171 #[.slice An N.length cn,.slice Ac C.length cc] w fun e w'=>e=.returned (errV (ckErr N C))∧Below w.heap.size w w':=by
 by_cases hne:C.length=N.length
 case neg =>
  have hb:((C.length:Int) != (N.length:Int))=true:=by simp;omega
  rw [ck_shape hne,errV_some (by decide)]
  clear hne hN hC
  go_enter Tryz.func171,Tryz.ntmps171
  go_wp2_with fail
  go_ret
  exact ⟨rfl,Below.refl _ _⟩
 obtain ⟨-,hN2,-,hN4⟩:=hN
 obtain ⟨-,-,hC3⟩:=hC
 obtain ⟨n,hn⟩:∃ n,N.length=n:=⟨_,rfl⟩
 have HNL:Hid (N.length=n):=hn
 have HCL:Hid (C.length=n):=hne.trans hn
 rw [hne,hn]
 rw [hn] at hN2 
 by_cases h0:n=0
 ·subst h0
  rw [ck_good (N:=N) (C:=C) hne (fun j hj=>by have:=HCL.out;omega) (fun j _ hj=>by omega),errV_zero]
  clear hN4 hC3 hne hn hN2
  go_enter Tryz.func171,Tryz.ntmps171
  go_wp2_with fail
  refine wp_loop_rounds 1 ?_
  rw [rounds_succ]
  go_wp2_with fail
  refine wp_loop_rounds 1 ?_
  rw [rounds_succ]
  go_wp2_with fail
  go_ret
  exact ⟨rfl,Below.refl _ _⟩
 obtain ⟨b,o,rfl,hCA⟩:=hC3.resolve_left (fun e=>by rw [e] at hne;simp at hne;omega)
 obtain ⟨bn,on,rfl,hNb,hNA⟩:=hN4.resolve_left (fun e=>by rw [e] at hn;simp at hn;omega)
 have HC:Hid (CelAt w b o C):=hCA
 have HN:Hid (∀ j,j<N.length→w.cell? ⟨bn,on+j,none⟩=some (.string (N.getD j noS))):=hNA
 have hni:(n:Int)<4611686018427387904:=by omega
 have hn0:0<(n:Int):=by omega
 clear hne hn hCA hNA hN2
 go_enter Tryz.func171,Tryz.ntmps171
 go_wp2_with fail
 go_loopg [17] n (fun g s17 wr => ∃ (k:Nat),k≤n∧g=n-k∧s17=.int .i64 k∧(∀ j,j<k→goodB C j=false)∧Below w.heap.size w wr)
 case atStart=>exact ⟨0,Nat.zero_le _,rfl,rfl,fun j hj=>absurd hj (Nat.not_lt_zero j),Below.refl _ _⟩
 case round =>
  obtain ⟨k,hk,rfl,rfl,hbd,hBw⟩:=hrel
  have HBd:Hid (∀ j,j<k→goodB C j=false):=hbd
  have HW:Hid (Below w.heap.size w wr):=hBw
  have hbl:b<w.heap.size:=HC.out.1
  have hsz:=hBw.size
  clear hbd hBw
  by_cases hlt:k<n
  ·have hki:(k:Int)<(n:Int):=by omega
   obtain ⟨x0,x1⟩:=(HC.out.later HW.out).2 k (by rw [HCL.out];exact hlt)
   have hck:=check_any (C.getD k noC).1 (C.getD k noC).2
   obtain ⟨kk,hkk⟩:∃ kk,(C.getD k noC).1=kk:=⟨_,rfl⟩
   obtain ⟨nn,hnn⟩:∃ nn,(C.getD k noC).2=nn:=⟨_,rfl⟩
   have HG:Hid (goodB C k = !(good kk nn)):=by show _=_;unfold goodB;rw [hkk,hnn]
   rw [hkk] at x0 hck
   rw [hnn] at x1 hck
   clear hkk hnn
   cases hg:good kk nn
   ·rw [hg] at hck
    have HF:Hid (ckErr N C=1):=ck_cell (by rw [HCL.out,HNL.out]) (i:=k) (by rw [HCL.out];exact hlt) (by rw [HG.out,hg];rfl)
    rw [if_neg (by decide)] at hck
    clear hg
    go_wp2_with fail
    refine (hck _).mono ?_
    rintro e w1 ⟨rfl,hb1⟩
    have HB1:Hid (Below w.heap.size w w1):=onB HW.out (onB (by go_grown) hb1)
    clear hb1 hck
    go_wp2_with fail
    go_ret
    exact ⟨by rw [HF.out];rfl,HB1.out⟩
   ·rw [hg,if_pos rfl] at hck
    have HGd:Hid (goodB C k=false):=by show _=_;rw [HG.out,hg];rfl
    clear hg
    go_wp2_with fail
    refine (hck _).mono ?_
    rintro e w1 ⟨rfl,hb1⟩
    have HB1:Hid (Below w.heap.size w w1):=onB HW.out (onB (by go_grown) hb1)
    clear hb1 hck
    go_wp2_with fail
    go_roundg (n-(k+1))
    case measure=>omega
    case rel=>exact ⟨k+1,by omega,rfl,by go_num,fun j hj=>by rcases Nat.lt_succ_iff_lt_or_eq.1 hj with h | h;exact HBd.out j h;rw [h];exact HGd.out,HB1.out⟩
  ·have hke:k=n:=by omega
   subst hke
   have HAll:Hid (∀ j,j<C.length→goodB C j=false):=fun j hj=>HBd.out j (by have:=HCL.out;omega)
   go_wp2_with fail
   go_loopg [8] k (fun g s8 ws => ∃ (i:Nat),i<k∧g=k-i∧s8=.int .i64 ((i:Int)+1)∧(∀ j,1≤j→j<i+1→downS N j=false)∧Below w.heap.size w ws)
   case atStart=>exact ⟨0,by omega,rfl,rfl,fun j h1 h2=>by omega,HW.out⟩
   case round =>
    obtain ⟨i,hi,rfl,rfl,hbd,hBw⟩:=hrel
    have HDn:Hid (∀ j,1≤j→j<i+1→downS N j=false):=hbd
    have HV:Hid (Below w.heap.size w wr):=hBw
    clear hbd
    by_cases hlt2:i+1<k
    ·have hki:(i:Int)+1<(k:Int):=by omega
     have c1:=(hBw.cell (p:=⟨bn,on+(i+1),none⟩) hNb).trans (HN.out (i+1) (by rw [HNL.out];exact hlt2))
     have c0:=(hBw.cell (p:=⟨bn,on+i,none⟩) hNb).trans (HN.out i (by rw [HNL.out];omega))
     obtain ⟨x,hx⟩:∃ x,N.getD (i+1) noS=x:=⟨_,rfl⟩
     obtain ⟨y,hy⟩:∃ y,N.getD i noS=y:=⟨_,rfl⟩
     have HD:Hid (downS N (i+1)=(Op.bytesLess x.toList y.toList || x.toList == y.toList)):=by show _=_;unfold downS;rw [hx,Nat.add_sub_cancel,hy]
     rw [hx] at c1
     rw [hy] at c0
     have hsub:(i:Int)+1-1=(i:Int):=by omega
     have hto:((i:Int)+1).toNat=i+1:=by omega
     clear hx hy hBw
     cases ht:(Op.bytesLess x.toList y.toList || x.toList == y.toList)
     ·have HDF:Hid (downS N (i+1)=false):=by show _=_;rw [HD.out,ht]
      clear HD
      go_wp2_with fail
      go_quiet (fail)
      have HB2:Hid (Below w.heap.size w (wr.drewN nq)):=below_drewN HV.out _
      go_wp2_with fail
      go_roundg (k-(i+1))
      case measure=>omega
      case rel=>exact ⟨i+1,hlt2,rfl,by go_num,fun j h1 hj=>by rcases Nat.lt_succ_iff_lt_or_eq.1 hj with h | h;exact HDn.out j h1 h;rw [h];exact HDF.out,HB2.out⟩
     ·have HF:Hid (ckErr N C=7):=ck_down (by rw [HCL.out,HNL.out]) HAll.out (i:=i+1) (by omega) (by rw [HNL.out];exact hlt2) (by rw [HD.out,ht])
      clear HD
      go_wp2_with fail
      go_quiet (fail)
      have HB2:Hid (Below w.heap.size w (wr.drewN nq)):=below_drewN HV.out _
      go_wp2_with fail
      go_ret
      exact ⟨by rw [HF.out];rfl,HB2.out⟩
    ·have hie:k=i+1:=by omega
     have HF:Hid (ckErr N C=0):=ck_good (by rw [HCL.out,HNL.out]) HAll.out (fun j h1 hj=>HDn.out j h1 (by have:=HNL.out;omega))
     have hki : ¬ (i:Int)+1<(k:Int):=by omega
     clear hie
     go_wp2_with fail
     go_ret
     exact ⟨by rw [HF.out];rfl,HV.out⟩
end Go.Proofs.YtigkeokacagabafGreatDoor
namespace Go.Proofs.YtigkeokacagabafGreatDoor
open Go.RowKit Go.Extern.Stop Go.Stop Go.Extern
theorem valueOfP (t:Addr) (w:World):(ReflectliteValue.unpack (.iface 107 (.pointer (some t)))).run Tryz.prog w
  = .ok (.agg #[.pointer (some ⟨7,107,none⟩),.pointer (some ⟨w.heap.size,0,none⟩),.int .u64 150]) (w.alloc (.cells #[.pointer (some t)] 107)):=by kernel_rfl
theorem typeP (a : Addr) (w : World) : (ReflectliteValue.methodAny (ReflectliteValue.valueError "reflectlite.Value.Type" 0) (fun t _ _ _ => ReflectliteType.toType t) #[.agg #[.pointer (some ⟨7, 107, none⟩), .pointer (some a), .int .u64 150]]).run Tryz.prog w
  = .ok (.iface 213 (.agg #[.pointer (some ⟨7,107,none⟩)])) w:=by kernel_rfl
theorem methodKind (h : Value) (w : World) : (Go.method 460 213 (.agg #[h]) "Kind").run Tryz.prog w = .ok (308, h) w := by kernel_rfl
theorem kindP (w:World):((ReflectliteType.abiMethod fun t=>Functor.map (fun a:Nat=>Value.int IntKind.u8 (a:Int)) (Rtype.kind t)) #[.pointer (some ⟨7,107,none⟩)]).run Tryz.prog w=.ok (.int .u8 22) w:=by kernel_rfl
theorem kindN (w:World):((ReflectliteType.abiMethod fun t=>Functor.map (fun a:Nat=>Value.int IntKind.u8 (a:Int)) (Rtype.kind t)) #[.pointer (some ⟨7,77,none⟩)]).run Tryz.prog w=.ok (.int .u8 2) w:=by kernel_rfl
theorem methodNil (a : Addr) (W : World) : (ReflectliteValue.method (ReflectliteValue.valueError "reflectlite.Value.IsNil" 0) ReflectliteValue.isNil #[.agg #[.pointer (some ⟨7, 107, none⟩), .pointer (some a), .int .u64 150]]).run Tryz.prog W = (ReflectliteValue.isNil 107 a 150 22).run Tryz.prog W := by kernel_rfl
theorem methodElemV (a : Addr) (W : World) : (ReflectliteValue.method (ReflectliteValue.valueError "reflectlite.Value.Elem" 0) ReflectliteValue.elem #[.agg #[.pointer (some ⟨7, 107, none⟩), .pointer (some a), .int .u64 150]]).run Tryz.prog W = (ReflectliteValue.elem 107 a 150 22).run Tryz.prog W := by kernel_rfl
theorem setRun (ta b:Addr) (W:World):(ReflectliteValue.set #[.agg #[.pointer (some ⟨7,77,none⟩),.pointer (some ta),.int .u64 386],.agg #[.pointer (some ⟨7,77,none⟩),.pointer (some b),.int .u64 130]]).run Tryz.prog W=(do let v ←loadVar 77 b;storeVar 77 ta v;pure (Value.tuple #[]):Sem Value).run Tryz.prog W:=by kernel_rfl
theorem isNilP (a p:Addr) (W:World) (ha:W.cell? a=some (.pointer (some p))) :
  (ReflectliteValue.method (ReflectliteValue.valueError "reflectlite.Value.IsNil" 0) ReflectliteValue.isNil #[.agg #[.pointer (some ⟨7, 107, none⟩), .pointer (some a), .int .u64 150]]).run Tryz.prog W = .ok (.bool false) W := by
 rw [methodNil]
 simp [ReflectliteValue.isNil,loadVar,isAgg,underlying,Tryz.underlying107,ha,Result.andThen]
theorem methodElem (h : Value) (w : World) : (Go.method 460 213 (.agg #[h]) "Elem").run Tryz.prog w = .ok (318, .agg #[h]) w := by kernel_rfl
theorem methodImplements (h : Value) (w : World) : (Go.method 460 213 (.agg #[h]) "Implements").run Tryz.prog w = .ok (319, .agg #[h]) w := by kernel_rfl
theorem methodAssignableTo (h : Value) (w : World) : (Go.method 460 213 (.agg #[h]) "AssignableTo").run Tryz.prog w = .ok (316, .agg #[h]) w := by kernel_rfl
theorem elemP (w:World):(ReflectliteType.method ReflectliteType.elem #[.agg #[.pointer (some ⟨7,107,none⟩)]]).run Tryz.prog w=.ok (.iface 213 (.agg #[.pointer (some ⟨7,77,none⟩)])) w:=by kernel_rfl
theorem implementsN (w : World) : (ReflectliteType.relation "Implements" ReflectliteType.implements_ #[.agg #[.pointer (some ⟨7, 77, none⟩)], .iface 213 (.agg #[.pointer (some ⟨7, 29, none⟩)])]).run Tryz.prog w = .ok (.bool true) w := by kernel_rfl
theorem typeOfN (v:Value) (w:World):(ReflectliteType.typeOf #[.iface 77 v]).run Tryz.prog w=.ok (.iface 213 (.agg #[.pointer (some ⟨7,77,none⟩)])) w:=by kernel_rfl
theorem assignableN (w : World) : (ReflectliteType.relation "AssignableTo" ReflectliteType.assignableTo #[.agg #[.pointer (some ⟨7, 77, none⟩)], .iface 213 (.agg #[.pointer (some ⟨7, 77, none⟩)])]).run Tryz.prog w = .ok (.bool true) w := by kernel_rfl
theorem valueOfN (c:Int) (w:World):(ReflectliteValue.unpack (.iface 77 (.int .i64 c))).run Tryz.prog w
  = .ok (.agg #[.pointer (some ⟨7,77,none⟩),.pointer (some ⟨w.heap.size,0,none⟩),.int .u64 130]) (w.alloc (.cells #[.int .i64 c] 77)):=by kernel_rfl
theorem elemOfP (w:World):(Rtype.elem? 107).run Tryz.prog w=.ok (some 77) w:=by kernel_rfl
theorem mkN (p:Addr) (w:World):(ReflectliteValue.mk 77 p ReflectliteValue.flagAddr).run Tryz.prog w=.ok (.agg #[.pointer (some ⟨7,77,none⟩),.pointer (some p),.int .u64 386]) w:=by kernel_rfl
theorem elemVP (a p:Addr) (W:World) (ha:W.cell? a=some (.pointer (some p))) :
  (ReflectliteValue.method (ReflectliteValue.valueError "reflectlite.Value.Elem" 0) ReflectliteValue.elem #[.agg #[.pointer (some ⟨7, 107, none⟩), .pointer (some a), .int .u64 150]]).run Tryz.prog W
   = .ok (.agg #[.pointer (some ⟨7,77,none⟩),.pointer (some p),.int .u64 386]) W:=by
 rw [methodElemV]
 simp [ReflectliteValue.elem,loadVar,isAgg,underlying,Tryz.underlying107,ha,Result.andThen,elemOfP,mkN]
theorem setN (ta b:Addr) (c:Int) (old:Value) (W:World) (hb:W.cell? b=some (.int .i64 c)) (ht:W.cell? ta=some old) (hf:W.frozen? ta=false) :
  (ReflectliteValue.set #[.agg #[.pointer (some ⟨7,77,none⟩),.pointer (some ta),.int .u64 386],.agg #[.pointer (some ⟨7,77,none⟩),.pointer (some b),.int .u64 130]]).run Tryz.prog W
   = .ok (.tuple #[]) (W.setCell ta (.int .i64 c)):=by
 rw [setRun]
 simp [loadVar,isAgg,underlying,Tryz.underlying77,hb,Result.andThen,storeVar,Value.cells,storeCells,Addr.add]
 rw [run_store Tryz.prog W ta _ _ (by rfl)]
 simp [ht,hf]
def Kind0 (w:World):Prop:=w.cell? ⟨0,0,none⟩=some (.iface 213 (.agg #[.pointer (some ⟨7,29,none⟩)]))
theorem Kind0.lt {w:World} (h:Kind0 w):0<w.heap.size:=by
 rcases Nat.lt_or_ge 0 w.heap.size with h' | h'
 ·exact h'
 ·unfold Kind0 at h
  simp [World.cell?,Array.getElem?_eq_none h'] at h
theorem Kind0.later {w w':World} (h:Kind0 w) (hb:Below w.heap.size w w'):Kind0 w':=(hb.cell (p:=⟨0,0,none⟩) h.lt).trans h
set_option maxHeartbeats 4000000 in
theorem as_hit (c:Int) (b:Nat) (w:World) (hk:Kind0 w) (htl:b<w.heap.size) (ht0:w.cell? ⟨b,0,none⟩=some (.int .i64 0)) (hf0:w.frozen? ⟨b,0,none⟩=false) :
  Calls Tryz.prog 62 #[.iface 77 (.int .i64 c),.iface 107 (.pointer (some ⟨b,0,none⟩))] w fun ev w'=>ev=.returned (.bool true)∧w'=((((w.alloc (.cells #[.pointer (some ⟨b,0,none⟩)] 107)).alloc (.cells #[.pointer (some ⟨7,107,none⟩),.pointer (some ⟨w.heap.size,0,none⟩),.int .u64 150] 164)).alloc (.cells #[.pointer (some ⟨7,107,none⟩),.pointer (some ⟨w.heap.size,0,none⟩),.int .u64 150] 164)).alloc (.cells #[.int .i64 c] 77)).setCell ⟨b,0,none⟩ (.int .i64 c):=by
 have x1 := @run_callFunc_extern Tryz.prog 105 _ (fun args=>ReflectliteValue.unpack (args.getD 0 (.tuple #[]))) Tryz.func105 (by kernel_rfl) (by kernel_rfl) (by kernel_rfl) (by kernel_rfl)
 have x2 := @run_callFunc_extern Tryz.prog 106 _ (ReflectliteValue.methodAny (ReflectliteValue.valueError "reflectlite.Value.Type" 0) (fun t _ _ _ => ReflectliteType.toType t)) Tryz.func106 (by kernel_rfl) (by kernel_rfl) (by kernel_rfl) (by kernel_rfl)
 have x3 := @run_callFunc_extern Tryz.prog 107 _ (ReflectliteValue.method (ReflectliteValue.valueError "reflectlite.Value.IsNil" 0) ReflectliteValue.isNil) Tryz.func107 (by kernel_rfl) (by kernel_rfl) (by kernel_rfl) (by kernel_rfl)
 have x4 := @run_callFunc_extern Tryz.prog 308 _ (ReflectliteType.abiMethod fun t=>do pure (.int .u8 (←Rtype.kind t))) Tryz.func308 (by kernel_rfl) (by kernel_rfl) (by kernel_rfl) (by kernel_rfl)
 have x5 := @run_callFunc_extern Tryz.prog 318 _ (ReflectliteType.method ReflectliteType.elem) Tryz.func318 (by kernel_rfl) (by kernel_rfl) (by kernel_rfl) (by kernel_rfl)
 have x6 := @run_callFunc_extern Tryz.prog 319 _ (ReflectliteType.relation "Implements" ReflectliteType.implements_) Tryz.func319 (by kernel_rfl) (by kernel_rfl) (by kernel_rfl) (by kernel_rfl)
 have x7 := @run_callFunc_extern Tryz.prog 147 _ ReflectliteType.typeOf Tryz.func147 (by kernel_rfl) (by kernel_rfl) (by kernel_rfl) (by kernel_rfl)
 have x8 := @run_callFunc_extern Tryz.prog 316 _ (ReflectliteType.relation "AssignableTo" ReflectliteType.assignableTo) Tryz.func316 (by kernel_rfl) (by kernel_rfl) (by kernel_rfl) (by kernel_rfl)
 have x9 := @run_callFunc_extern Tryz.prog 148 _ (ReflectliteValue.method (ReflectliteValue.valueError "reflectlite.Value.Elem" 0) ReflectliteValue.elem) Tryz.func148 (by kernel_rfl) (by kernel_rfl) (by kernel_rfl) (by kernel_rfl)
 have xa := @run_callFunc_extern Tryz.prog 149 _ ReflectliteValue.set Tryz.func149 (by kernel_rfl) (by kernel_rfl) (by kernel_rfl) (by kernel_rfl)
 have y1:=typeOfN
 have y2:=methodAssignableTo
 have y3:=assignableN
 have y4:=valueOfN
 have y5:=valueOfP
 have y6:=typeP
 have y7:=methodKind
 have y8:=methodElem
 have y9:=methodImplements
 have ya:=kindP
 have yb:=kindN
 have yc:=elemP
 have yd:=implementsN
 have n8:=isNilP ⟨w.heap.size,0,none⟩ ⟨b,0,none⟩ ((w.alloc (.cells #[.pointer (some ⟨b,0,none⟩)] 107)).alloc (.cells #[.pointer (some ⟨7,107,none⟩),.pointer (some ⟨w.heap.size,0,none⟩),.int .u64 150] 164)) (by simp)
 have hlt:=hk.lt
 have hg2:((w.alloc (.cells #[.pointer (some ⟨b,0,none⟩)] 107)).alloc (.cells #[.pointer (some ⟨7,107,none⟩),.pointer (some ⟨w.heap.size,0,none⟩),.int .u64 150] 164)).cell? ⟨0,0,none⟩=some (.iface 213 (.agg #[.pointer (some ⟨7,29,none⟩)])):=by
  rw [World.cell?_alloc_lt _ _ ⟨0,0,none⟩ (by simp),World.cell?_alloc_lt _ _ ⟨0,0,none⟩ hlt];exact hk
 have el:=elemVP ⟨w.heap.size,0,none⟩ ⟨b,0,none⟩ (((w.alloc (.cells #[.pointer (some ⟨b,0,none⟩)] 107)).alloc (.cells #[.pointer (some ⟨7,107,none⟩),.pointer (some ⟨w.heap.size,0,none⟩),.int .u64 150] 164)).alloc (.cells #[.pointer (some ⟨7,107,none⟩),.pointer (some ⟨w.heap.size,0,none⟩),.int .u64 150] 164)) (by rw [World.cell?_alloc_lt _ _ ⟨w.heap.size,0,none⟩ (by simp;omega)];simp)
 have st:=setN ⟨b,0,none⟩ ⟨w.heap.size+1+1+1,0,none⟩ c (.int .i64 0) ((((w.alloc (.cells #[.pointer (some ⟨b,0,none⟩)] 107)).alloc (.cells #[.pointer (some ⟨7,107,none⟩),.pointer (some ⟨w.heap.size,0,none⟩),.int .u64 150] 164)).alloc (.cells #[.pointer (some ⟨7,107,none⟩),.pointer (some ⟨w.heap.size,0,none⟩),.int .u64 150] 164)).alloc (.cells #[.int .i64 c] 77))
  (by rw [World.cell?_alloc_at _ _ _ _ (by simp)];rfl)
  (by rw [World.cell?_alloc_lt _ _ ⟨b,0,none⟩ (by simp;omega),World.cell?_alloc_lt _ _ ⟨b,0,none⟩ (by simp;omega),World.cell?_alloc_lt _ _ ⟨b,0,none⟩ (by simp;omega),World.cell?_alloc_lt _ _ ⟨b,0,none⟩ htl];exact ht0)
  (by rw [World.frozen?_alloc_old _ _ ⟨b,0,none⟩ (by simp;omega),World.frozen?_alloc_old _ _ ⟨b,0,none⟩ (by simp;omega),World.frozen?_alloc_old _ _ ⟨b,0,none⟩ (by simp;omega),World.frozen?_alloc_old _ _ ⟨b,0,none⟩ (Nat.ne_of_lt htl)];exact hf0)
 clear hk
 go_enter Tryz.func62,Tryz.ntmps62
 go_wp2
 refine wp_loop_rounds 1 ?_
 rw [rounds_succ]
 go_wp2
 go_ret
 exact ⟨rfl,rfl⟩
end Go.Proofs.YtigkeokacagabafGreatDoor
namespace Go.Proofs.YtigkeokacagabafGreatDoor
open Go.ChangeShapes Go.WideShapes Go.ChangeAt Go.RowKit
theorem told_nil (w:World):Calls Tryz.prog 35 #[.nilIface] w fun e w'=>e=.returned (.int .i64 0)∧w'=w:=by
 go_enter Tryz.func35,Tryz.ntmps35
 go_wp2
 go_ret
 exact ⟨rfl,rfl⟩
theorem told_hit (c:Int) (w:World) (hk:Kind0 w):Calls Tryz.prog 35 #[.iface 77 (.int .i64 c)] w fun e w'=>e=.returned (.int .i64 c)∧Below w.heap.size w w':=by
 have h:=as_hit c w.heap.size (w.alloc (.cells #[.int .i64 0] 77)) (hk.later ((Below.refl _ _).alloc (Nat.le_refl _) _)) (by simp) (by simp) (by simp)
 go_enter Tryz.func35,Tryz.ntmps35
 go_wp2_with fail
 refine h.mono ?_
 rintro e w1 ⟨rfl,hw1⟩
 have hB:Below w.heap.size w w1:=by rw [hw1];go_grown
 have hc:w1.cell? ⟨w.heap.size,0,none⟩=some (.int .i64 c):=by
  rw [hw1]
  refine World.cell?_setCell_same _ _ _ (u:=.int .i64 0) ?_
  rw [World.cell?_alloc_lt _ _ ⟨w.heap.size,0,none⟩ (by first | (simp;done) | (simp;omega)),World.cell?_alloc_lt _ _ ⟨w.heap.size,0,none⟩ (by first | (simp;done) | (simp;omega)),World.cell?_alloc_lt _ _ ⟨w.heap.size,0,none⟩ (by first | (simp;done) | (simp;omega)),World.cell?_alloc_lt _ _ ⟨w.heap.size,0,none⟩ (by first | (simp;done) | (simp;omega))]
  simp
 clear hw1 h hk
 go_wp2_with fail
 go_ret
 exact ⟨rfl,hB⟩
theorem same_nil (n:Int) (w:World):Calls Tryz.prog 13 #[.nilIface,.int .i64 n] w fun e w'=>e=.returned (.bool (0 == n))∧Below w.heap.size w w':=by
 go_enter Tryz.func13,Tryz.ntmps13
 go_wp2_with (go_at_call 35;refine (told_nil _).mono ?_;rintro e w1 ⟨rfl,rfl⟩)
 go_ret
 exact ⟨rfl,Below.refl _ _⟩
theorem same_hit (c n:Int) (w:World) (hk:Kind0 w):Calls Tryz.prog 13 #[.iface 77 (.int .i64 c),.int .i64 n] w fun e w'=>e=.returned (.bool (c == n))∧Below w.heap.size w w':=by
 go_enter Tryz.func13,Tryz.ntmps13
 go_wp2_with fail
 refine (told_hit c _ hk).mono ?_
 rintro e w1 ⟨rfl,hb⟩
 go_wp2_with fail
 go_ret
 exact ⟨rfl,hb⟩
end Go.Proofs.YtigkeokacagabafGreatDoor
