/-
  Entries checked: what Check of package input answers, called in whatever memory.
-/
import Derived.Sort.Walk0
import Derived.Test.YtmmpanbkmpdnkahGreatDoorJGAV
namespace Go.Proofs.YtmmpanbkmpdnkahGreatDoor
open Go.ChangeShapes Go.WideShapes Go.ChangeAt Go.RowKit
set_option maxRecDepth 20000
theorem inO_short {D:Nat→Dm} {n:Nat} {L:List Int} (h:InO D n L):L.length≤4:=by rw [h.len];exact (allErr_some h.right).2.1
theorem keep3 {W w':World} {b b' o1 o2 o3:Nat} {u v z:Value} (h:b<W.heap.size∧b'<W.heap.size∧W.cell? ⟨b,o1,none⟩=some u∧W.cell? ⟨b,o2,none⟩=some v∧W.cell? ⟨b',o3,none⟩=some z) (hB:Below W.heap.size W w'):Below W.heap.size W w'∧w'.cell? ⟨b,o1,none⟩=some u∧w'.cell? ⟨b,o2,none⟩=some v∧w'.cell? ⟨b',o3,none⟩=some z :=
 ⟨hB,(hB.cell (p:=⟨b,o1,none⟩) h.1).trans h.2.2.1,(hB.cell (p:=⟨b,o2,none⟩) h.1).trans h.2.2.2.1,(hB.cell (p:=⟨b',o3,none⟩) h.2.1).trans h.2.2.2.2⟩
set_option maxHeartbeats 8000000 in
theorem icheck_any (A0:Option Addr) (cap n:Nat) (D:Nat→Dm) (A:Nat→Option Addr) (C:Nat→Nat) (AE:Option Addr) (ce:Nat) (xs:List EnL) (w:World) (hM:DimsV w A0 cap n D A C) (hE:EnsV w AE ce xs) :
  Calls Tryz.prog 58 #[.agg #[.slice A0 n cap],.slice AE xs.length ce] w fun r w'=>r=.returned (errV (entsErr D n (lE xs)))∧Below w.heap.size w w':=by
 have hB0:=ownOut_below w A0 n cap 30
 have h:=all_any A0 cap n D A C (ownOut w A0 n cap 30) (hM.later hB0)
 have HB0:Hid (Below w.heap.size w (ownOut w A0 n cap 30)):=hB0
 have HM:Hid (DimsV w A0 cap n D A C):=hM
 have HE:Hid (EnsV w AE ce xs):=hE
 generalize (allErr D n).1=x1 at h
 generalize (allErr D n).2.1=x2 at h
 clear hM hB0
 by_cases hR:(allErr D n).2.2=0
 ·have HR:Hid ((allErr D n).2.2=0):=hR
  have HV:Hid (entsErr D n (lE xs)=entFrom D n (qOf (lE xs) 0) ((lE xs).drop 0)):=ents_in _ hR
  rw [hR,errV_zero] at h
  obtain ⟨N,hN⟩:∃ N,xs.length=N:=⟨_,rfl⟩
  have HN:Hid (xs.length=N):=hN
  have hNb:(N:Int)≤9223372036854775807:=by have h1:=hE.1;have h2:=hE.2.1;omega
  rw [hN]
  clear hR hN hE
  go_enter Tryz.func58,Tryz.ntmps58
  go_wp2_with fail
  refine h.mono ?_
  rintro e w1 ⟨rfl,hb1⟩
  have hB:Below w.heap.size w w1:=onB HB0.out hb1
  have hz:w.heap.size<w1.heap.size:=by have:=hb1.size;rw [ownOut_size] at this;omega
  have h2:w1.cell? ⟨w.heap.size,0,none⟩=some (.slice A0 n cap):=(hb1.cell (p:=⟨w.heap.size,0,none⟩) (by show w.heap.size<_;rw [ownOut_size];omega)).trans (ownOut_at ..)
  have HM1:Hid (DimsV w1 A0 cap n D A C):=HM.out.later hB
  have HE1:Hid (EnsV w1 AE ce xs):=HE.out.later hB
  have HB:Hid (Below w.heap.size w w1):=hB
  clear hb1 h hB HM HE HB0
  go_wp2_with fail
  go_loopg [22] N (fun g s22 wr => ∃ (k:Nat),k≤N∧g=N-k∧s22=.int .i64 k∧Hid (entFrom D n (qOf (lE xs) k) ((lE xs).drop k)=entFrom D n (qOf (lE xs) 0) ((lE xs).drop 0))∧Hid (∀ j,j<k→entOne D n ((lE xs).getD j noEn)=0)∧Below w1.heap.size w1 wr)
  case atStart=>exact ⟨0,Nat.zero_le _,rfl,rfl,(rfl:entFrom D n (qOf (lE xs) 0) ((lE xs).drop 0)=entFrom D n (qOf (lE xs) 0) ((lE xs).drop 0)),fun j hj=>absurd hj (Nat.not_lt_zero _),Below.refl _ _⟩
  case round =>
   obtain ⟨k,hk,rfl,rfl,HF,HO,hBw⟩:=hrel
   have HBw:Hid (Below w1.heap.size w1 wr):=hBw
   by_cases hlt:k<N
   ·have hkx:k<xs.length:=by rw [HN.out];exact hlt
    have hki:(k:Int)<(N:Int):=by omega
    have hk1:(k:Int)+1≤9223372036854775807:=by omega
    obtain ⟨-,-,h0 | ⟨b,o,rfl,hEs⟩⟩:=HE1.out.later hBw
    ·have:=HN.out;rw [h0] at this;simp at this;omega
    obtain ⟨c1,c2⟩:=hEs.at hkx
    have hpl:=hEs.pl hkx
    have c0:wr.cell? ⟨w.heap.size,0,none⟩=some (.slice A0 n cap):=(hBw.cell (p:=⟨w.heap.size,0,none⟩) hz).trans h2
    have hzr:w.heap.size<wr.heap.size:=Nat.lt_of_lt_of_le hz hBw.size
    have hBo:=ownEn_below wr (xs.getD k noL).A (xs.getD k noL).e.pl.length (xs.getD k noL).c (xs.getD k noL).e.n 69
    have hck:=icheck1_any A0 cap n D A C (xs.getD k noL).A (xs.getD k noL).c (xs.getD k noL).e (ownEn wr (xs.getD k noL).A (xs.getD k noL).e.pl.length (xs.getD k noL).c (xs.getD k noL).e.n 69) HR.out ((HM1.out.later hBw).later hBo) (hpl.later hBo)
    have HBo:Hid (Below wr.heap.size wr (ownEn wr (xs.getD k noL).A (xs.getD k noL).e.pl.length (xs.getD k noL).c (xs.getD k noL).e.n 69)):=hBo
    have HEs:Hid (EnsAt wr b o xs):=hEs
    have HPL:Hid (PlAt wr (xs.getD k noL).A (xs.getD k noL).c (xs.getD k noL).e.pl):=hpl
    have H0:Hid ((ownEn wr (xs.getD k noL).A (xs.getD k noL).e.pl.length (xs.getD k noL).c (xs.getD k noL).e.n 69).cell? ⟨wr.heap.size,0,none⟩=some (.slice (xs.getD k noL).A (xs.getD k noL).e.pl.length (xs.getD k noL).c)):=ownEn_0 ..
    have HS:Hid (wr.heap.size<(ownEn wr (xs.getD k noL).A (xs.getD k noL).e.pl.length (xs.getD k noL).c (xs.getD k noL).e.n 69).heap.size):=by show _<_;rw [ownEn_size];omega
    clear hBw hEs hpl hBo
    by_cases he:entOne D n (xs.getD k noL).e=0
    ·have hKO:=entOne_right HR.out he
     have HK0:Hid (entOne D n ((lE xs).getD k noEn)=0):=by show _=_;rw [lE_at];exact he
     have HSh:Hid ((xs.getD k noL).e.pl.length≤4):=inO_short hKO.1
     rw [he,errV_zero] at hck
     clear he hKO
     rcases Nat.eq_zero_or_pos k with hk0 | hk0
     ·subst hk0
      have HQ:Hid (aheadOk (qOf (lE xs) 0) ((lE xs).getD 0 noEn).pl=true):=rfl
      have HST:Hid (entFrom D n (qOf (lE xs) 0) ((lE xs).drop 0)=entFrom D n (qOf (lE xs) (0+1)) ((lE xs).drop (0+1))):=ent_on (by rw [lE_len];exact hkx) HK0.out HQ.out
      generalize (xs.getD 0 noL).A=A1 at c1 hck HBo H0 HS
      generalize (xs.getD 0 noL).c=k1 at c1 hck HBo H0 HS
      generalize (xs.getD 0 noL).e.n=n1 at c2 hck HBo H0 HS
      generalize (xs.getD 0 noL).e.pl.length=m1 at c1 hck HBo H0 HS
      simp only [Nat.zero_mul,Nat.add_zero] at c1 c2
      clear HPL HSh
      go_wp2_with fail
      refine hck.mono ?_
      rintro e w2 ⟨rfl,hb2⟩
      have HB2:Hid (Below wr.heap.size wr w2):=onB HBo.out hb2
      clear hb2
      go_wp2_with fail
      go_quiet (fail)
      go_wp2_with fail
      go_roundg (N-(0+1))
      case measure=>omega
      case rel =>
       refine ⟨0+1,by omega,rfl,by go_num,HST.out.symm,fun j hj=>?_,below_drewN (onB HBw.out HB2.out) _⟩
       have:j=0:=by omega
       subst this
       exact HK0.out
     ·obtain ⟨j,hj⟩:∃ j,k=j+1:=⟨k-1,by omega⟩
      have hjx:j<xs.length:=by omega
      obtain ⟨d1,d2⟩:=HEs.out.at hjx
      have hjO:=entOne_right HR.out (HO.out j (by omega))
      rw [lE_at] at hjO
      have HJ:Hid (∀ w',Below wr.heap.size wr w'→Calls Tryz.prog 112 #[.agg #[.slice (xs.getD j noL).A (xs.getD j noL).e.pl.length (xs.getD j noL).c,.int .i64 (xs.getD j noL).e.n],.slice (xs.getD k noL).A (xs.getD k noL).e.pl.length (xs.getD k noL).c] w' fun e w''=>e=.returned (.int .i64 (cmpL (xs.getD j noL).e.pl (xs.getD k noL).e.pl))∧Below w'.heap.size w' w''):=fun w' hw'=>order_any _ _ _ _ _ _ _ w' (inO_short hjO.1) HSh.out ((HEs.out.pl hjx).later hw') (HPL.out.later hw')
      have HCN:Hid (decide (0≤cmpL (xs.getD j noL).e.pl (xs.getD k noL).e.pl) = !lessL (xs.getD j noL).e.pl (xs.getD k noL).e.pl):=cmpL_nonneg (xs.getD j noL).e.pl (xs.getD k noL).e.pl
      have HQ:Hid (aheadOk (qOf (lE xs) k) ((lE xs).getD k noEn).pl=lessL (xs.getD j noL).e.pl (xs.getD k noL).e.pl):=by show _=_;rw [←lE_at,←lE_at,hj];rfl
      have hwr:IntKind.i64.wrap ((k:Int)-1)=(j:Int):=by rw [IntKind.wrap_i64];omega
      have hj0:(0:Int)<(k:Int):=by omega
      have HKJ:Hid (k=j+1):=hj
      have hjN:(j:Int)<(N:Int):=by omega
      generalize (xs.getD k noL).A=A1 at c1 hck HBo H0 HS HJ
      generalize (xs.getD k noL).c=k1 at c1 hck HBo H0 HS HJ
      generalize (xs.getD k noL).e.n=n1 at c2 hck HBo H0 HS
      generalize (xs.getD k noL).e.pl.length=m1 at c1 hck HBo H0 HS HJ
      generalize (xs.getD j noL).A=A2 at d1 HJ
      generalize (xs.getD j noL).c=k2 at d1 HJ
      generalize (xs.getD j noL).e.n=n2 at d2 HJ
      generalize (xs.getD j noL).e.pl.length=m2 at d1 HJ
      generalize cmpL (xs.getD j noL).e.pl (xs.getD k noL).e.pl=cc at HJ HCN
      have hbb:=HEs.out.1
      clear HPL HSh hjO hj
      go_wp2_with fail
      refine hck.mono ?_
      rintro e w2 ⟨rfl,hb2⟩
      have hB2:Below wr.heap.size wr w2:=onB HBo.out hb2
      have HB2:Hid (Below wr.heap.size wr w2):=hB2
      have e1:w2.cell? ⟨b,o+j*2,none⟩=some (.slice A2 m2 k2):=(hB2.cell (p:=⟨b,o+j*2,none⟩) hbb).trans d1
      have e2:w2.cell? ⟨b,o+j*2+1,none⟩=some (.int .i64 n2):=(hB2.cell (p:=⟨b,o+j*2+1,none⟩) hbb).trans d2
      have e3:w2.cell? ⟨wr.heap.size,0,none⟩=some (.slice A1 m1 k1):=(hb2.cell (p:=⟨wr.heap.size,0,none⟩) HS.out).trans H0.out
      have hz2:wr.heap.size<w2.heap.size:=Nat.lt_of_lt_of_le HS.out hb2.size
      clear hb2 hB2 c1 c2 d1 d2
      have HC3:Hid (b<w2.heap.size∧wr.heap.size<w2.heap.size∧w2.cell? ⟨b,o+j*2,none⟩=some (.slice A2 m2 k2)∧w2.cell? ⟨b,o+j*2+1,none⟩=some (.int .i64 n2)∧w2.cell? ⟨wr.heap.size,0,none⟩=some (.slice A1 m1 k1)):=⟨Nat.lt_of_lt_of_le hbb HB2.out.size,hz2,e1,e2,e3⟩
      go_wp2_with fail
      go_cut [45] (fun s45 wx=>s45=.bool (decide (0≤cc))∧Below w2.heap.size w2 wx)
      case first =>
       go_region_held3 (fun w'=>Below w2.heap.size w2 w'∧w'.cell? ⟨b,o+j*2,none⟩=some (.slice A2 m2 k2)∧w'.cell? ⟨b,o+j*2+1,none⟩=some (.int .i64 n2)∧w'.cell? ⟨wr.heap.size,0,none⟩=some (.slice A1 m1 k1))
        ((refine keep3 HC3.out ?_;go_grown;done))
        (first | (go_at_call 112;refine (HJ.out _ (onB HB2.out (by go_grown))).mono ?_;rintro e w3 ⟨rfl,hb3⟩;have hN3:=onB (W0:=w2) (by go_grown) hb3;have hy3:=hN3.size;clear hb3))
       all_goals go_wp2_with fail
       all_goals go_meet
       all_goals exact ⟨rfl,by go_grown⟩
      case rest =>
       obtain ⟨rfl,hb3⟩:=hcut
       have HB3:Hid (Below w2.heap.size w2 wc):=hb3
       clear hb3 e1 e2 e3 HC3 HJ hz2 hwr hjN
       obtain ⟨tC,htC⟩:∃ t,decide (0≤cc)=t:=⟨_,rfl⟩
       rw [htC]
       have HTC:Hid (decide (0≤cc)=tC):=htC
       clear htC hk0 hj0 hbb hzr c0
       cases tC
       case true =>
        have HST:Hid (errV (entsErr D n (lE xs))=.iface 104 (.int .i64 7)):=by
         show _=_
         have h3:=HCN.out
         rw [HTC.out] at h3
         rw [HV.out,←HF.out,ent_clash (by rw [lE_len];exact hkx) HK0.out (by rw [HQ.out];simpa using h3)];rfl
        go_wp2_with fail
        go_ret
        rw [HST.out]
        exact ⟨rfl,onB HB.out (onB HBw.out (onB HB2.out HB3.out))⟩
       case false =>
        have HST:Hid (entFrom D n (qOf (lE xs) k) ((lE xs).drop k)=entFrom D n (qOf (lE xs) (k+1)) ((lE xs).drop (k+1))):=by
         show _=_
         have h3:=HCN.out
         rw [HTC.out] at h3
         exact ent_on (by rw [lE_len];exact hkx) HK0.out (by rw [HQ.out];simpa using h3)
        go_wp2_with fail
        go_roundg (N-(k+1))
        case measure=>omega
        case rel =>
         refine ⟨k+1,by omega,rfl,by go_num,HST.out.symm.trans HF.out,fun i hi=>?_,onB HBw.out (onB HB2.out HB3.out)⟩
         rcases Nat.lt_succ_iff_lt_or_eq.1 hi with h1 | rfl
         ·exact HO.out i h1
         ·exact HK0.out
    ·have HFin:Hid (errV (entsErr D n (lE xs))=.iface 104 (.int .i64 (entOne D n (xs.getD k noL).e))):=by
      show _=_
      rw [HV.out,←HF.out,ent_bad (by rw [lE_len];exact hkx) (by rw [lE_at];exact he),lE_at,errV_some he]
     rw [errV_some he] at hck
     generalize entOne D n (xs.getD k noL).e=E at hck HFin
     generalize (xs.getD k noL).A=A1 at c1 hck HBo H0 HS
     generalize (xs.getD k noL).c=k1 at c1 hck HBo H0 HS
     generalize (xs.getD k noL).e.n=n1 at c2 hck HBo H0 HS
     generalize (xs.getD k noL).e.pl.length=m1 at c1 hck HBo H0 HS
     clear HPL he
     go_wp2_with fail
     refine hck.mono ?_
     rintro e w2 ⟨rfl,hb2⟩
     have HB2:Hid (Below wr.heap.size wr w2):=onB HBo.out hb2
     clear hb2
     go_wp2_with fail
     go_ret
     rw [HFin.out]
     exact ⟨rfl,onB HB.out (onB HBw.out HB2.out)⟩
   ·have hke:k=N:=by omega
    subst hke
    have HFin:Hid (errV (entsErr D n (lE xs))=.nilIface):=by show _=_;rw [HV.out,←HF.out,ent_end (by rw [lE_len,HN.out];exact Nat.le_refl _)];rfl
    clear hBw
    go_wp2_with fail
    go_ret
    rw [HFin.out]
    exact ⟨rfl,onB HB.out HBw.out⟩
 ·have HV:Hid (errV (entsErr D n (lE xs))=.iface 104 (.int .i64 (allErr D n).2.2)):=by show _=_;rw [ents_bad _ hR,errV_some hR]
  rw [errV_some hR] at h
  generalize (allErr D n).2.2=E at h HV
  generalize xs.length=N
  clear hR hE HM HE
  go_enter Tryz.func58,Tryz.ntmps58
  go_wp2_with fail
  refine h.mono ?_
  rintro e w1 ⟨rfl,hb1⟩
  go_wp2_with fail
  go_ret
  rw [HV.out]
  exact ⟨rfl,onB HB0.out hb1⟩
end Go.Proofs.YtmmpanbkmpdnkahGreatDoor
namespace Go.Proofs.YtmmpanbkmpdnkahGreatDoor
def noS:ByteArray:=⟨#[]⟩
def okC (c:Int×Int):Prop:=good c.1 c.2=true
theorem okC_no:okC noC:=rfl
theorem okC_ofP (n:Int):okC (ofP n):=by
 unfold okC ofP good
 split
 ·rename_i h;simp [h.1,h.2]
 ·simp
theorem okC_quo (x y:Int):okC (quoP x y):=by
 unfold quoP
 split
 ·rfl
 ·exact okC_ofP _
theorem okC_join (b:Bool) (ka kb:Int) {r:Int×Int} (h:okC r):okC (joinP b ka kb r):=by
 unfold joinP
 split
 ·rfl
 ·split
  ·rfl
  ·exact h
def opP (o:Int) (a b:Int×Int):Int×Int:=if o=3 then plusP a.1 a.2 b.1 b.2 else if o=4 then minusP a.1 a.2 b.1 b.2 else if o=5 then timesP a.1 a.2 b.1 b.2 else overP a.1 a.2 b.1 b.2
theorem opP_ok (o:Int) (a b:Int×Int):okC (opP o a b):=by
 unfold opP
 split
 ·exact okC_join _ _ _ (okC_ofP _)
 ·split
  ·exact okC_join _ _ _ (okC_ofP _)
  ·split
   ·exact okC_join _ _ _ (okC_ofP _)
   ·exact okC_join _ _ _ (okC_quo _ _)
def isS (N:List ByteArray) (s:ByteArray) (i:Nat):Bool:=decide (N.getD i noS=s)
def whereS (N:List ByteArray) (s:ByteArray):Int:=findFrom (isS N s) N.length 0
theorem where_cases (N:List ByteArray) (s:ByteArray):(whereS N s = -1∧∀ j,j<N.length→N.getD j noS≠s)∨∃ i:Nat,whereS N s=(i:Int)∧i<N.length∧N.getD i noS=s:=by
 unfold whereS
 rcases findFrom_cases (isS N s) N.length 0 with ⟨h1,h2⟩ | ⟨m,h1,h2,h3,h4,h5⟩
 ·left
  refine ⟨h1,fun j hj=>?_⟩
  have:=h2 j (Nat.zero_le _) (by omega)
  simpa [isS] using this
 ·right
  exact ⟨m,h1,by omega,of_decide_eq_true h4⟩
def downS (N:List ByteArray) (i:Nat):Bool:=Op.bytesLess (N.getD i noS).toList (N.getD (i-1) noS).toList || (N.getD i noS).toList == (N.getD (i-1) noS).toList
def ckErr (N:List ByteArray) (C:List (Int×Int)):Int:=if C.length≠N.length then 3 else if 0≤findFrom (goodB C) C.length 0 then 1 else if 0≤findFrom (downS N) (N.length-1) 1 then 7 else 0
theorem ck_shape {N:List ByteArray} {C:List (Int×Int)} (h:C.length≠N.length):ckErr N C=3:=by unfold ckErr;rw [if_pos h]
theorem ck_cell {N:List ByteArray} {C:List (Int×Int)} (h:C.length=N.length) {i:Nat} (hi:i<C.length) (hb:goodB C i=true):ckErr N C=1:=by
 unfold ckErr
 rw [if_neg (by simpa using h)]
 rcases findFrom_cases (goodB C) C.length 0 with ⟨_,h5⟩ | ⟨m,e,_⟩
 ·rw [h5 i (Nat.zero_le _) (by omega)] at hb;cases hb
 ·rw [e,if_pos (by omega)]
theorem ck_down {N:List ByteArray} {C:List (Int×Int)} (h:C.length=N.length) (hg:∀ j,j<C.length→goodB C j=false) {i:Nat} (h1:1≤i) (hi:i<N.length) (hb:downS N i=true):ckErr N C=7:=by
 unfold ckErr
 rw [if_neg (by simpa using h),findFrom_none (fun j _ hj=>hg j (by omega)),if_neg (by omega)]
 rcases findFrom_cases (downS N) (N.length-1) 1 with ⟨_,h5⟩ | ⟨m,e,_⟩
 ·rw [h5 i h1 (by omega)] at hb;cases hb
 ·rw [e,if_pos (by omega)]
theorem ck_good {N:List ByteArray} {C:List (Int×Int)} (h:C.length=N.length) (hg:∀ j,j<C.length→goodB C j=false) (hd:∀ j,1≤j→j<N.length→downS N j=false):ckErr N C=0:=by
 unfold ckErr
 rw [if_neg (by simpa using h),findFrom_none (fun j _ hj=>hg j (by omega)),if_neg (by omega),findFrom_none (fun j h1 hj=>hd j h1 (by omega)),if_neg (by omega)]
theorem ck_right {N:List ByteArray} {C:List (Int×Int)} (h:ckErr N C=0):C.length=N.length∧(∀ j,j<C.length→goodB C j=false)∧∀ j,1≤j→j<N.length→downS N j=false:=by
 by_cases h1:C.length=N.length
 ·refine ⟨h1,?_⟩
  by_cases h2:∀ j,j<C.length→goodB C j=false
  ·refine ⟨h2,fun j hj1 hj=>?_⟩
   cases hd:downS N j
   ·rfl
   ·rw [ck_down h1 h2 hj1 hj hd] at h;cases h
  ·exfalso
   apply h2
   intro j hj
   cases hd:goodB C j
   ·rfl
   ·rw [ck_cell h1 hj hd] at h;cases h
 ·rw [ck_shape h1] at h;cases h
theorem ck_ok {N:List ByteArray} {C:List (Int×Int)} (h:ckErr N C=0):∀ c∈C,okC c:=by
 intro c hc
 obtain ⟨j,hj,rfl⟩:=List.getElem_of_mem hc
 have:=(ck_right h).2.1 j hj
 unfold goodB at this
 rw [List.getD_eq_getElem?_getD,List.getElem?_eq_getElem hj] at this
 simpa [okC] using this
/-! names that rise -/
theorem down_not {N:List ByteArray} {i:Nat} (h:downS N i=false):(N.getD (i-1) noS).toList<(N.getD i noS).toList:=by
 unfold downS at h
 rw [Bool.or_eq_false_iff,bytesLess_eq] at h
 have h1:=of_decide_eq_false h.1
 have h2:(N.getD i noS).toList≠(N.getD (i-1) noS).toList:=by simpa using h.2
 rcases Std.lt_trichotomy (N.getD i noS).toList (N.getD (i-1) noS).toList with h3 | h3 | h3
 ·exact absurd h3 h1
 ·exact absurd h3 h2
 ·exact h3
theorem rise_all {N:List ByteArray} (h:∀ j,1≤j→j<N.length→downS N j=false):∀ i j,i<j→j<N.length→(N.getD i noS).toList<(N.getD j noS).toList:=by
 intro i j hij
 induction j with
 | zero=>omega
 | succ j ih =>
  intro hj
  have h1:=down_not (h (j+1) (by omega) hj)
  by_cases e:i=j
  ·subst e;exact h1
  ·exact List.lt_trans (ih (by omega) (by omega)) h1
section
variable (N:List ByteArray) (C:List (Int×Int))
def refC (s:ByteArray):Int×Int:=C.getD (whereS N s).toNat noC
def valT:Tre→Int×Int
 | .num n=>ofP n
 | .ref s=>refC N C s
 | .bin o a b=>opP o (valT a) (valT b)
end
def refsT:Tre→List ByteArray
 | .num _=>[]
 | .ref s=>[s]
 | .bin _ a b=>refsT a ++ refsT b
def missT (N:List ByteArray) (t:Tre):Bool:=(refsT t).any fun s=>decide (whereS N s<0)
theorem val_ok (N:List ByteArray) {C:List (Int×Int)} (hC:∀ c∈C,okC c):∀ t:Tre,okC (valT N C t)
 | .num n=>okC_ofP n
 | .ref s=>by
  rw [valT,refC,List.getD_eq_getElem?_getD]
  cases h:C[(whereS N s).toNat]? with
  | none=>exact okC_no
  | some c=>exact hC c (List.mem_of_getElem? h)
 | .bin o a b=>opP_ok o _ _
/-! the names of a tree are those of the nodes -/
theorem refs_down {l:List Nd} (hl:RightL l) (s:ByteArray):∀ i,i<l.length→s∈refsT (treeOf l i)→∃ j,j<l.length∧(l.getD j noN).op=2∧(l.getD j noN).name=s:=by
 intro i
 induction i using Nat.strongRecOn with
 | _ i ih =>
  intro hi hs
  have ho:=op_range (hl i hi)
  by_cases h1:(l.getD i noN).op=1
  ·rw [tree_num h1] at hs;cases hs
  by_cases h2:(l.getD i noN).op=2
  ·rw [tree_ref h2,refsT,List.mem_singleton] at hs
   exact ⟨i,hi,h2,hs.symm⟩
  ·obtain ⟨a1,a2,a3,a4⟩:=nd_sides (hl i hi) (by omega)
   rw [tree_bin hl hi (by omega),refsT,List.mem_append] at hs
   rcases hs with hs | hs
   ·exact ih _ (by omega) (by omega) hs
   ·exact ih _ (by omega) (by omega) hs
theorem used_who {l:List Nd} (j:Nat):∀ k,1≤usedTo l k j→∃ i,i<k∧1≤uses (l.getD i noN) j
 | 0,h=>by cases h
 | k+1,h=>by
  by_cases h1:1≤uses (l.getD k noN) j
  ·exact ⟨k,Nat.lt_succ_self _,h1⟩
  ·have h2:1≤usedTo l k j+uses (l.getD k noN) j:=h
   obtain ⟨i,hi,h3⟩:=used_who (l:=l) j k (by omega)
   exact ⟨i,by omega,h3⟩
theorem refs_up {l:List Nd} (h:formErr l=0) (s:ByteArray):∀ n j,l.length-j=n→j<l.length→s∈refsT (treeOf l j)→s∈refsT (treeOf l (l.length-1)):=by
 obtain ⟨h1,h2,hl,h4⟩:=form_right h
 intro n
 induction n using Nat.strongRecOn with
 | _ n ih =>
  intro j hn hj hs
  by_cases e:j=l.length-1
  ·rw [←e];exact hs
  obtain ⟨i,hi,hu⟩:=used_who (l:=l) j l.length (by rw [h4 j (by omega)];exact Nat.le_refl _)
  unfold uses at hu
  split at hu
  ·rename_i hop
   obtain ⟨a1,a2,a3,a4⟩:=nd_sides (hl i hi) hop
   have hsi:s∈refsT (treeOf l i):=by
    rw [tree_bin hl hi hop,refsT,List.mem_append]
    by_cases e1:(l.getD i noN).left=(j:Int)
    ·left;rw [e1];exact hs
    ·by_cases e2:(l.getD i noN).right=(j:Int)
     ·right;rw [e2];exact hs
     ·rw [if_neg e1,if_neg e2] at hu;omega
   have hij:j<i:=by
    by_cases e1:(l.getD i noN).left=(j:Int)
    ·omega
    ·by_cases e2:(l.getD i noN).right=(j:Int)
     ·omega
     ·rw [if_neg e1,if_neg e2] at hu;omega
   exact ih (l.length-i) (by omega) i rfl hi hsi
  ·omega
theorem refs_mem {l:List Nd} (h:formErr l=0) (s:ByteArray):s∈refsT (treeOf l (l.length-1))↔∃ j,j<l.length∧(l.getD j noN).op=2∧(l.getD j noN).name=s:=by
 obtain ⟨h1,h2,hl,h4⟩:=form_right h
 refine ⟨refs_down hl s _ (by omega),fun ⟨j,hj,h2,h3⟩=>?_⟩
 refine refs_up h s _ j rfl hj ?_
 rw [tree_ref h2,h3,refsT]
 exact List.mem_singleton.2 rfl
def missR (N:List ByteArray) (l:List Nd) (i:Nat):Bool:=decide ((l.getD i noN).op=2) && decide (whereS N (l.getD i noN).name<0)
theorem miss_yes {N:List ByteArray} {l:List Nd} (h:formErr l=0) {i:Nat} (hi:i<l.length) (hm:missR N l i=true):missT N (treeOf l (l.length-1))=true:=by
 simp only [missR,Bool.and_eq_true,decide_eq_true_eq] at hm
 unfold missT
 rw [List.any_eq_true]
 exact ⟨_,(refs_mem h _).2 ⟨i,hi,hm.1,rfl⟩,decide_eq_true hm.2⟩
theorem miss_no {N:List ByteArray} {l:List Nd} (h:formErr l=0) (hm:∀ i,i<l.length→missR N l i=false):missT N (treeOf l (l.length-1))=false:=by
 rw [Bool.eq_false_iff]
 intro e
 unfold missT at e
 rw [List.any_eq_true] at e
 obtain ⟨s,h1,h2⟩:=e
 obtain ⟨j,hj,h3,h4⟩:=(refs_mem h s).1 h1
 have:=hm j hj
 unfold missR at this
 rw [h4,h3] at this
 simp at this h2
 omega
def valE (l:List Nd) (N:List ByteArray) (C:List (Int×Int)):Int:=if formErr l≠0 then formErr l else if ckErr N C≠0 then ckErr N C else if missT N (treeOf l (l.length-1))=true then 5 else 0
def valC (l:List Nd) (N:List ByteArray) (C:List (Int×Int)):Int×Int:=if valE l N C=0 then valT N C (treeOf l (l.length-1)) else noC
end Go.Proofs.YtmmpanbkmpdnkahGreatDoor
