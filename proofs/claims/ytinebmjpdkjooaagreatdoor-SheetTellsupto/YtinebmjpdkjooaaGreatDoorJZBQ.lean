/-
  What the document's Entries and Input answer, called in whatever memory.
-/
import Derived.Test.YtinebmjpdkjooaaGreatDoorJZBM
import Derived.Test.YtinebmjpdkjooaaGreatDoorJZBO
import Derived.Test.YtinebmjpdkjooaaGreatDoorJZBP
namespace Go.Proofs.YtinebmjpdkjooaaGreatDoor
open Go.ChangeShapes Go.WideShapes Go.ChangeAt Go.RowKit
set_option maxRecDepth 20000
theorem keep2 {W w':World} {q b o1:Nat} {u v:Value} (h:q<W.heap.size∧b<W.heap.size∧W.cell? ⟨q,0,none⟩=some u∧W.cell? ⟨b,o1,none⟩=some v) (hB:Below W.heap.size W w'):Below W.heap.size W w'∧w'.cell? ⟨q,0,none⟩=some u∧w'.cell? ⟨b,o1,none⟩=some v :=
 ⟨hB,(hB.cell (p:=⟨q,0,none⟩) h.1).trans h.2.2.1,(hB.cell (p:=⟨b,o1,none⟩) h.2.1).trans h.2.2.2⟩
theorem keepL {W w':World} {b o1 o2:Nat} {u v:Value} (h:b<W.heap.size∧W.cell? ⟨b,o1,none⟩=some u∧W.cell? ⟨b,o2,none⟩=some v) (hB:Below W.heap.size W w'):Below W.heap.size W w'∧w'.cell? ⟨b,o1,none⟩=some u∧w'.cell? ⟨b,o2,none⟩=some v :=
 ⟨hB,(hB.cell (p:=⟨b,o1,none⟩) h.1).trans h.2.1,(hB.cell (p:=⟨b,o2,none⟩) h.1).trans h.2.2⟩
set_option maxHeartbeats 16000000 in
theorem rentries_any (A0:Option Addr) (cap n:Nat) (D:Nat→Dm) (A:Nat→Option Addr) (C:Nat→Nat) (AE:Option Addr) (ce:Nat) (xs:List EnL) (w:World) (hM:DimsV w A0 cap n D A C) (hE:EnsV w AE ce xs) :
  Calls Tryz.prog 13 #[.agg #[.slice A0 n cap],.slice AE xs.length ce] w fun r w'=>r=.returned (.int .i64 (entsErr D n (lE xs)))∧Below w.heap.size w w':=by
 have hB0:=ownOut_below w A0 n cap 24
 have h:=rright_any A0 cap n D A C (ownOut w A0 n cap 24) (hM.later hB0)
 have HB0:Hid (Below w.heap.size w (ownOut w A0 n cap 24)):=hB0
 have HM:Hid (DimsV w A0 cap n D A C):=hM
 have HE:Hid (EnsV w AE ce xs):=hE
 clear hM hB0
 by_cases hR:(allErr D n).2.2=0
 ·have HR:Hid ((allErr D n).2.2=0):=hR
  have HV:Hid (entsErr D n (lE xs)=entFrom D n (qOf (lE xs) 0) ((lE xs).drop 0)):=ents_in _ hR
  rw [hR] at h
  obtain ⟨N,hN⟩:∃ N,xs.length=N:=⟨_,rfl⟩
  have HN:Hid (xs.length=N):=hN
  have hNb:(N:Int)≤9223372036854775807:=by have h1:=hE.1;have h2:=hE.2.1;omega
  rw [hN]
  generalize entsErr D n (lE xs)=RES at HV
  clear hR hN hE
  go_enter Tryz.func13,Tryz.ntmps13
  go_wp2_with fail
  refine h.mono ?_
  rintro e w1 ⟨rfl,hb1⟩
  have hB:Below w.heap.size w w1:=onB HB0.out hb1
  have hz:w.heap.size<w1.heap.size:=by have:=hb1.size;rw [ownOut_size] at this;omega
  have h2:w1.cell? ⟨w.heap.size,0,none⟩=some (.slice A0 n cap):=(hb1.cell (p:=⟨w.heap.size,0,none⟩) (by show w.heap.size<_;rw [ownOut_size];omega)).trans (ownOut_at ..)
  have HM1:Hid (DimsV w1 A0 cap n D A C):=HM.out.later hB
  have HE1:Hid (EnsV w1 AE ce xs):=HE.out.later hB
  have HB:Hid (Below w.heap.size w w1):=hB
  clear hb1 h hB HM HE HB0
  go_wp2_with fail
  go_loopg [6] N (fun g s6 wr => ∃ (k:Nat),k≤N∧g=N-k∧s6=.int .i64 k∧Hid (entFrom D n (qOf (lE xs) k) ((lE xs).drop k)=entFrom D n (qOf (lE xs) 0) ((lE xs).drop 0))∧Hid (∀ j,j<k→entOne D n ((lE xs).getD j noEn)=0)∧Below w1.heap.size w1 wr)
  case atStart=>exact ⟨0,Nat.zero_le _,rfl,rfl,(rfl:entFrom D n (qOf (lE xs) 0) ((lE xs).drop 0)=entFrom D n (qOf (lE xs) 0) ((lE xs).drop 0)),fun j hj=>absurd hj (Nat.not_lt_zero _),Below.refl _ _⟩
  case round =>
   obtain ⟨k,hk,rfl,rfl,HF,HO,hBw⟩:=hrel
   have HBw:Hid (Below w1.heap.size w1 wr):=hBw
   by_cases hlt:k<N
   ·have hkx:k<xs.length:=by rw [HN.out];exact hlt
    have hki:(k:Int)<(N:Int):=by omega
    have hk1:(k:Int)+1≤9223372036854775807:=by omega
    obtain ⟨-,-,h0 | ⟨b,o,rfl,hEs⟩⟩:=HE1.out.later hBw
    ·have:=HN.out;rw [h0] at this;simp at this;omega
    obtain ⟨c1,c2⟩:=hEs.at hkx
    have c0:wr.cell? ⟨w.heap.size,0,none⟩=some (.slice A0 n cap):=(hBw.cell (p:=⟨w.heap.size,0,none⟩) hz).trans h2
    have hzr:w.heap.size<wr.heap.size:=Nat.lt_of_lt_of_le hz hBw.size
    have hbb:=hEs.1
    have HMr:Hid (DimsV wr A0 cap n D A C):=HM1.out.later hBw
    have HEs:Hid (EnsAt wr b o xs):=hEs
    have HPl:Hid (∀ w',Below wr.heap.size wr w'→Calls Tryz.prog 36 #[.agg #[.slice A0 n cap],.slice (xs.getD k noL).A (xs.getD k noL).e.pl.length (xs.getD k noL).c] w' fun e w''=>e=.returned (.int .i64 (shapeErr D n (xs.getD k noL).e.pl))∧Below w'.heap.size w' w''):=fun w' hw'=>rplace_any A0 cap n D A C _ _ _ w' HR.out (HMr.out.later hw') ((HEs.out.pl hkx).later hw')
    have HLf:Hid (shapeErr D n (xs.getD k noL).e.pl=0→∀ w',Below wr.heap.size wr w'→Calls Tryz.prog 37 #[.agg #[.slice A0 n cap],.slice (xs.getD k noL).A (xs.getD k noL).e.pl.length (xs.getD k noL).c] w' fun e w''=>e=.returned (.bool (leafV D n (xs.getD k noL).e.pl))∧Below w'.heap.size w' w''):=fun hs w' hw'=>rleafplace_any A0 cap n D A C _ _ _ w' (inO_of (by rw [pe1 HR.out];exact hs)) (HMr.out.later hw') ((HEs.out.pl hkx).later hw')
    have HOne:Hid (entOne D n (xs.getD k noL).e=if shapeErr D n (xs.getD k noL).e.pl≠0 then shapeErr D n (xs.getD k noL).e.pl else if leafV D n (xs.getD k noL).e.pl=false then 6 else if numOk (xs.getD k noL).e.n=false then 1 else 0):=rfl
    have HBad:Hid (entOne D n (xs.getD k noL).e≠0→RES=entOne D n (xs.getD k noL).e):=fun he=>by rw [HV.out,←HF.out,ent_bad (by rw [lE_len];exact hkx) (by rw [lE_at];exact he),lE_at]
    have HOn:Hid (entOne D n (xs.getD k noL).e=0→∀ t,aheadOk (qOf (lE xs) k) (xs.getD k noL).e.pl=t→(t=false→RES=7)∧(t=true→entFrom D n (qOf (lE xs) (k+1)) ((lE xs).drop (k+1))=entFrom D n (qOf (lE xs) 0) ((lE xs).drop 0))):=fun he t ht=>by
     rw [←lE_at] at he ht
     refine ⟨fun h1=>?_,fun h1=>?_⟩
     ·rw [HV.out,←HF.out,ent_clash (by rw [lE_len];exact hkx) he (by rw [ht];exact h1)]
     ·rw [←ent_on (by rw [lE_len];exact hkx) he (by rw [ht];exact h1)];exact HF.out
    have HK0:Hid (entOne D n (xs.getD k noL).e=0→entOne D n ((lE xs).getD k noEn)=0):=fun he=>by rw [lE_at];exact he
    have HPrev:Hid (∀ j,k=j+1→entOne D n (xs.getD k noL).e=0→(∃ A2 m2 k2,wr.cell? ⟨b,o+j*2,none⟩=some (.slice A2 m2 k2)∧∀ w',Below wr.heap.size wr w'→Calls Tryz.prog 38 #[.slice A2 m2 k2,.slice (xs.getD k noL).A (xs.getD k noL).e.pl.length (xs.getD k noL).c] w' fun e w''=>e=.returned (.bool (aheadOk (qOf (lE xs) k) (xs.getD k noL).e.pl))∧Below w'.heap.size w' w'')):=fun j hj he=>by
     have hjx:j<xs.length:=by omega
     have h3:=entOne_right HR.out he
     have h4:=entOne_right HR.out (HO.out j (by omega))
     rw [lE_at] at h4
     refine ⟨_,_,_,(HEs.out.at hjx).1,fun w' hw'=>?_⟩
     have h5:=rless_any _ _ _ _ _ _ w' (inO_short h4.1) (inO_short h3.1) ((HEs.out.pl hjx).later hw') ((HEs.out.pl hkx).later hw')
     have h6:aheadOk (qOf (lE xs) k) (xs.getD k noL).e.pl=lessL (xs.getD j noL).e.pl (xs.getD k noL).e.pl:=by rw [hj,←lE_at xs j];rfl
     rw [h6]
     exact h5
    have HQ0:Hid (k=0→aheadOk (qOf (lE xs) k) (xs.getD k noL).e.pl=true):=fun h0=>by rw [h0];rfl
    clear hEs hBw
    generalize aheadOk (qOf (lE xs) k) (xs.getD k noL).e.pl=tA at HOn HPrev HQ0
    generalize entOne D n (xs.getD k noL).e=E1 at HOne HBad HOn HK0 HPrev
    generalize shapeErr D n (xs.getD k noL).e.pl=SE at HPl HLf HOne
    generalize leafV D n (xs.getD k noL).e.pl=lf at HLf HOne
    generalize (xs.getD k noL).A=A1 at c1 HPl HLf HPrev
    generalize (xs.getD k noL).c=k1 at c1 HPl HLf HPrev
    generalize (xs.getD k noL).e.n=n1 at c2 HOne
    generalize (xs.getD k noL).e.pl.length=m1 at c1 HPl HLf HPrev
    have HC0:Hid (w.heap.size<wr.heap.size∧b<wr.heap.size∧wr.cell? ⟨w.heap.size,0,none⟩=some (.slice A0 n cap)∧wr.cell? ⟨b,o+k*2,none⟩=some (.slice A1 m1 k1)):=⟨hzr,hbb,c0,c1⟩
    have HC2:Hid (wr.cell? ⟨b,o+k*2+1,none⟩=some (.int .i64 n1)):=c2
    clear c0 c1 c2
    go_wp2_with fail
    go_cut [5] (fun s5 wx=>s5=.int .i64 SE∧Below wr.heap.size wr wx)
    case first=>as_aux_lemma =>
     go_region_held3 (fun w'=>Below wr.heap.size wr w'∧w'.cell? ⟨w.heap.size,0,none⟩=some (.slice A0 n cap)∧w'.cell? ⟨b,o+k*2,none⟩=some (.slice A1 m1 k1))
      ((refine keep2 HC0.out ?_;go_grown;done))
      (first | (go_at_call 36;refine (HPl.out _ (by go_grown)).mono ?_;rintro e w3 ⟨rfl,hb3⟩;have hN3:=onB (W0:=wr) (by go_grown) hb3;have hy3:=hN3.size;clear hb3))
     all_goals go_wp2_with fail
     all_goals go_meet
     all_goals exact ⟨rfl,by go_grown⟩
    case rest=>as_aux_lemma =>
    obtain ⟨rfl,hb⟩:=hcut
    obtain ⟨w2,rfl⟩:∃ w2:World,w2=wc:=⟨_,rfl⟩
    have HB2:Hid (Below wr.heap.size wr w2):=hb
    clear hb
    by_cases hSE:SE=0
    ·have HLf2:=HLf.out hSE
     have HLf3:Hid (∀ w',Below wr.heap.size wr w'→Calls Tryz.prog 37 #[.agg #[.slice A0 n cap],.slice A1 m1 k1] w' fun e w''=>e=.returned (.bool lf)∧Below w'.heap.size w' w''):=HLf2
     have HC3:Hid (w.heap.size<w2.heap.size∧b<w2.heap.size∧w2.cell? ⟨w.heap.size,0,none⟩=some (.slice A0 n cap)∧w2.cell? ⟨b,o+k*2,none⟩=some (.slice A1 m1 k1)):=⟨Nat.lt_of_lt_of_le HC0.out.1 HB2.out.size,Nat.lt_of_lt_of_le HC0.out.2.1 HB2.out.size,(keep2 HC0.out HB2.out).2.1,(keep2 HC0.out HB2.out).2.2⟩
     have hOne2:E1=if lf=false then 6 else if numOk n1=false then 1 else 0:=by rw [HOne.out,if_neg (by simpa using hSE)]
     have HOne2:Hid (E1=if lf=false then 6 else if numOk n1=false then 1 else 0):=hOne2
     subst hSE
     clear hOne2 HLf2
     go_wp2_with fail
     go_cut [7] (fun s7 wx=>s7=.bool lf∧Below w2.heap.size w2 wx)
     case first=>as_aux_lemma =>
      go_region_held3 (fun w'=>Below w2.heap.size w2 w'∧w'.cell? ⟨w.heap.size,0,none⟩=some (.slice A0 n cap)∧w'.cell? ⟨b,o+k*2,none⟩=some (.slice A1 m1 k1))
       ((refine keep2 HC3.out ?_;go_grown;done))
       (first | (go_at_call 37;refine (HLf3.out _ (onB HB2.out (by go_grown))).mono ?_;rintro e w3 ⟨rfl,hb3⟩;have hN3:=onB (W0:=w2) (by go_grown) hb3;have hy3:=hN3.size;clear hb3))
      all_goals go_wp2_with fail
      all_goals go_meet
      all_goals exact ⟨rfl,by go_grown⟩
     case rest=>as_aux_lemma =>
     obtain ⟨rfl,hb⟩:=hcut
     obtain ⟨w3,rfl⟩:∃ w3:World,w3=wc:=⟨_,rfl⟩
     have HB3:Hid (Below wr.heap.size wr w3):=onB HB2.out hb
     clear hb HC3 HLf3 HB2
     cases lf
     ·have HRes:Hid (RES=6):=by
       have e6:E1=6:=by rw [HOne2.out];rfl
       show _=_
       rw [HBad.out (by rw [e6];decide),e6]
      go_wp2_with fail
      go_ret
      rw [HRes.out]
      exact ⟨rfl,onB HB.out (onB HBw.out HB3.out)⟩
     ·have c3:w3.cell? ⟨b,o+k*2+1,none⟩=some (.int .i64 n1):=(HB3.out.cell (p:=⟨b,o+k*2+1,none⟩) hbb).trans HC2.out
      by_cases hlo:n1 < -1000000
      ·have HRes:Hid (RES=1):=by
        have e1:E1=1:=by rw [HOne2.out,if_neg (by decide),if_pos (by simp [numOk];omega)]
        show _=_
        rw [HBad.out (by rw [e1];decide),e1]
       go_wp2_with fail
       go_ret
       rw [HRes.out]
       exact ⟨rfl,onB HB.out (onB HBw.out HB3.out)⟩
      by_cases hhi:1000000<n1
      ·have HRes:Hid (RES=1):=by
        have e1:E1=1:=by rw [HOne2.out,if_neg (by decide),if_pos (by simp [numOk];omega)]
        show _=_
        rw [HBad.out (by rw [e1];decide),e1]
       go_wp2_with fail
       go_ret
       rw [HRes.out]
       exact ⟨rfl,onB HB.out (onB HBw.out HB3.out)⟩
      have e0:E1=0:=by rw [HOne2.out,if_neg (by decide),if_neg (by simp [numOk];omega)]
      have HT:Hid ((tA=false→RES=7)∧(tA=true→entFrom D n (qOf (lE xs) (k+1)) ((lE xs).drop (k+1))=entFrom D n (qOf (lE xs) 0) ((lE xs).drop 0))):=HOn.out e0 tA rfl
      have HKk:Hid (entOne D n ((lE xs).getD k noEn)=0):=HK0.out e0
      have HP2:Hid (∀ j,k=j+1→(∃ A2 m2 k2,wr.cell? ⟨b,o+j*2,none⟩=some (.slice A2 m2 k2)∧∀ w',Below wr.heap.size wr w'→Calls Tryz.prog 38 #[.slice A2 m2 k2,.slice A1 m1 k1] w' fun e w''=>e=.returned (.bool tA)∧Below w'.heap.size w' w'')):=fun j hj=>HPrev.out j hj e0
      clear HOne HOne2 HBad HOn HK0 HPrev HLf HPl e0
      rcases Nat.eq_zero_or_pos k with hk0 | hk0
      ·have HTr:Hid (entFrom D n (qOf (lE xs) (k+1)) ((lE xs).drop (k+1))=entFrom D n (qOf (lE xs) 0) ((lE xs).drop 0)):=HT.out.2 (HQ0.out hk0)
       subst hk0
       simp only [Nat.zero_mul,Nat.add_zero] at c3
       clear HP2 HQ0 HT HO HF
       go_wp2_with fail
       go_quiet (fail)
       go_wp2_with fail
       go_roundg (N-(0+1))
       case measure=>omega
       case rel =>
        refine ⟨0+1,by omega,rfl,by go_num,HTr.out,fun j hj=>?_,below_drewN (onB HBw.out HB3.out) _⟩
        have:j=0:=by omega
        rw [this]
        exact HKk.out
      ·obtain ⟨j,hj⟩:∃ j,k=j+1:=⟨k-1,by omega⟩
       obtain ⟨A2,m2,k2,hcell,hcalls⟩:=HP2.out j hj
       have HLs:Hid (∀ w',Below wr.heap.size wr w'→Calls Tryz.prog 38 #[.slice A2 m2 k2,.slice A1 m1 k1] w' fun e w''=>e=.returned (.bool tA)∧Below w'.heap.size w' w''):=hcalls
       have HC4:Hid (b<w3.heap.size∧w3.cell? ⟨b,o+j*2,none⟩=some (.slice A2 m2 k2)∧w3.cell? ⟨b,o+k*2,none⟩=some (.slice A1 m1 k1)):=⟨Nat.lt_of_lt_of_le hbb HB3.out.size,(HB3.out.cell (p:=⟨b,o+j*2,none⟩) hbb).trans hcell,(HB3.out.cell (p:=⟨b,o+k*2,none⟩) hbb).trans HC0.out.2.2.2⟩
       have hwr:IntKind.i64.wrap ((k:Int)-1)=(j:Int):=by rw [IntKind.wrap_i64];omega
       have hkz:((k:Int) == 0)=false:=by simp;omega
       have hkz' : ¬ ((k:Int)=0):=by omega
       have hjN:(j:Int)<(N:Int):=by omega
       clear hj hcell hcalls HP2 hk0
       go_wp2_with fail
       go_cut [8] (fun s8 wx=>s8=.bool tA∧Below w3.heap.size w3 wx)
       case first=>as_aux_lemma =>
        go_region_held3 (fun w'=>Below w3.heap.size w3 w'∧w'.cell? ⟨b,o+j*2,none⟩=some (.slice A2 m2 k2)∧w'.cell? ⟨b,o+k*2,none⟩=some (.slice A1 m1 k1))
         ((refine keepL HC4.out ?_;go_grown;done))
         (first | (go_at_call 38;refine (HLs.out _ (onB HB3.out (by go_grown))).mono ?_;rintro e w4 ⟨rfl,hb4⟩;have hN4:=onB (W0:=w3) (by go_grown) hb4;have hy4:=hN4.size;clear hb4))
        all_goals go_wp2_with fail
        all_goals go_meet
        all_goals exact ⟨rfl,by go_grown⟩
       case rest=>as_aux_lemma =>
       obtain ⟨rfl,hb⟩:=hcut
       obtain ⟨w4,rfl⟩:∃ w4:World,w4=wc:=⟨_,rfl⟩
       have HB4:Hid (Below wr.heap.size wr w4):=onB HB3.out hb
       clear hb HC4 HLs hwr hkz hkz' hjN c3
       cases tA
       ·have HRes:Hid (RES=7):=HT.out.1 rfl
        go_wp2_with fail
        go_ret
        rw [HRes.out]
        exact ⟨rfl,onB HB.out (onB HBw.out HB4.out)⟩
       ·have HTr:Hid (entFrom D n (qOf (lE xs) (k+1)) ((lE xs).drop (k+1))=entFrom D n (qOf (lE xs) 0) ((lE xs).drop 0)):=HT.out.2 rfl
        go_wp2_with fail
        go_roundg (N-(k+1))
        case measure=>omega
        case rel =>
         refine ⟨k+1,by omega,rfl,by go_num,HTr.out,fun i hi=>?_,onB HBw.out HB4.out⟩
         rcases Nat.lt_succ_iff_lt_or_eq.1 hi with h1 | rfl
         ·exact HO.out i h1
         ·exact HKk.out
    ·have HRes:Hid (RES=SE):=by
      have e1:E1=SE:=by rw [HOne.out,if_pos (by simpa using hSE)]
      show _=_
      rw [HBad.out (by rw [e1];exact hSE),e1]
     have hSE':(SE != 0)=true:=by simpa using hSE
     clear HLf HPl HOne HBad HOn HK0 HPrev hSE HC0 HC2 HEs HMr HE1 HM1 HO HF HQ0 hki hk1 hzr hbb
     go_wp2_with fail
     go_ret
     rw [HRes.out]
     exact ⟨rfl,onB HB.out (onB HBw.out HB2.out)⟩
   ·have hke:k=N:=by omega
    subst hke
    have HRes:Hid (RES=0):=by show _=_;rw [HV.out,←HF.out,ent_end (by rw [lE_len,HN.out];exact Nat.le_refl _)]
    clear hBw
    go_wp2_with fail
    go_ret
    rw [HRes.out]
    exact ⟨rfl,onB HB.out HBw.out⟩
 ·have HV:Hid (entsErr D n (lE xs)=(allErr D n).2.2):=ents_bad _ hR
  have hR':((allErr D n).2.2 == 0)=false:=by simpa using hR
  generalize entsErr D n (lE xs)=RES at HV
  generalize (allErr D n).2.2=E at h HV hR hR'
  generalize xs.length=N
  clear hE HM HE
  go_enter Tryz.func13,Tryz.ntmps13
  go_wp2_with fail
  refine h.mono ?_
  rintro e w1 ⟨rfl,hb1⟩
  go_wp2_with fail
  go_ret
  rw [HV.out]
  exact ⟨rfl,onB HB0.out hb1⟩
theorem sright_any (A0:Option Addr) (cap n:Nat) (D:Nat→Dm) (A:Nat→Option Addr) (C:Nat→Nat) (w:World) (hM:DimsV w A0 cap n D A C):Calls Tryz.prog 12 #[.agg #[.slice A0 n cap]] w fun e w'=>e=.returned (.int .i64 (ruErr D n).2.2)∧Below w.heap.size w w':=by
 have hB0:=ownOut_below w A0 n cap 24
 have hA:=ownOut_at w A0 n cap 24
 have h:=srules_any A0 cap n D A C (ownOut w A0 n cap 24) (hM.later hB0)
 obtain ⟨W,hW⟩:∃ W,ownOut w A0 n cap 24=W:=⟨_,rfl⟩
 rw [hW] at hB0 hA h
 unfold ownOut at hW
 have HB0:Hid (Below w.heap.size w W):=hB0
 generalize (ruErr D n).1=x at h
 generalize (ruErr D n).2.1=y at h
 generalize (ruErr D n).2.2=z at h ⊢
 clear hM hB0
 go_enter Tryz.func12,Tryz.ntmps12
 go_wp2_with fail
 refine h.mono ?_
 rintro e w1 ⟨rfl,hb1⟩
 go_wp2_with fail
 go_ret
 exact ⟨rfl,onB HB0.out hb1⟩
noncomputable def cuErr (D:Nat→Dm) (n:Nat) (l:List En):Int:=if (ruErr D n).2.2≠0 then (ruErr D n).2.2 else entsErr D n l
set_option maxHeartbeats 2000000 in
theorem scube_any (A0:Option Addr) (cap n:Nat) (D:Nat→Dm) (A:Nat→Option Addr) (C:Nat→Nat) (AE:Option Addr) (ce:Nat) (xs:List EnL) (w:World) (hM:DimsV w A0 cap n D A C) (hE:EnsV w AE ce xs):Calls Tryz.prog 4 #[.agg #[.slice A0 n cap],.slice AE xs.length ce] w fun e w'=>e=.returned (.int .i64 (cuErr D n (lE xs)))∧Below w.heap.size w w':=by
 have hB0:=ownOut_below w A0 n cap 24
 have hS:=ownOut_size w A0 n cap 24
 have hA:=ownOut_at w A0 n cap 24
 have h:=sright_any A0 cap n D A C (ownOut w A0 n cap 24) (hM.later hB0)
 obtain ⟨W,hW⟩:∃ W,ownOut w A0 n cap 24=W:=⟨_,rfl⟩
 rw [hW] at hB0 hS hA h
 unfold ownOut at hW
 have HB0:Hid (Below w.heap.size w W):=hB0
 have HM:Hid (DimsV w A0 cap n D A C):=hM
 have HE:Hid (EnsV w AE ce xs):=hE
 have hsz:w.heap.size<W.heap.size:=by omega
 have HEn:Hid (∀ w',Below w.heap.size w w'→Calls Tryz.prog 13 #[.agg #[.slice A0 n cap],.slice AE xs.length ce] w' fun r w''=>r=.returned (.int .i64 (entsErr D n (lE xs)))∧Below w'.heap.size w' w''):=fun w' hB=>rentries_any A0 cap n D A C AE ce xs w' (hM.later hB) (hE.later hB)
 generalize xs.length=xl at HEn ⊢
 clear hM hB0 hE
 by_cases he:(ruErr D n).2.2=0
 ·have HC:Hid (cuErr D n (lE xs)=entsErr D n (lE xs)):=by show _=_;unfold cuErr;rw [if_neg (by simpa using he)]
  rw [he] at h
  clear he
  go_enter Tryz.func4,Tryz.ntmps4
  go_wp2_with fail
  refine h.mono ?_
  rintro e w1 ⟨rfl,hb1⟩
  have cw:=(hb1.cell (p:=⟨w.heap.size,0,none⟩) hsz).trans hA
  have hsz1:w.heap.size<w1.heap.size:=Nat.lt_of_lt_of_le hsz hb1.size
  have hen:=HEn.out w1 (onB HB0.out hb1)
  have HB1:Hid (Below w.heap.size w w1):=onB HB0.out hb1
  clear hb1 h hA
  go_wp2_with fail
  refine hen.mono ?_
  rintro e w2 ⟨rfl,hb2⟩
  go_wp2_with fail
  go_ret
  exact ⟨by rw [HC.out];rfl,onB HB1.out hb2⟩
 ·have HC:Hid (cuErr D n (lE xs)=(ruErr D n).2.2):=by show _=_;unfold cuErr;rw [if_pos he]
  have hb:((ruErr D n).2.2 == 0)=false:=by simpa using he
  generalize (ruErr D n).2.2=c at h HC hb
  clear he
  go_enter Tryz.func4,Tryz.ntmps4
  go_wp2_with fail
  refine h.mono ?_
  rintro e w1 ⟨rfl,hb1⟩
  go_wp2_with fail
  go_ret
  exact ⟨by rw [HC.out];rfl,onB HB0.out hb1⟩
end Go.Proofs.YtinebmjpdkjooaaGreatDoor
namespace Go.Proofs.YtinebmjpdkjooaaGreatDoor
open Go Go.ChangeShapes Go.WideShapes Go.ChangeAt Go.RowKit
set_option maxRecDepth 1000000
set_option maxHeartbeats 64000000
theorem str_sz (l:List UInt8):(⟨l.toArray⟩:ByteArray).size=l.length:=by show l.toArray.size=_;simp
theorem stMb (T:Array Value) (s:Nat→Value) (w:World) (q bm om mm cm j:Nat) (m:Mem) (t:List UInt8) (hF:stF T s) (h5:s 5=.string ⟨t.toArray⟩) (h7:s 7=.pointer (some ⟨q,0,none⟩)) (h9:s 9=.int .i64 (j:Nat)) (hc:w.cell? ⟨q,2,none⟩=some (.slice (some ⟨bm,om,none⟩) mm cm)) (hj:j<mm) (hm:MemAt w bm (om+j*4) m) (b1:m.name.size≤30) (b2 : -1≤m.parent) (b3:m.parent≤12) (b4 : -1≤m.sign) (b5:m.sign≤1) (b6:m.formula.size≤100) (ht:t.length≤1099511627776) (J:Act→World→Prop) (Q:Exit→Act→World→Prop)
  (hJ:∀ T' s' w',stF T' s'→Ag [5,10,11] s s'→s' 5=.string ⟨(t ++ memT m).toArray⟩→Below w.heap.size w w'→J ⟨T',[]⟩ w'):Code.wp Tryz.prog (stC [1,1,0,1,3,4,1,0,3,1,1,1,1,3,4,1,0,3]) (Exit.then J Q) ⟨T,[]⟩ w:=by
 rw [show (stC [1,1,0,1,3,4,1,0,3,1,1,1,1,3,4,1,0,3])=(.seq (stC [1,1,0,1,3,4,1,0,3,1,1,1,1,3,4,1,0,3,0]) (.seq (stC [1,1,0,1,3,4,1,0,3,1,1,1,1,3,4,1,0,3,1,0]) (.seq (.seq (stC [1,1,0,1,3,4,1,0,3,1,1,1,1,3,4,1,0,3,1,1,0,0]) (.cond (.tmp 53) (stC [1,1,0,1,3,4,1,0,3,1,1,1,1,3,4,1,0,3,1,1,0,1,2]) .skip)) (.seq (stC [1,1,0,1,3,4,1,0,3,1,1,1,1,3,4,1,0,3,1,1,1,0]) (.seq (.seq (stC [1,1,0,1,3,4,1,0,3,1,1,1,1,3,4,1,0,3,1,1,1,1,0,0]) (.cond (.tmp 76) (stC [1,1,0,1,3,4,1,0,3,1,1,1,1,3,4,1,0,3,1,1,1,1,0,1,2]) .skip)) (stC [1,1,0,1,3,4,1,0,3,1,1,1,1,3,4,1,0,3,1,1,1,1,1])))))) from rfl]
 obtain ⟨m0,m1,m2,m3⟩:=hm
 refine wp_seq (stL11 T s q bm om mm cm j m.name m.formula m.parent m.sign w hF h7 h9 hc hj m0 m1 m2 m3 _ _ fun T hF=>?_)
 have hb:Below w.heap.size w (w.alloc (.cells #[.string m.name,.int .i64 m.parent,.int .i64 m.sign,.string m.formula] 46)):=by go_grown
 have hbx:(w.alloc (.cells #[.string m.name,.int .i64 m.parent,.int .i64 m.sign,.string m.formula] 46)).heap[w.heap.size]?=some (.cells #[.string m.name,.int .i64 m.parent,.int .i64 m.sign,.string m.formula] 46 (0,0)):=heap_alloc_new ..
 generalize (w.alloc (.cells #[.string m.name,.int .i64 m.parent,.int .i64 m.sign,.string m.formula] 46))=w1 at hb hbx ⊢
 have hbl:=(Array.getElem?_eq_some_iff.1 hbx).1
 have hcell:∀ {w2:World},Below w1.heap.size w1 w2→w2.cell? ⟨w.heap.size,0,none⟩=some (.string m.name)∧w2.cell? ⟨w.heap.size,1,none⟩=some (.int .i64 m.parent)∧w2.cell? ⟨w.heap.size,2,none⟩=some (.int .i64 m.sign)∧w2.cell? ⟨w.heap.size,3,none⟩=some (.string m.formula):=fun h=>by
  have h1:=(h.block _ hbl).trans hbx
  exact ⟨(Lib.cell_of_heap h1 0).trans rfl,(Lib.cell_of_heap h1 1).trans rfl,(Lib.cell_of_heap h1 2).trans rfl,(Lib.cell_of_heap h1 3).trans rfl⟩
 refine wp_seq (stL12 T _ w1 hF _ _ fun T hF=>?_)
 obtain ⟨s1,hs1⟩:∃ s1,upG s 10 (.pointer (some ⟨w.heap.size,0,none⟩))=s1:=⟨_,rfl⟩
 have hA1:Ag [5,10,11] s s1:=by rw [←hs1];exact (Ag.refl _ _).up (by decide)
 have h10:s1 10=.pointer (some ⟨w.heap.size,0,none⟩):=by rw [←hs1];exact upG_at _ _ _
 rw [hs1] at hF
 have rest:∀ (T:Array Value) (s2:Nat→Value) (w2:World),stF T s2→Ag [11] s1 s2→s2 11=.string ⟨(paB m.parent).toArray⟩→Below w1.heap.size w1 w2→Code.wp Tryz.prog (.seq (stC [1,1,0,1,3,4,1,0,3,1,1,1,1,3,4,1,0,3,1,1,1,0]) (.seq (.seq (stC [1,1,0,1,3,4,1,0,3,1,1,1,1,3,4,1,0,3,1,1,1,1,0,0]) (.cond (.tmp 76) (stC [1,1,0,1,3,4,1,0,3,1,1,1,1,3,4,1,0,3,1,1,1,1,0,1,2]) .skip)) (stC [1,1,0,1,3,4,1,0,3,1,1,1,1,3,4,1,0,3,1,1,1,1,1]))) (Exit.then J Q) ⟨T,[]⟩ w2:=fun T s2 w2 hF hA h11 hb2=>by
  obtain ⟨c0,c1,c2,c3⟩:=hcell hb2
  have a5:(paB m.parent).length≤40:=by
   have:=Lib.itoa_length_le m.parent (by omega) (by omega)
   unfold paB;split;omega;simp
  have h5':s2 5=.string ⟨t.toArray⟩:=(hA 5 (by decide)).trans (by rw [←hs1];exact h5)
  refine wp_seq (stL15 T s2 w.heap.size m.name ⟨t.toArray⟩ ⟨(paB m.parent).toArray⟩ ⟨(sgT m.sign).toArray⟩ m.sign w2 hF h5' ((hA 10 (by decide)).trans h10) h11 c0 c2 (by rw [str_sz];omega) (by omega) (by rw [str_sz];omega) ?_ _ _ fun T w3 hF hb3=>?_)
  ·rcases (by omega:m.sign = -1∨m.sign=0∨m.sign=1) with e | e | e
   ·left;rw [e];exact ⟨rfl,rfl⟩
   ·right;left;rw [e];exact ⟨rfl,rfl⟩
   ·right;right;rw [e];exact ⟨rfl,rfl⟩
  have hb3':=onB hb2 hb3
  obtain ⟨d0,d1,d2,d3⟩:=hcell hb3'
  obtain ⟨u,hu⟩:∃ u:List UInt8,t ++ [109,101,109,32] ++ m.name.data.toList ++ [32] ++ paB m.parent ++ [32] ++ sgT m.sign=u:=⟨_,rfl⟩
  have hul:u.length≤t.length+200:=by
   have a1:=bsz m.name
   have a4:=sgT_len m.sign
   rw [←hu]
   simp only [List.length_append,List.length_cons,List.length_nil]
   omega
  have he:((((((⟨t.toArray⟩:ByteArray) ++ ⟨#[109,101,109,32]⟩) ++ m.name) ++ ⟨#[32]⟩) ++ ⟨(paB m.parent).toArray⟩) ++ ⟨#[32]⟩) ++ ⟨(sgT m.sign).toArray⟩=⟨u.toArray⟩:=by
   rw [←hu]
   simp only [str_add]
  rw [he] at hF
  clear he
  have fin:∀ (T:Array Value) (s3:Nat→Value) (v:List UInt8),stF T s3→Ag [5,10,11] s s3→s3 5=.string ⟨v.toArray⟩→v=u ++ foB m.formula→Code.wp Tryz.prog (stC [1,1,0,1,3,4,1,0,3,1,1,1,1,3,4,1,0,3,1,1,1,1,1]) (Exit.then J Q) ⟨T,[]⟩ w3:=fun T s3 v hF hA3 h5 hv=>by
   have hvl:v.length≤u.length+101:=by
    have a2:=bsz m.formula
    have:(foB m.formula).length≤101:=by unfold foB;split;simp;simp only [List.length_cons];omega
    rw [hv,List.length_append];omega
   refine stL18 T s3 ⟨v.toArray⟩ w3 hF h5 (by rw [str_sz];omega) _ _ fun T hF=>hJ T _ w3 hF (hA3.up (by decide)) ?_ (onB hb hb3')
   rw [upG_at,str_add,hv,←hu]
   unfold memT
   simp
  have hA2:Ag [5,10,11] s (upG s2 5 (.string ⟨u.toArray⟩)):=(hA1.trans (hA.wide (by decide))).up (by decide)
  refine wp_seq (wp_seq (stL16 T _ w.heap.size m.formula w3 hF ((hA 10 (by decide)).trans h10) d3 _ _ fun T hF he=>?_))
  cases hfo:m.formula.toList.isEmpty
  ·rw [hfo] at he
   refine wp_cond_true he ?_
   refine stL17 T _ w.heap.size m.formula ⟨u.toArray⟩ w3 hF (upG_at _ _ _) ((hA 10 (by decide)).trans h10) d3 (by rw [str_sz];omega) (by omega) _ _ fun T hF=>?_
   refine fin T _ (u ++ foB m.formula) hF (hA2.up (by decide)) ?_ rfl
   rw [upG_at,str_add,str_add]
   unfold foB
   rw [hfo]
   simp
  ·rw [hfo] at he
   refine wp_cond_false he (wp_skip ?_)
   exact fin T _ u hF hA2 (upG_at _ _ _) (by unfold foB;rw [hfo];simp)
 obtain ⟨c0,c1,c2,c3⟩:=hcell (Below.refl _ _)
 refine wp_seq (wp_seq (stL13 T _ w.heap.size m.parent w1 hF h10 c1 _ _ fun T hF he=>?_))
 by_cases hp:0≤m.parent
 ·rw [decide_eq_true hp] at he
  refine wp_cond_true he ?_
  refine stL14 T _ w.heap.size m.parent (fun v w'=>v=.string ⟨(Lib.itoa m.parent).toArray⟩∧w'=w1) w1 hF h10 c1 ?_ _ _ fun T v w2 hF hX=>?_
  ·refine (digits_any m.parent (by omega) (by omega) w1).mono ?_
   rintro e w2 ⟨rfl,rfl⟩
   exact ⟨_,rfl,rfl,rfl⟩
  ·obtain ⟨rfl,rfl⟩:=hX
   refine rest T _ _ hF (((Ag.refl _ _).up (by decide)).up (by decide)) ?_ (Below.refl _ _)
   rw [upG_at]
   unfold paB
   rw [if_pos hp]
 ·rw [decide_eq_false hp] at he
  refine wp_cond_false he (wp_skip ?_)
  refine rest T _ _ hF ((Ag.refl _ _).up (by decide)) ?_ (Below.refl _ _)
  rw [upG_at]
  unfold paB
  rw [if_neg hp]
end Go.Proofs.YtinebmjpdkjooaaGreatDoor
namespace Go.Proofs.YtinebmjpdkjooaaGreatDoor
open Go Go.ChangeShapes Go.WideShapes Go.ChangeAt Go.RowKit
set_option maxRecDepth 20000
set_option maxHeartbeats 4000000
theorem sprint_any (A0:Option Addr) (cap n:Nat) (D:Nat→Dm) (A:Nat→Option Addr) (C:Nat→Nat) (AE:Option Addr) (ce:Nat) (xs:List EnL) (w:World) (hT:TabE w) (hM:DimsV w A0 cap n D A C) (hEn:EnsV w AE ce xs) :
  Calls Tryz.prog 6 #[.agg #[.slice A0 n cap],.slice AE xs.length ce] w fun e w'=>e=.returned (.tuple #[.string (shV D n (lE xs)),errV (shE D n (lE xs))])∧Below w.heap.size w w':=by
 by_cases hok:shE D n (lE xs)=0
 ·have h:=sprint_right A0 cap n D A C AE ce xs w hok hT hM hEn
  unfold shV
  rw [if_pos hok,hok,errV_zero]
  exact h
 ·have HV:Hid (shV D n (lE xs)=⟨#[]⟩):=by show _=_;unfold shV;rw [if_neg hok]
  have HE:Hid (errV (shE D n (lE xs))=.iface 65 (.int .i64 (shE D n (lE xs)))):=errV_some hok
  have hB0:=ownOut_below w A0 n cap 24
  have h1:=rulall_any A0 cap n D A C (ownOut w A0 n cap 24) (hM.later hB0)
  have HB0:=hid_of hB0
  obtain ⟨f1,f2,hf⟩:∃ f1 f2,(ruErr D n).1=f1∧(ruErr D n).2.1=f2:=⟨_,_,rfl,rfl⟩
  rw [hf.1,hf.2] at h1
  by_cases hr:(ruErr D n).2.2=0
  ·have hs:shE D n (lE xs)=entsErr D n (lE xs):=by unfold shE;rw [if_neg (by simpa using hr)]
   rw [hs] at hok
   rw [hr,errV_zero] at h1
   have HR1:Hid (∀ w',Below (ownOut w A0 n cap 24).heap.size (ownOut w A0 n cap 24) w'→Calls Tryz.prog 17 #[.agg #[.slice A0 n cap],.slice AE xs.length ce] w' fun r w''=>r=.returned (.iface 65 (.int .i64 (shE D n (lE xs))))∧Below w'.heap.size w' w''):=fun w' hb=>by
    have h:=icheck_any A0 cap n D A C AE ce xs w' (hM.later (onB hB0 hb)) (hEn.later (onB hB0 hb))
    rw [errV_some hok,←hs] at h
    exact h
   have hat:=ownOut_at w A0 n cap 24
   have hsz:=ownOut_size w A0 n cap 24
   generalize shE D n (lE xs)=c at HR1 HE
   generalize xs.length=xl at HR1
   clear hok hr hM hEn hT hB0 hf hs
   go_enter Tryz.func6,Tryz.ntmps6
   go_wp2_with fail
   refine h1.mono ?_
   rintro e w1 ⟨rfl,hb1⟩
   have hc1:w1.cell? ⟨w.heap.size,0,none⟩=some (.slice A0 n cap):=(hb1.cell (p:=⟨w.heap.size,0,none⟩) (by show w.heap.size<_;omega)).trans hat
   have h2:=HR1.out w1 hb1
   have HB1:=hid_of (onB HB0.out hb1)
   clear h1 hb1
   go_wp2_with fail
   refine h2.mono ?_
   rintro e w2 ⟨rfl,hb2⟩
   go_wp2_with fail
   go_ret2
   rw [HV.out,HE.out]
   exact ⟨rfl,onB HB1.out hb2⟩
  ·have hs:shE D n (lE xs)=(ruErr D n).2.2:=by unfold shE;rw [if_pos hr]
   rw [errV_some hr,←hs] at h1
   generalize shE D n (lE xs)=c at h1 HE
   generalize xs.length=xl
   clear hok hr hM hEn hT hB0 hf hs
   go_enter Tryz.func6,Tryz.ntmps6
   go_wp2_with fail
   refine h1.mono ?_
   rintro e w1 ⟨rfl,hb1⟩
   go_wp2_with fail
   go_ret2
   rw [HV.out,HE.out]
   exact ⟨rfl,onB HB0.out hb1⟩
end Go.Proofs.YtinebmjpdkjooaaGreatDoor
namespace Go.Proofs.YtinebmjpdkjooaaGreatDoor
open Go.ChangeShapes Go.WideShapes Go.ChangeAt Go.RowKit
set_option maxRecDepth 20000
theorem samepl_end {a b:List Int} (hl:a.length=b.length) {k:Nat} (hk:a.length≤k) (h:∀ j,j<k→a.getD j 0=b.getD j 0):a=b:=by
 apply List.ext_getElem hl
 intro i h1 h2
 have:=h i (by omega)
 simpa [List.getD,h1,h2] using this
set_option maxHeartbeats 1000000 in
theorem samepl_any (A B:Option Addr) (ca cb:Nat) (a b:List Int) (w:World) (hn:a.length≤4) (hA:PlAt w A ca a) (hB:PlAt w B cb b):Calls Tryz.prog 33 #[.slice A a.length ca,.slice B b.length cb] w fun e w'=>e=.returned (.bool (decide (a=b)))∧Below w.heap.size w w':=by
 by_cases hl:a.length=b.length
 ·obtain ⟨hc,h0 | ⟨g,o,rfl,hbw,hcell⟩⟩:=hA
  ·subst h0
   have h1:b=[]:=List.eq_nil_of_length_eq_zero hl.symm
   subst h1
   simp only [List.length_nil]
   go_enter Tryz.func33,Tryz.ntmps33
   go_wp2_with fail
   refine wp_loop_rounds 1 ?_
   rw [rounds_succ]
   go_wp2_with fail
   go_ret
   exact ⟨rfl,Below.refl _ _⟩
  ·obtain ⟨hc',h0 | ⟨g',o',rfl,hbw',hcell'⟩⟩:=hB
   ·subst h0
    have h1:a=[]:=List.eq_nil_of_length_eq_zero hl
    subst h1
    simp only [List.length_nil]
    go_enter Tryz.func33,Tryz.ntmps33
    go_wp2_with fail
    refine wp_loop_rounds 1 ?_
    rw [rounds_succ]
    go_wp2_with fail
    go_ret
    exact ⟨rfl,Below.refl _ _⟩
   ·have HC:Hid (∀ j,j<a.length→w.cell? ⟨g,o+j,none⟩=some (.int .i64 (a.getD j 0))):=hcell
    have HC':Hid (∀ j,j<a.length→w.cell? ⟨g',o'+j,none⟩=some (.int .i64 (b.getD j 0))):=fun j hj=>hcell' j (by omega)
    have HE:Hid (∀ k,a.length≤k→(∀ j,j<k→a.getD j 0=b.getD j 0)→decide (a=b)=true):=fun k hk h=>decide_eq_true (samepl_end hl hk h)
    have HN:Hid (∀ k,a.getD k 0≠b.getD k 0→decide (a=b)=false):=fun k h=>decide_eq_false fun e=>h (by rw [e])
    rw [←hl]
    rw [←hl] at hc'
    generalize hnn:a.length=n at hn hc hc' HC HC' HE
    generalize decide (a=b)=res at HE HN
    clear hcell hcell' hnn hl
    have hn':(n:Int)≤4:=by omega
    go_enter Tryz.func33,Tryz.ntmps33
    go_wp2_with fail
    go_loopg [5] n (fun gg s5 wr => ∃ (k:Nat),k≤n∧gg=n-k∧s5=.int .i64 k∧(∀ j,j<k→a.getD j 0=b.getD j 0)∧Below w.heap.size w wr)
    case atStart=>exact ⟨0,Nat.zero_le _,rfl,rfl,fun j hj=>absurd hj (Nat.not_lt_zero _),Below.refl _ _⟩
    case round =>
     obtain ⟨k,hk,rfl,rfl,hsame,hBw⟩:=hrel
     have HBw:Hid (Below w.heap.size w wr):=hBw
     have HS:Hid (∀ j,j<k→a.getD j 0=b.getD j 0):=hsame
     clear hsame
     by_cases hlt:k<n
     ·have hki:(k:Int)<(n:Int):=by omega
      have x1:=(hBw.cell (p:=⟨g,o+k,none⟩) hbw).trans (HC.out k hlt)
      have x2:=(hBw.cell (p:=⟨g',o'+k,none⟩) hbw').trans (HC'.out k hlt)
      by_cases hxy:a.getD k 0=b.getD k 0
      ·have HXY:Hid (a.getD k 0=b.getD k 0):=hxy
       rw [←hxy] at x2
       generalize a.getD k 0=x at x1 x2
       clear hBw hxy
       go_wp2_with fail
       go_quiet (fail)
       go_wp2_with fail
       go_roundg (n-(k+1))
       case measure=>omega
       case rel =>
        refine ⟨k+1,by omega,rfl,by go_num,fun j hj=>?_,below_drewN HBw.out _⟩
        rcases Nat.lt_succ_iff_lt_or_eq.1 hj with h1 | rfl
        ·exact HS.out j h1
        ·exact HXY.out
      ·have HR:Hid (res=false):=HN.out k hxy
       generalize a.getD k 0=x at x1 hxy
       generalize b.getD k 0=y at x2 hxy
       clear hBw
       go_wp2_with fail
       go_quiet (fail)
       go_wp2_with fail
       go_ret
       rw [HR.out]
       exact ⟨rfl,below_drewN HBw.out _⟩
     ·have hke:k=n:=by omega
      subst hke
      have HR:Hid (res=true):=HE.out k (Nat.le_refl _) HS.out
      go_wp2_with fail
      go_ret
      rw [HR.out]
      exact ⟨rfl,hBw⟩
 ·have hr:decide (a=b)=false:=decide_eq_false fun e=>hl (by rw [e])
  rw [hr]
  have hl' : ¬ ((a.length:Int)=(b.length:Int)):=by omega
  clear hA hB hr
  generalize a.length=n at hl hl' hn
  generalize b.length=m at hl hl'
  go_enter Tryz.func33,Tryz.ntmps33
  go_wp2_with fail
  go_ret
  exact ⟨rfl,Below.refl _ _⟩
theorem keepE {W w':World} {b o b' o':Nat} {u v:Value} (h:b<W.heap.size∧b'<W.heap.size∧W.cell? ⟨b,o,none⟩=some u∧W.cell? ⟨b',o',none⟩=some v) (hB:Below W.heap.size W w'):Below W.heap.size W w'∧w'.cell? ⟨b,o,none⟩=some u∧w'.cell? ⟨b',o',none⟩=some v :=
 ⟨hB,(hB.cell (p:=⟨b,o,none⟩) h.1).trans h.2.2.1,(hB.cell (p:=⟨b',o',none⟩) h.2.1).trans h.2.2.2⟩
set_option maxHeartbeats 8000000 in
theorem sameents_any (A B:Option Addr) (ca cb:Nat) (xs ys:List EnL) (w:World) (hl:lE xs=lE ys) (hn:xs.length≤3000) (hS:∀ k,k<xs.length→(xs.getD k noL).e.pl.length≤4) (hA:EnsV w A ca xs) (hB:EnsV w B cb ys) :
  Calls Tryz.prog 11 #[.slice A xs.length ca,.slice B ys.length cb] w fun e w'=>e=.returned (.bool true)∧Below w.heap.size w w':=by
 have hll:ys.length=xs.length:=by rw [←lE_len,←hl,lE_len]
 have HA:Hid (EnsV w A ca xs):=hA
 have HB:Hid (EnsV w B cb ys):=hB
 have HEq:Hid (∀ k,(ys.getD k noL).e=(xs.getD k noL).e):=fun k=>by rw [←lE_at,←lE_at,hl]
 have HS:Hid (∀ k,k<xs.length→(xs.getD k noL).e.pl.length≤4):=hS
 obtain ⟨n,hnn⟩:∃ n,xs.length=n:=⟨_,rfl⟩
 have HN:Hid (xs.length=n):=hnn
 have HN2:Hid (ys.length=n):=hll.trans hnn
 rw [hll]
 rw [hnn] at hn ⊢
 have hn':(n:Int)≤3000:=by omega
 clear hA hB hl hS hll hnn
 go_enter Tryz.func11,Tryz.ntmps11
 go_wp2_with fail
 go_loopg [5] n (fun g s5 wr => ∃ (k:Nat),k≤n∧g=n-k∧s5=.int .i64 k∧Below w.heap.size w wr)
 case atStart=>exact ⟨0,Nat.zero_le _,rfl,rfl,Below.refl _ _⟩
 case round =>
  obtain ⟨k,hk,rfl,rfl,hBw⟩:=hrel
  have HBw:Hid (Below w.heap.size w wr):=hBw
  by_cases hlt:k<n
  ·have hki:(k:Int)<(n:Int):=by omega
   obtain ⟨-,-,h0 | ⟨b,o,rfl,hXs⟩⟩:=HA.out.later hBw
   ·have:=HN.out;rw [h0] at this;simp at this;omega
   obtain ⟨-,-,h0 | ⟨b',o',rfl,hYs⟩⟩:=HB.out.later hBw
   ·have:=HN2.out;rw [h0] at this;simp at this;omega
   obtain ⟨c1,c2⟩:=hXs.at (k:=k) (by rw [HN.out];exact hlt)
   obtain ⟨d1,d2⟩:=hYs.at (k:=k) (by rw [HN2.out];exact hlt)
   have hp1:=hXs.pl (k:=k) (by rw [HN.out];exact hlt)
   have hp2:=hYs.pl (k:=k) (by rw [HN2.out];exact hlt)
   rw [HEq.out k] at d1 d2 hp2
   have HSm:Hid (∀ w',Below wr.heap.size wr w'→Calls Tryz.prog 33 #[.slice (xs.getD k noL).A (xs.getD k noL).e.pl.length (xs.getD k noL).c,.slice (ys.getD k noL).A (xs.getD k noL).e.pl.length (ys.getD k noL).c] w' fun e w''=>e=.returned (.bool true)∧Below w'.heap.size w' w''):=fun w' hw'=>by
    have h:=samepl_any _ _ _ _ _ _ w' (HS.out k (by rw [HN.out];exact hlt)) (hp1.later hw') (hp2.later hw')
    rw [decide_eq_true rfl] at h
    exact h
   have hb1:=hXs.1
   have hb2:=hYs.1
   generalize (xs.getD k noL).A=A1 at c1 HSm
   generalize (xs.getD k noL).c=k1 at c1 HSm
   generalize (ys.getD k noL).A=A2 at d1 HSm
   generalize (ys.getD k noL).c=k2 at d1 HSm
   generalize (xs.getD k noL).e.n=n1 at c2 d2
   generalize (xs.getD k noL).e.pl.length=m1 at c1 d1 HSm
   have HC:Hid (b<wr.heap.size∧b'<wr.heap.size∧wr.cell? ⟨b,o+k*2,none⟩=some (.slice A1 m1 k1)∧wr.cell? ⟨b',o'+k*2,none⟩=some (.slice A2 m1 k2)):=⟨hb1,hb2,c1,d1⟩
   have HC2:Hid (wr.cell? ⟨b,o+k*2+1,none⟩=some (.int .i64 n1)∧wr.cell? ⟨b',o'+k*2+1,none⟩=some (.int .i64 n1)):=⟨c2,d2⟩
   clear hXs hYs hp1 hp2 c1 c2 d1 d2 hBw
   go_wp2_with fail
   go_cut [6] (fun s6 wx=>s6=.bool true∧Below wr.heap.size wr wx)
   case first=>as_aux_lemma =>
    go_region_held3 (fun w'=>Below wr.heap.size wr w'∧w'.cell? ⟨b,o+k*2,none⟩=some (.slice A1 m1 k1)∧w'.cell? ⟨b',o'+k*2,none⟩=some (.slice A2 m1 k2))
     ((refine keepE HC.out ?_;go_grown;done))
     (first | (go_at_call 33;refine (HSm.out _ (by go_grown)).mono ?_;rintro e w3 ⟨rfl,hb3⟩;have hN3:=onB (W0:=wr) (by go_grown) hb3;have hy3:=hN3.size;clear hb3))
    all_goals go_wp2_with fail
    all_goals go_meet
    all_goals exact ⟨rfl,by go_grown⟩
   case rest=>as_aux_lemma =>
   obtain ⟨rfl,hb⟩:=hcut
   obtain ⟨w2,rfl⟩:∃ w2:World,w2=wc:=⟨_,rfl⟩
   have HB2:Hid (Below wr.heap.size wr w2):=hb
   have f1:w2.cell? ⟨b,o+k*2+1,none⟩=some (.int .i64 n1):=(hb.cell (p:=⟨b,o+k*2+1,none⟩) hb1).trans HC2.out.1
   have f2:w2.cell? ⟨b',o'+k*2+1,none⟩=some (.int .i64 n1):=(hb.cell (p:=⟨b',o'+k*2+1,none⟩) hb2).trans HC2.out.2
   clear hb HC HC2 HSm
   go_wp2_with fail
   go_quiet (fail)
   go_wp2_with fail
   go_roundg (n-(k+1))
   case measure=>omega
   case rel=>exact ⟨k+1,by omega,rfl,by go_num,below_drewN (onB HBw.out HB2.out) _⟩
  ·have hke:k=n:=by omega
   subst hke
   go_wp2_with fail
   go_ret
   exact ⟨rfl,hBw⟩
end Go.Proofs.YtinebmjpdkjooaaGreatDoor
