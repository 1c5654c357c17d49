/-
  What the document's Entries and Input answer, called in whatever memory.
-/
import Derived.Test.YtenlladggdcfnaaGreatDoorJABF
namespace Go.Proofs.YtenlladggdcfnaaGreatDoor
open Go.ChangeShapes Go.WideShapes Go.ChangeAt Go.RowKit
set_option maxRecDepth 20000
set_option maxHeartbeats 4000000 in
theorem rinput_any (A:Option Addr) (cap:Nat) (xs:List EnL) (Ap:Option Addr) (cp:Nat) (p:List Int) (w:World) (hn:xs.length≤3000) (hE:EnsV w A cap xs) (hS:Short xs p) (hP:PlAt w Ap cp p) :
  Calls Tryz.prog 22 #[.slice A xs.length cap,.slice Ap p.length cp] w fun e w'=>e=.returned (.agg #[.int .i64 (getE (lE xs) p).1,.int .i64 (getE (lE xs) p).2])∧Below w.heap.size w w':=by
 obtain ⟨v0,hv0⟩:∃ v0,w.alloc (.cells #[.int .i64 0,.int .i64 0] 58)=v0:=⟨_,rfl⟩
 have hB0:Below w.heap.size w v0:=by rw [←hv0];go_grown
 have h:=rfind_any A cap xs Ap cp p v0 hn (hE.later hB0) hS (hP.later hB0)
 have HB0:Hid (Below w.heap.size w v0):=hB0
 have k0:v0.heap[w.heap.size]?=some (.cells #[.int .i64 0,.int .i64 0] 58):=by rw [←hv0];exact heap_alloc_new w _
 have hz0:w.heap.size<v0.heap.size:=by rw [←hv0];simp
 have HK0:Hid (v0.heap[w.heap.size]?=some (.cells #[.int .i64 0,.int .i64 0] 58)):=k0
 have HE:Hid (EnsV w A cap xs):=hE
 clear hP hB0 k0
 cases hh:hasE (lE xs) p
 ·have HV:Hid (getE (lE xs) p=(0,0)):=by
   show _=_
   rcases Nat.lt_or_ge (cntE (lE xs) p) (lE xs).length with h1 | h1
   ·have hx:=has_in (l:=lE xs) (p:=p) rfl h1
    rw [hx.1] at hh
    rw [hx.2,if_pos (by simpa using hh)]
   ·exact (has_out rfl h1).2
  rw [hh] at h
  generalize cntE (lE xs) p=i at h
  generalize getE (lE xs) p=V at HV
  generalize xs.length=n at h hn
  generalize p.length=np at h
  clear hh hE hS
  go_enter Tryz.func22,Tryz.ntmps22
  go_wp2_with fail
  clear hv0
  refine h.mono ?_
  rintro e w1 ⟨rfl,hb1⟩
  have k1:w1.heap[w.heap.size]?=some (.cells #[.int .i64 0,.int .i64 0] 58):=(hb1.block _ hz0).trans HK0.out
  have d0:w1.cell? ⟨w.heap.size,0,none⟩=some (.int .i64 0):=by rw [Lib.cell_of_heap k1];rfl
  have d1:w1.cell? ⟨w.heap.size,1,none⟩=some (.int .i64 0):=by rw [Lib.cell_of_heap k1];rfl
  have f0:w1.frozen? ⟨w.heap.size,0,none⟩=false:=Lib.frozen_of_heap k1 0
  have f1:w1.frozen? ⟨w.heap.size,1,none⟩=false:=Lib.frozen_of_heap k1 1
  have HB1:Hid (Below w.heap.size w w1):=onB HB0.out hb1
  clear hb1 k1 h
  go_wp2_with fail
  refine bodyPost_ret (v:=.agg #[.int .i64 0,.int .i64 0]) (by simp [results,Tryz.results22,go_sem,d0,d1]) rfl ⟨by rw [HV.out],?_⟩
  exact (HB1.out.setCell (Nat.le_refl _) _).setCell (Nat.le_refl _) _
 ·have hi:=clr_in hh
  have hx:=has_in (l:=lE xs) (p:=p) rfl hi
  have HV:Hid (getE (lE xs) p=(1,(xs.getD (cntE (lE xs) p) noL).e.n)):=by
   show _=_
   rw [hx.1] at hh
   rw [hx.2,if_neg (by simpa using hh),lE_at]
  rw [lE_len] at hi
  rw [hh] at h
  obtain ⟨n,hnn⟩:∃ n,xs.length=n:=⟨_,rfl⟩
  have HN:Hid (xs.length=n):=hnn
  rw [hnn] at h hn hi ⊢
  generalize cntE (lE xs) p=i at h hi HV
  generalize getE (lE xs) p=V at HV
  generalize hgn:(xs.getD i noL).e.n=num at HV
  have HGN:Hid ((xs.getD i noL).e.n=num):=hgn
  generalize p.length=np at h
  have hi':(i:Int)<(n:Int):=by omega
  clear hh hE hS hx hgn hnn
  go_enter Tryz.func22,Tryz.ntmps22
  go_wp2_with fail
  clear hv0
  refine h.mono ?_
  rintro e w1 ⟨rfl,hb1⟩
  have k1:w1.heap[w.heap.size]?=some (.cells #[.int .i64 0,.int .i64 0] 58):=(hb1.block _ hz0).trans HK0.out
  have d0:w1.cell? ⟨w.heap.size,0,none⟩=some (.int .i64 0):=by rw [Lib.cell_of_heap k1];rfl
  have d1:w1.cell? ⟨w.heap.size,1,none⟩=some (.int .i64 0):=by rw [Lib.cell_of_heap k1];rfl
  have f0:w1.frozen? ⟨w.heap.size,0,none⟩=false:=Lib.frozen_of_heap k1 0
  have f1:w1.frozen? ⟨w.heap.size,1,none⟩=false:=Lib.frozen_of_heap k1 1
  have hB1:Below w.heap.size w w1:=onB HB0.out hb1
  have HB1:Hid (Below w.heap.size w w1):=hB1
  obtain ⟨-,-,h0 | ⟨b,o,rfl,hA⟩⟩:=HE.out.later hB1
  ·have:=HN.out;rw [h0] at this;simp at this;omega
  have c3:=(hA.at (k:=i) (by rw [HN.out];exact hi)).2
  rw [HGN.out] at c3
  clear hb1 k1 h hB1 hA
  go_wp2_with fail
  refine bodyPost_ret (v:=.agg #[.int .i64 1,.int .i64 num]) (by simp [results,Tryz.results22,go_sem,d0,d1]) rfl ⟨by rw [HV.out],?_⟩
  exact (HB1.out.setCell (Nat.le_refl _) _).setCell (Nat.le_refl _) _
theorem keep2 {W w':World} {q b o1:Nat} {u v:Value} (h:q<W.heap.size∧b<W.heap.size∧W.cell? ⟨q,0,none⟩=some u∧W.cell? ⟨b,o1,none⟩=some v) (hB:Below W.heap.size W w'):Below W.heap.size W w'∧w'.cell? ⟨q,0,none⟩=some u∧w'.cell? ⟨b,o1,none⟩=some v :=
 ⟨hB,(hB.cell (p:=⟨q,0,none⟩) h.1).trans h.2.2.1,(hB.cell (p:=⟨b,o1,none⟩) h.2.1).trans h.2.2.2⟩
theorem keepL {W w':World} {b o1 o2:Nat} {u v:Value} (h:b<W.heap.size∧W.cell? ⟨b,o1,none⟩=some u∧W.cell? ⟨b,o2,none⟩=some v) (hB:Below W.heap.size W w'):Below W.heap.size W w'∧w'.cell? ⟨b,o1,none⟩=some u∧w'.cell? ⟨b,o2,none⟩=some v :=
 ⟨hB,(hB.cell (p:=⟨b,o1,none⟩) h.1).trans h.2.1,(hB.cell (p:=⟨b,o2,none⟩) h.1).trans h.2.2⟩
set_option maxHeartbeats 16000000 in
theorem rentries_any (A0:Option Addr) (cap n:Nat) (D:Nat→Dm) (A:Nat→Option Addr) (C:Nat→Nat) (AE:Option Addr) (ce:Nat) (xs:List EnL) (w:World) (hM:DimsV w A0 cap n D A C) (hE:EnsV w AE ce xs) :
  Calls Tryz.prog 37 #[.agg #[.slice A0 n cap],.slice AE xs.length ce] w fun r w'=>r=.returned (.int .i64 (entsErr D n (lE xs)))∧Below w.heap.size w w':=by
 have hB0:=ownOut_below w A0 n cap 25
 have h:=rright_any A0 cap n D A C (ownOut w A0 n cap 25) (hM.later hB0)
 have HB0:Hid (Below w.heap.size w (ownOut w A0 n cap 25)):=hB0
 have HM:Hid (DimsV w A0 cap n D A C):=hM
 have HE:Hid (EnsV w AE ce xs):=hE
 clear hM hB0
 by_cases hR:(allErr D n).2.2=0
 ·have HR:Hid ((allErr D n).2.2=0):=hR
  have HV:Hid (entsErr D n (lE xs)=entFrom D n (qOf (lE xs) 0) ((lE xs).drop 0)):=ents_in _ hR
  rw [hR] at h
  obtain ⟨N,hN⟩:∃ N,xs.length=N:=⟨_,rfl⟩
  have HN:Hid (xs.length=N):=hN
  have hNb:(N:Int)≤9223372036854775807:=by have h1:=hE.1;have h2:=hE.2.1;omega
  rw [hN]
  generalize entsErr D n (lE xs)=RES at HV
  clear hR hN hE
  go_enter Tryz.func37,Tryz.ntmps37
  go_wp2_with fail
  refine h.mono ?_
  rintro e w1 ⟨rfl,hb1⟩
  have hB:Below w.heap.size w w1:=onB HB0.out hb1
  have hz:w.heap.size<w1.heap.size:=by have:=hb1.size;rw [ownOut_size] at this;omega
  have h2:w1.cell? ⟨w.heap.size,0,none⟩=some (.slice A0 n cap):=(hb1.cell (p:=⟨w.heap.size,0,none⟩) (by show w.heap.size<_;rw [ownOut_size];omega)).trans (ownOut_at ..)
  have HM1:Hid (DimsV w1 A0 cap n D A C):=HM.out.later hB
  have HE1:Hid (EnsV w1 AE ce xs):=HE.out.later hB
  have HB:Hid (Below w.heap.size w w1):=hB
  clear hb1 h hB HM HE HB0
  go_wp2_with fail
  go_loopg [6] N (fun g s6 wr => ∃ (k:Nat),k≤N∧g=N-k∧s6=.int .i64 k∧Hid (entFrom D n (qOf (lE xs) k) ((lE xs).drop k)=entFrom D n (qOf (lE xs) 0) ((lE xs).drop 0))∧Hid (∀ j,j<k→entOne D n ((lE xs).getD j noEn)=0)∧Below w1.heap.size w1 wr)
  case atStart=>exact ⟨0,Nat.zero_le _,rfl,rfl,(rfl:entFrom D n (qOf (lE xs) 0) ((lE xs).drop 0)=entFrom D n (qOf (lE xs) 0) ((lE xs).drop 0)),fun j hj=>absurd hj (Nat.not_lt_zero _),Below.refl _ _⟩
  case round =>
   obtain ⟨k,hk,rfl,rfl,HF,HO,hBw⟩:=hrel
   have HBw:Hid (Below w1.heap.size w1 wr):=hBw
   by_cases hlt:k<N
   ·have hkx:k<xs.length:=by rw [HN.out];exact hlt
    have hki:(k:Int)<(N:Int):=by omega
    have hk1:(k:Int)+1≤9223372036854775807:=by omega
    obtain ⟨-,-,h0 | ⟨b,o,rfl,hEs⟩⟩:=HE1.out.later hBw
    ·have:=HN.out;rw [h0] at this;simp at this;omega
    obtain ⟨c1,c2⟩:=hEs.at hkx
    have c0:wr.cell? ⟨w.heap.size,0,none⟩=some (.slice A0 n cap):=(hBw.cell (p:=⟨w.heap.size,0,none⟩) hz).trans h2
    have hzr:w.heap.size<wr.heap.size:=Nat.lt_of_lt_of_le hz hBw.size
    have hbb:=hEs.1
    have HMr:Hid (DimsV wr A0 cap n D A C):=HM1.out.later hBw
    have HEs:Hid (EnsAt wr b o xs):=hEs
    have HPl:Hid (∀ w',Below wr.heap.size wr w'→Calls Tryz.prog 19 #[.agg #[.slice A0 n cap],.slice (xs.getD k noL).A (xs.getD k noL).e.pl.length (xs.getD k noL).c] w' fun e w''=>e=.returned (.int .i64 (shapeErr D n (xs.getD k noL).e.pl))∧Below w'.heap.size w' w''):=fun w' hw'=>rplace_any A0 cap n D A C _ _ _ w' HR.out (HMr.out.later hw') ((HEs.out.pl hkx).later hw')
    have HLf:Hid (shapeErr D n (xs.getD k noL).e.pl=0→∀ w',Below wr.heap.size wr w'→Calls Tryz.prog 40 #[.agg #[.slice A0 n cap],.slice (xs.getD k noL).A (xs.getD k noL).e.pl.length (xs.getD k noL).c] w' fun e w''=>e=.returned (.bool (leafV D n (xs.getD k noL).e.pl))∧Below w'.heap.size w' w''):=fun hs w' hw'=>rleafplace_any A0 cap n D A C _ _ _ w' (inO_of (by rw [pe1 HR.out];exact hs)) (HMr.out.later hw') ((HEs.out.pl hkx).later hw')
    have HOne:Hid (entOne D n (xs.getD k noL).e=if shapeErr D n (xs.getD k noL).e.pl≠0 then shapeErr D n (xs.getD k noL).e.pl else if leafV D n (xs.getD k noL).e.pl=false then 6 else if numOk (xs.getD k noL).e.n=false then 1 else 0):=rfl
    have HBad:Hid (entOne D n (xs.getD k noL).e≠0→RES=entOne D n (xs.getD k noL).e):=fun he=>by rw [HV.out,←HF.out,ent_bad (by rw [lE_len];exact hkx) (by rw [lE_at];exact he),lE_at]
    have HOn:Hid (entOne D n (xs.getD k noL).e=0→∀ t,aheadOk (qOf (lE xs) k) (xs.getD k noL).e.pl=t→(t=false→RES=7)∧(t=true→entFrom D n (qOf (lE xs) (k+1)) ((lE xs).drop (k+1))=entFrom D n (qOf (lE xs) 0) ((lE xs).drop 0))):=fun he t ht=>by
     rw [←lE_at] at he ht
     refine ⟨fun h1=>?_,fun h1=>?_⟩
     ·rw [HV.out,←HF.out,ent_clash (by rw [lE_len];exact hkx) he (by rw [ht];exact h1)]
     ·rw [←ent_on (by rw [lE_len];exact hkx) he (by rw [ht];exact h1)];exact HF.out
    have HK0:Hid (entOne D n (xs.getD k noL).e=0→entOne D n ((lE xs).getD k noEn)=0):=fun he=>by rw [lE_at];exact he
    have HPrev:Hid (∀ j,k=j+1→entOne D n (xs.getD k noL).e=0→(∃ A2 m2 k2,wr.cell? ⟨b,o+j*2,none⟩=some (.slice A2 m2 k2)∧∀ w',Below wr.heap.size wr w'→Calls Tryz.prog 62 #[.slice A2 m2 k2,.slice (xs.getD k noL).A (xs.getD k noL).e.pl.length (xs.getD k noL).c] w' fun e w''=>e=.returned (.bool (aheadOk (qOf (lE xs) k) (xs.getD k noL).e.pl))∧Below w'.heap.size w' w'')):=fun j hj he=>by
     have hjx:j<xs.length:=by omega
     have h3:=entOne_right HR.out he
     have h4:=entOne_right HR.out (HO.out j (by omega))
     rw [lE_at] at h4
     refine ⟨_,_,_,(HEs.out.at hjx).1,fun w' hw'=>?_⟩
     have h5:=rless_any _ _ _ _ _ _ w' (inO_short h4.1) (inO_short h3.1) ((HEs.out.pl hjx).later hw') ((HEs.out.pl hkx).later hw')
     have h6:aheadOk (qOf (lE xs) k) (xs.getD k noL).e.pl=lessL (xs.getD j noL).e.pl (xs.getD k noL).e.pl:=by rw [hj,←lE_at xs j];rfl
     rw [h6]
     exact h5
    have HQ0:Hid (k=0→aheadOk (qOf (lE xs) k) (xs.getD k noL).e.pl=true):=fun h0=>by rw [h0];rfl
    clear hEs hBw
    generalize aheadOk (qOf (lE xs) k) (xs.getD k noL).e.pl=tA at HOn HPrev HQ0
    generalize entOne D n (xs.getD k noL).e=E1 at HOne HBad HOn HK0 HPrev
    generalize shapeErr D n (xs.getD k noL).e.pl=SE at HPl HLf HOne
    generalize leafV D n (xs.getD k noL).e.pl=lf at HLf HOne
    generalize (xs.getD k noL).A=A1 at c1 HPl HLf HPrev
    generalize (xs.getD k noL).c=k1 at c1 HPl HLf HPrev
    generalize (xs.getD k noL).e.n=n1 at c2 HOne
    generalize (xs.getD k noL).e.pl.length=m1 at c1 HPl HLf HPrev
    have HC0:Hid (w.heap.size<wr.heap.size∧b<wr.heap.size∧wr.cell? ⟨w.heap.size,0,none⟩=some (.slice A0 n cap)∧wr.cell? ⟨b,o+k*2,none⟩=some (.slice A1 m1 k1)):=⟨hzr,hbb,c0,c1⟩
    have HC2:Hid (wr.cell? ⟨b,o+k*2+1,none⟩=some (.int .i64 n1)):=c2
    clear c0 c1 c2
    go_wp2_with fail
    go_cut [5] (fun s5 wx=>s5=.int .i64 SE∧Below wr.heap.size wr wx)
    case first=>as_aux_lemma =>
     go_region_held3 (fun w'=>Below wr.heap.size wr w'∧w'.cell? ⟨w.heap.size,0,none⟩=some (.slice A0 n cap)∧w'.cell? ⟨b,o+k*2,none⟩=some (.slice A1 m1 k1))
      ((refine keep2 HC0.out ?_;go_grown;done))
      (first | (go_at_call 19;refine (HPl.out _ (by go_grown)).mono ?_;rintro e w3 ⟨rfl,hb3⟩;have hN3:=onB (W0:=wr) (by go_grown) hb3;have hy3:=hN3.size;clear hb3))
     all_goals go_wp2_with fail
     all_goals go_meet
     all_goals exact ⟨rfl,by go_grown⟩
    case rest=>as_aux_lemma =>
    obtain ⟨rfl,hb⟩:=hcut
    obtain ⟨w2,rfl⟩:∃ w2:World,w2=wc:=⟨_,rfl⟩
    have HB2:Hid (Below wr.heap.size wr w2):=hb
    clear hb
    by_cases hSE:SE=0
    ·have HLf2:=HLf.out hSE
     have HLf3:Hid (∀ w',Below wr.heap.size wr w'→Calls Tryz.prog 40 #[.agg #[.slice A0 n cap],.slice A1 m1 k1] w' fun e w''=>e=.returned (.bool lf)∧Below w'.heap.size w' w''):=HLf2
     have HC3:Hid (w.heap.size<w2.heap.size∧b<w2.heap.size∧w2.cell? ⟨w.heap.size,0,none⟩=some (.slice A0 n cap)∧w2.cell? ⟨b,o+k*2,none⟩=some (.slice A1 m1 k1)):=⟨Nat.lt_of_lt_of_le HC0.out.1 HB2.out.size,Nat.lt_of_lt_of_le HC0.out.2.1 HB2.out.size,(keep2 HC0.out HB2.out).2.1,(keep2 HC0.out HB2.out).2.2⟩
     have hOne2:E1=if lf=false then 6 else if numOk n1=false then 1 else 0:=by rw [HOne.out,if_neg (by simpa using hSE)]
     have HOne2:Hid (E1=if lf=false then 6 else if numOk n1=false then 1 else 0):=hOne2
     subst hSE
     clear hOne2 HLf2
     go_wp2_with fail
     go_cut [7] (fun s7 wx=>s7=.bool lf∧Below w2.heap.size w2 wx)
     case first=>as_aux_lemma =>
      go_region_held3 (fun w'=>Below w2.heap.size w2 w'∧w'.cell? ⟨w.heap.size,0,none⟩=some (.slice A0 n cap)∧w'.cell? ⟨b,o+k*2,none⟩=some (.slice A1 m1 k1))
       ((refine keep2 HC3.out ?_;go_grown;done))
       (first | (go_at_call 40;refine (HLf3.out _ (onB HB2.out (by go_grown))).mono ?_;rintro e w3 ⟨rfl,hb3⟩;have hN3:=onB (W0:=w2) (by go_grown) hb3;have hy3:=hN3.size;clear hb3))
      all_goals go_wp2_with fail
      all_goals go_meet
      all_goals exact ⟨rfl,by go_grown⟩
     case rest=>as_aux_lemma =>
     obtain ⟨rfl,hb⟩:=hcut
     obtain ⟨w3,rfl⟩:∃ w3:World,w3=wc:=⟨_,rfl⟩
     have HB3:Hid (Below wr.heap.size wr w3):=onB HB2.out hb
     clear hb HC3 HLf3 HB2
     cases lf
     ·have HRes:Hid (RES=6):=by
       have e6:E1=6:=by rw [HOne2.out];rfl
       show _=_
       rw [HBad.out (by rw [e6];decide),e6]
      go_wp2_with fail
      go_ret
      rw [HRes.out]
      exact ⟨rfl,onB HB.out (onB HBw.out HB3.out)⟩
     ·have c3:w3.cell? ⟨b,o+k*2+1,none⟩=some (.int .i64 n1):=(HB3.out.cell (p:=⟨b,o+k*2+1,none⟩) hbb).trans HC2.out
      by_cases hlo:n1 < -1000000
      ·have HRes:Hid (RES=1):=by
        have e1:E1=1:=by rw [HOne2.out,if_neg (by decide),if_pos (by simp [numOk];omega)]
        show _=_
        rw [HBad.out (by rw [e1];decide),e1]
       go_wp2_with fail
       go_ret
       rw [HRes.out]
       exact ⟨rfl,onB HB.out (onB HBw.out HB3.out)⟩
      by_cases hhi:1000000<n1
      ·have HRes:Hid (RES=1):=by
        have e1:E1=1:=by rw [HOne2.out,if_neg (by decide),if_pos (by simp [numOk];omega)]
        show _=_
        rw [HBad.out (by rw [e1];decide),e1]
       go_wp2_with fail
       go_ret
       rw [HRes.out]
       exact ⟨rfl,onB HB.out (onB HBw.out HB3.out)⟩
      have e0:E1=0:=by rw [HOne2.out,if_neg (by decide),if_neg (by simp [numOk];omega)]
      have HT:Hid ((tA=false→RES=7)∧(tA=true→entFrom D n (qOf (lE xs) (k+1)) ((lE xs).drop (k+1))=entFrom D n (qOf (lE xs) 0) ((lE xs).drop 0))):=HOn.out e0 tA rfl
      have HKk:Hid (entOne D n ((lE xs).getD k noEn)=0):=HK0.out e0
      have HP2:Hid (∀ j,k=j+1→(∃ A2 m2 k2,wr.cell? ⟨b,o+j*2,none⟩=some (.slice A2 m2 k2)∧∀ w',Below wr.heap.size wr w'→Calls Tryz.prog 62 #[.slice A2 m2 k2,.slice A1 m1 k1] w' fun e w''=>e=.returned (.bool tA)∧Below w'.heap.size w' w'')):=fun j hj=>HPrev.out j hj e0
      clear HOne HOne2 HBad HOn HK0 HPrev HLf HPl e0
      rcases Nat.eq_zero_or_pos k with hk0 | hk0
      ·have HTr:Hid (entFrom D n (qOf (lE xs) (k+1)) ((lE xs).drop (k+1))=entFrom D n (qOf (lE xs) 0) ((lE xs).drop 0)):=HT.out.2 (HQ0.out hk0)
       subst hk0
       simp only [Nat.zero_mul,Nat.add_zero] at c3
       clear HP2 HQ0 HT HO HF
       go_wp2_with fail
       go_quiet (fail)
       go_wp2_with fail
       go_roundg (N-(0+1))
       case measure=>omega
       case rel =>
        refine ⟨0+1,by omega,rfl,by go_num,HTr.out,fun j hj=>?_,below_drewN (onB HBw.out HB3.out) _⟩
        have:j=0:=by omega
        rw [this]
        exact HKk.out
      ·obtain ⟨j,hj⟩:∃ j,k=j+1:=⟨k-1,by omega⟩
       obtain ⟨A2,m2,k2,hcell,hcalls⟩:=HP2.out j hj
       have HLs:Hid (∀ w',Below wr.heap.size wr w'→Calls Tryz.prog 62 #[.slice A2 m2 k2,.slice A1 m1 k1] w' fun e w''=>e=.returned (.bool tA)∧Below w'.heap.size w' w''):=hcalls
       have HC4:Hid (b<w3.heap.size∧w3.cell? ⟨b,o+j*2,none⟩=some (.slice A2 m2 k2)∧w3.cell? ⟨b,o+k*2,none⟩=some (.slice A1 m1 k1)):=⟨Nat.lt_of_lt_of_le hbb HB3.out.size,(HB3.out.cell (p:=⟨b,o+j*2,none⟩) hbb).trans hcell,(HB3.out.cell (p:=⟨b,o+k*2,none⟩) hbb).trans HC0.out.2.2.2⟩
       have hwr:IntKind.i64.wrap ((k:Int)-1)=(j:Int):=by rw [IntKind.wrap_i64];omega
       have hkz:((k:Int) == 0)=false:=by simp;omega
       have hkz' : ¬ ((k:Int)=0):=by omega
       have hjN:(j:Int)<(N:Int):=by omega
       clear hj hcell hcalls HP2 hk0
       go_wp2_with fail
       go_cut [8] (fun s8 wx=>s8=.bool tA∧Below w3.heap.size w3 wx)
       case first=>as_aux_lemma =>
        go_region_held3 (fun w'=>Below w3.heap.size w3 w'∧w'.cell? ⟨b,o+j*2,none⟩=some (.slice A2 m2 k2)∧w'.cell? ⟨b,o+k*2,none⟩=some (.slice A1 m1 k1))
         ((refine keepL HC4.out ?_;go_grown;done))
         (first | (go_at_call 62;refine (HLs.out _ (onB HB3.out (by go_grown))).mono ?_;rintro e w4 ⟨rfl,hb4⟩;have hN4:=onB (W0:=w3) (by go_grown) hb4;have hy4:=hN4.size;clear hb4))
        all_goals go_wp2_with fail
        all_goals go_meet
        all_goals exact ⟨rfl,by go_grown⟩
       case rest=>as_aux_lemma =>
       obtain ⟨rfl,hb⟩:=hcut
       obtain ⟨w4,rfl⟩:∃ w4:World,w4=wc:=⟨_,rfl⟩
       have HB4:Hid (Below wr.heap.size wr w4):=onB HB3.out hb
       clear hb HC4 HLs hwr hkz hkz' hjN c3
       cases tA
       ·have HRes:Hid (RES=7):=HT.out.1 rfl
        go_wp2_with fail
        go_ret
        rw [HRes.out]
        exact ⟨rfl,onB HB.out (onB HBw.out HB4.out)⟩
       ·have HTr:Hid (entFrom D n (qOf (lE xs) (k+1)) ((lE xs).drop (k+1))=entFrom D n (qOf (lE xs) 0) ((lE xs).drop 0)):=HT.out.2 rfl
        go_wp2_with fail
        go_roundg (N-(k+1))
        case measure=>omega
        case rel =>
         refine ⟨k+1,by omega,rfl,by go_num,HTr.out,fun i hi=>?_,onB HBw.out HB4.out⟩
         rcases Nat.lt_succ_iff_lt_or_eq.1 hi with h1 | rfl
         ·exact HO.out i h1
         ·exact HKk.out
    ·have HRes:Hid (RES=SE):=by
      have e1:E1=SE:=by rw [HOne.out,if_pos (by simpa using hSE)]
      show _=_
      rw [HBad.out (by rw [e1];exact hSE),e1]
     have hSE':(SE != 0)=true:=by simpa using hSE
     clear HLf HPl HOne HBad HOn HK0 HPrev hSE HC0 HC2 HEs HMr HE1 HM1 HO HF HQ0 hki hk1 hzr hbb
     go_wp2_with fail
     go_ret
     rw [HRes.out]
     exact ⟨rfl,onB HB.out (onB HBw.out HB2.out)⟩
   ·have hke:k=N:=by omega
    subst hke
    have HRes:Hid (RES=0):=by show _=_;rw [HV.out,←HF.out,ent_end (by rw [lE_len,HN.out];exact Nat.le_refl _)]
    clear hBw
    go_wp2_with fail
    go_ret
    rw [HRes.out]
    exact ⟨rfl,onB HB.out HBw.out⟩
 ·have HV:Hid (entsErr D n (lE xs)=(allErr D n).2.2):=ents_bad _ hR
  have hR':((allErr D n).2.2 == 0)=false:=by simpa using hR
  generalize entsErr D n (lE xs)=RES at HV
  generalize (allErr D n).2.2=E at h HV hR hR'
  generalize xs.length=N
  clear hE HM HE
  go_enter Tryz.func37,Tryz.ntmps37
  go_wp2_with fail
  refine h.mono ?_
  rintro e w1 ⟨rfl,hb1⟩
  go_wp2_with fail
  go_ret
  rw [HV.out]
  exact ⟨rfl,onB HB0.out hb1⟩
end Go.Proofs.YtenlladggdcfnaaGreatDoor
