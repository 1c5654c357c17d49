/- What the document's En -/
import Derived.Test.YtohgnbgamfepoaaGreatDoorJHAX
import Derived.Test.YtohgnbgamfepoaaGreatDoorJHBA
namespace Go.Proofs.YtohgnbgamfepoaaGreatDoor
open ChangeShapes WideShapes ChangeAt RowKit
set_option maxRecDepth 99999
set_option maxHeartbeats 0
theorem yE (A:Option Addr) (cap:Nat) (xs:List EnL) (Ap:Option Addr) (z:Nat) (p:List Int) (w:World) (E:xs.length≤3000) (x:b7 w A cap xs) (D:mR xs p) (H:aZ w Ap z p) :
  Rt 59 #[.slice A xs.length cap,.slice Ap p.length z] w (.agg #[.int .i64 (getE (lE xs) p).1,.int .i64 (getE (lE xs) p).2]):=by
 obtain ⟨v0,c⟩:=az (w.alloc (.cells #[.int .i64 0,.int .i64 0] 52));have f:Bl w v0:=by rw [←c];go_grown
 have h:=rJ A cap xs Ap z p v0 E (x.later f) D (H.later f);have r:=aa f;have I:v0.heap[w.heap.size]?=some (.cells #[.int .i64 0,.int .i64 0] 52):=by rw [←c];exact heap_alloc_new w _
 have u:w.heap.size<v0.heap.size:=by rw [←c];simp
 have s:=aa I;have J:=aa x;clear H f I;cases hh:hasE (lE xs) p
 ·have HV:Hid (getE (lE xs) p=(0,0)):=by
   show _=_
   rcases Nat.lt_or_ge (cntE (lE xs) p) (lE xs).length with h1 | h1
   ·have q:=sv (l:=lE xs) (p:=p) rfl h1
    rw [q.1] at hh;rw [q.2,if_pos (by simpa using hh)]
   exact (nG rfl h1).2
  rw [hh] at h;generalize cntE (lE xs) p=i at h;generalize getE (lE xs) p=V at HV;generalize xs.length=n at h E;generalize p.length=np at h;clear hh x D
  go_enter Tryz.func59,Tryz.ntmps59
  go_wp2_with fail;clear c;refine h.mono ?_;rintro e w1 ⟨rfl,a⟩;have d:w1.heap[w.heap.size]?=some (.cells #[.int .i64 0,.int .i64 0] 52):=(a.block _ u).trans s.out;have B:w1.cell? ⟨w.heap.size,0,none⟩=some (.int .i64 0):=by rw [Lib.cell_of_heap d];rfl
  have C:w1.cell? ⟨w.heap.size,1,none⟩=some (.int .i64 0):=by rw [Lib.cell_of_heap d];rfl
  have K:w1.frozen? ⟨w.heap.size,0,none⟩=false:=Lib.frozen_of_heap d 0;have L:w1.frozen? ⟨w.heap.size,1,none⟩=false:=Lib.frozen_of_heap d 1;have g:=aa (ae r.out a);clear a d h;go_wp2_with fail;refine bodyPost_ret (v:=.agg #[.int .i64 0,.int .i64 0]) (by simp [results,Tryz.results59,go_sem,B,C]) rfl ⟨by rw [HV.out],?_⟩
  exact (g.out.setCell (zT) _).setCell (zT) _
 have t:=so hh;have q:=sv (l:=lE xs) (p:=p) rfl t;have HV:Hid (getE (lE xs) p=(1,(xs.getD (cntE (lE xs) p) aJ).e.n)):=by
  show _=_
  rw [q.1] at hh;rw [q.2,if_neg (by simpa using hh),lE_at]
 rw [a7] at t;rw [hh] at h;obtain ⟨n,m⟩:=az xs.length;have F:=aa m;rw [m] at h E t ⊢;generalize cntE (lE xs) p=i at h t HV;generalize getE (lE xs) p=V at HV;generalize hgn:(xs.getD i aJ).e.n=num at HV;have y:=aa hgn;generalize p.length=np at h;have N:(i:Int)<(n:Int):=by omega
 clear hh x D q hgn m
 go_enter Tryz.func59,Tryz.ntmps59
 go_wp2_with fail;clear c;refine h.mono ?_;rintro e w1 ⟨rfl,a⟩;have d:w1.heap[w.heap.size]?=some (.cells #[.int .i64 0,.int .i64 0] 52):=(a.block _ u).trans s.out;have B:w1.cell? ⟨w.heap.size,0,none⟩=some (.int .i64 0):=by rw [Lib.cell_of_heap d];rfl
 have C:w1.cell? ⟨w.heap.size,1,none⟩=some (.int .i64 0):=by rw [Lib.cell_of_heap d];rfl
 have K:w1.frozen? ⟨w.heap.size,0,none⟩=false:=Lib.frozen_of_heap d 0;have L:w1.frozen? ⟨w.heap.size,1,none⟩=false:=Lib.frozen_of_heap d 1;have j:Bl w w1:=ae r.out a;have g:=aa j;obtain ⟨-,-,M | ⟨b,o,rfl,G⟩⟩:=J.out.later j
 ·have:=F.out;rw [M] at this;simp at this;omega
 have c3:=(G.at (k:=i) (by rw [F.out];exact t)).2
 rw [y.out] at c3;clear a d h j G;go_wp2_with fail;refine bodyPost_ret (v:=.agg #[.int .i64 1,.int .i64 num]) (by simp [results,Tryz.results59,go_sem,B,C]) rfl ⟨by rw [HV.out],?_⟩
 exact (g.out.setCell (zT) _).setCell (zT) _
theorem AH {W w':World} {q b o1:Nat} {u v:Value} (h:q<W.heap.size∧b<W.heap.size∧W.cell? ⟨q,0,none⟩=some u∧W.cell? ⟨b,o1,none⟩=some v) (a:Bl W w'):Bl W w'∧w'.cell? ⟨q,0,none⟩=some u∧w'.cell? ⟨b,o1,none⟩=some v :=
 ⟨a,aC a h.1 h.2.2.1,aC a h.2.1 h.2.2.2⟩
theorem J4 {W w':World} {b o1 o2:Nat} {u v:Value} (h:b<W.heap.size∧W.cell? ⟨b,o1,none⟩=some u∧W.cell? ⟨b,o2,none⟩=some v) (a:Bl W w'):Bl W w'∧w'.cell? ⟨b,o1,none⟩=some u∧w'.cell? ⟨b,o2,none⟩=some v :=
 ⟨a,aC a h.1 h.2.1,aC a h.1 h.2.2⟩
theorem sZ (A0:Option Addr) (cap n:Nat) (D:Nat→Dm) (A:Nat→Option Addr) (C:Nat→Nat) (AE:Option Addr) (ce:Nat) (xs:List EnL) (w:World) (hM:aW w A0 cap n D A C) (hE:b7 w AE ce xs) :
  Rt 22 #[.agg #[.slice A0 n cap],.slice AE xs.length ce] w (.int .i64 (entsErr D n (lE xs))):=by
 have K2:=ao w A0 n cap 24;have h:=yN A0 cap n D A C (ax w A0 n cap 24) (hM.later K2);have Y:=aa K2;have HM:=aa hM;have HE:=aa hE;clear hM K2
 by_cases hR:(am D n).2.2=0
 ·have HR:=aa hR
  have HV:Hid (entsErr D n (lE xs)=aV D n (qOf (lE xs) 0) ((lE xs).drop 0)):=Aw _ hR;rw [hR] at h;obtain ⟨N,hN⟩:=az xs.length;have HN:=aa hN;have hNb:(N:Int)≤9223372036854775807:=by have h1:=hE.1;have h2:=hE.2.1;omega
  rw [hN];generalize entsErr D n (lE xs)=RES at HV;clear hR hN hE
  go_enter Tryz.func22,Tryz.ntmps22
  go_wp2_with fail;refine h.mono ?_;rintro e w1 ⟨rfl,H⟩;have hB:Bl w w1:=ae Y.out H;have hz:w.heap.size<w1.heap.size:=by have:=H.size;rw [av] at this;omega
  have h2:w1.cell? ⟨w.heap.size,0,none⟩=some (.slice A0 n cap):=aC H (by show w.heap.size<_;rw [av];omega) (aH ..)
  have HM1:=aa (HM.out.later hB);have HE1:=aa (HE.out.later hB);have HB:=aa hB;clear H h hB HM HE Y;go_wp2_with fail
  go_loopg [6] N (fun g s6 wr => ∃ (k:Nat),k≤N∧g=N-k∧s6=.int .i64 k∧Hid (aV D n (qOf (lE xs) k) ((lE xs).drop k)=aV D n (qOf (lE xs) 0) ((lE xs).drop 0))∧Hid (∀ j,j<k→entOne D n ((lE xs).getD j noEn)=0)∧Bl w1 wr)
  case atStart=>exact ⟨0,zU,rfl,rfl,(rfl:aV D n (qOf (lE xs) 0) ((lE xs).drop 0)=aV D n (qOf (lE xs) 0) ((lE xs).drop 0)),fun j S=>absurd S (Nat.not_lt_zero _),zS⟩
  case round =>
   obtain ⟨k,hk,rfl,rfl,HF,HO,y⟩:=hrel;have r:=aa y
   by_cases hlt:k<N
   ·have B:k<xs.length:=by rw [HN.out];exact hlt
    have hki:(k:Int)<(N:Int):=by omega
    have hk1:(k:Int)+1≤9223372036854775807:=by omega
    obtain ⟨-,-,h0 | ⟨b,o,rfl,Q⟩⟩:=HE1.out.later y
    ·have:=HN.out;rw [h0] at this;simp at this;omega
    obtain ⟨c1,c2⟩:=Q.at B;have c0:wr.cell? ⟨w.heap.size,0,none⟩=some (.slice A0 n cap):=aC y hz h2;have hzr:w.heap.size<wr.heap.size:=zW hz y.size;have I:=Q.1;have Z:=aa (HM1.out.later y);have G:=aa Q;have x:Hid (∀ w',Bl wr w'→Rt 16 #[.agg #[.slice A0 n cap],.slice (xs.getD k aJ).A (xs.getD k aJ).e.pl.length (xs.getD k aJ).c] w' (.int .i64 (shapeErr D n (xs.getD k aJ).e.pl))):=fun w' u=>kL A0 cap n D A C _ _ _ w' HR.out (Z.out.later u) ((G.out.pl B).later u)
    have s:Hid (shapeErr D n (xs.getD k aJ).e.pl=0→∀ w',Bl wr w'→Rt 45 #[.agg #[.slice A0 n cap],.slice (xs.getD k aJ).A (xs.getD k aJ).e.pl.length (xs.getD k aJ).c] w' (.bool (leafV D n (xs.getD k aJ).e.pl))):=fun hs w' u=>jA A0 cap n D A C _ _ _ w' (fY (by rw [D6 HR.out];exact hs)) (Z.out.later u) ((G.out.pl B).later u)
    have f:Hid (entOne D n (xs.getD k aJ).e=if shapeErr D n (xs.getD k aJ).e.pl≠0 then shapeErr D n (xs.getD k aJ).e.pl else if leafV D n (xs.getD k aJ).e.pl=false then 6 else if cX (xs.getD k aJ).e.n=false then 1 else 0):=rfl
    have l:Hid (entOne D n (xs.getD k aJ).e≠0→RES=entOne D n (xs.getD k aJ).e):=fun R=>by rw [HV.out,←HF.out,Ah (by rw [a7];exact B) (by rw [lE_at];exact R),lE_at]
    have J:Hid (entOne D n (xs.getD k aJ).e=0→∀ t,aheadOk (qOf (lE xs) k) (xs.getD k aJ).e.pl=t→(t=false→RES=7)∧(t=true→aV D n (qOf (lE xs) (k+1)) ((lE xs).drop (k+1))=aV D n (qOf (lE xs) 0) ((lE xs).drop 0))):=fun R t ht=>by
     rw [←lE_at] at R ht;refine ⟨fun h1=>?_,fun h1=>?_⟩
     ·rw [HV.out,←HF.out,q9 (by rw [a7];exact B) R (by rw [ht];exact h1)]
     rw [←xb (by rw [a7];exact B) R (by rw [ht];exact h1)];exact HF.out
    have O:Hid (entOne D n (xs.getD k aJ).e=0→entOne D n ((lE xs).getD k noEn)=0):=fun R=>by rw [lE_at];exact R
    have a:Hid (∀ j,k=j+1→entOne D n (xs.getD k aJ).e=0→(∃ A2 m2 X,wr.cell? ⟨b,o+j*2,none⟩=some (.slice A2 m2 X)∧∀ w',Bl wr w'→Rt 46 #[.slice A2 m2 X,.slice (xs.getD k aJ).A (xs.getD k aJ).e.pl.length (xs.getD k aJ).c] w' (.bool (aheadOk (qOf (lE xs) k) (xs.getD k aJ).e.pl)))):=fun j S R=>by
     have hjx:j<xs.length:=by omega
     have h3:=dZ HR.out R;have h4:=dZ HR.out (HO.out j (by omega))
     rw [lE_at] at h4;refine ⟨_,_,_,(G.out.at hjx).1,fun w' u=>?_⟩
     have h5:=mG _ _ _ _ _ _ w' (eQ h4.1) (eQ h3.1) ((G.out.pl hjx).later u) ((G.out.pl B).later u);have h6:aheadOk (qOf (lE xs) k) (xs.getD k aJ).e.pl=lessL (xs.getD j aJ).e.pl (xs.getD k aJ).e.pl:=by rw [S,←lE_at xs j];rfl
     rw [h6];exact h5
    have P:Hid (k=0→aheadOk (qOf (lE xs) k) (xs.getD k aJ).e.pl=true):=fun h0=>by rw [h0];rfl
    clear Q y;generalize aheadOk (qOf (lE xs) k) (xs.getD k aJ).e.pl=tA at J a P;generalize entOne D n (xs.getD k aJ).e=E1 at f l J O a;generalize shapeErr D n (xs.getD k aJ).e.pl=SE at x s f;generalize leafV D n (xs.getD k aJ).e.pl=lf at s f;generalize (xs.getD k aJ).A=A1 at c1 x s a;generalize (xs.getD k aJ).c=k1 at c1 x s a;generalize (xs.getD k aJ).e.n=n1 at c2 f;generalize (xs.getD k aJ).e.pl.length=m1 at c1 x s a;have v:Hid (w.heap.size<wr.heap.size∧b<wr.heap.size∧wr.cell? ⟨w.heap.size,0,none⟩=some (.slice A0 n cap)∧wr.cell? ⟨b,o+k*2,none⟩=some (.slice A1 m1 k1)):=⟨hzr,I,c0,c1⟩;have HC2:=aa c2;clear c0 c1 c2;go_wp2_with fail
    go_cut [5] (fun s5 wx=>s5=.int .i64 SE∧Bl wr wx)
    case first=>as_aux_lemma =>
     go_region_held3 (fun w'=>Bl wr w'∧w'.cell? ⟨w.heap.size,0,none⟩=some (.slice A0 n cap)∧w'.cell? ⟨b,o+k*2,none⟩=some (.slice A1 m1 k1))
      ((refine AH v.out ?_;go_grown;done))
      (first | (go_at_call 16;refine (x.out _ (by go_grown)).mono ?_;rintro e w3 ⟨rfl,L⟩;have K3:=ae (W0:=wr) (by go_grown) L;have hy3:=K3.size;clear L))
     all_goals go_wp2_with fail
     all_goals go_meet
     all_goals exact ⟨rfl,by go_grown⟩
    case rest=>as_aux_lemma =>
    obtain ⟨rfl,W⟩:=hcut;obtain ⟨w2,rfl⟩:∃ w2:World,w2=wc:=⟨_,rfl⟩;have q:=aa W;clear W
    by_cases z:SE=0
    ·have T:=s.out z
     have U:=aa T;have HC3:Hid (w.heap.size<w2.heap.size∧b<w2.heap.size∧w2.cell? ⟨w.heap.size,0,none⟩=some (.slice A0 n cap)∧w2.cell? ⟨b,o+k*2,none⟩=some (.slice A1 m1 k1)):=⟨zW v.out.1 q.out.size,zW v.out.2.1 q.out.size,(AH v.out q.out).2.1,(AH v.out q.out).2.2⟩;have K:E1=if lf=false then 6 else if cX n1=false then 1 else 0:=by rw [f.out,if_neg (by simpa using z)]
     have m:=aa K;subst z;clear K T;go_wp2_with fail
     go_cut [7] (fun s7 wx=>s7=.bool lf∧Bl w2 wx)
     case first=>as_aux_lemma =>
      go_region_held3 (fun w'=>Bl w2 w'∧w'.cell? ⟨w.heap.size,0,none⟩=some (.slice A0 n cap)∧w'.cell? ⟨b,o+k*2,none⟩=some (.slice A1 m1 k1))
       ((refine AH HC3.out ?_;go_grown;done))
       (first | (go_at_call 45;refine (U.out _ (ae q.out (by go_grown))).mono ?_;rintro e w3 ⟨rfl,L⟩;have K3:=ae (W0:=w2) (by go_grown) L;have hy3:=K3.size;clear L))
      all_goals go_wp2_with fail
      all_goals go_meet
      all_goals exact ⟨rfl,by go_grown⟩
     case rest=>as_aux_lemma =>
     obtain ⟨rfl,W⟩:=hcut;obtain ⟨w3,rfl⟩:∃ w3:World,w3=wc:=⟨_,rfl⟩;have p:=aa (ae q.out W);clear W HC3 U q;cases lf
     ·have d:Hid (RES=6):=by
       have e6:E1=6:=by rw [m.out];rfl
       show _=_
       rw [l.out (by rw [e6];decide),e6]
      go_wp2_with fail;go_ret;rw [d.out];exact ⟨rfl,ae HB.out (ae r.out p.out)⟩
     have c3:w3.cell? ⟨b,o+k*2+1,none⟩=some (.int .i64 n1):=aC p.out I HC2.out
     by_cases hlo:n1 < -1000000
     ·have d:Hid (RES=1):=by
       have V:E1=1:=by rw [m.out,if_neg (by decide),if_pos (by simp [cX];omega)]
       show _=_
       rw [l.out (by rw [V];decide),V]
      go_wp2_with fail;go_ret;rw [d.out];exact ⟨rfl,ae HB.out (ae r.out p.out)⟩
     by_cases hhi:1000000<n1
     ·have d:Hid (RES=1):=by
       have V:E1=1:=by rw [m.out,if_neg (by decide),if_pos (by simp [cX];omega)]
       show _=_
       rw [l.out (by rw [V];decide),V]
      go_wp2_with fail;go_ret;rw [d.out];exact ⟨rfl,ae HB.out (ae r.out p.out)⟩
     have e0:E1=0:=by rw [m.out,if_neg (by decide),if_neg (by simp [cX];omega)]
     have HT:Hid ((tA=false→RES=7)∧(tA=true→aV D n (qOf (lE xs) (k+1)) ((lE xs).drop (k+1))=aV D n (qOf (lE xs) 0) ((lE xs).drop 0))):=J.out e0 tA rfl;have HKk:=aa (O.out e0);have q0:Hid (∀ j,k=j+1→(∃ A2 m2 X,wr.cell? ⟨b,o+j*2,none⟩=some (.slice A2 m2 X)∧∀ w',Bl wr w'→Rt 46 #[.slice A2 m2 X,.slice A1 m1 k1] w' (.bool tA))):=fun j S=>a.out j S e0
     clear f m l J O a s x e0
     rcases Nat.eq_zero_or_pos k with hk0 | hk0
     ·have K0:=aa (HT.out.2 (P.out hk0))
      subst hk0;simp only [Nat.zero_mul,Nat.add_zero] at c3;clear q0 P HT HO HF;go_wp2_with fail
      go_quiet (fail)
      go_wp2_with fail
      go_roundg (N-(0+1))
      case measure=>omega
      case rel =>
       refine ⟨0+1,by omega,rfl,by go_num,K0.out,fun j S=>?_,ac (ae r.out p.out) _⟩
       have:j=0:=by omega
       rw [this];exact HKk.out
     obtain ⟨j,S⟩:∃ j,k=j+1:=⟨k-1,by omega⟩
     obtain ⟨A2,m2,X,M,F⟩:=q0.out j S;have HLs:=aa F;have HC4:Hid (b<w3.heap.size∧w3.cell? ⟨b,o+j*2,none⟩=some (.slice A2 m2 X)∧w3.cell? ⟨b,o+k*2,none⟩=some (.slice A1 m1 k1)):=⟨zW I p.out.size,aC p.out I M,aC p.out I v.out.2.2.2⟩;have hwr:IntKind.i64.wrap ((k:Int)-1)=(j:Int):=by rw [IntKind.wrap_i64];omega
     have hkz:((k:Int) == 0)=false:=by simp;omega
     have hkz' : ¬ ((k:Int)=0):=by omega
     have hjN:(j:Int)<(N:Int):=by omega
     clear S M F q0 hk0;go_wp2_with fail
     go_cut [8] (fun s8 wx=>s8=.bool tA∧Bl w3 wx)
     case first=>as_aux_lemma =>
      go_region_held3 (fun w'=>Bl w3 w'∧w'.cell? ⟨b,o+j*2,none⟩=some (.slice A2 m2 X)∧w'.cell? ⟨b,o+k*2,none⟩=some (.slice A1 m1 k1))
       ((refine J4 HC4.out ?_;go_grown;done))
       (first | (go_at_call 46;refine (HLs.out _ (ae p.out (by go_grown))).mono ?_;rintro e w4 ⟨rfl,hb4⟩;have hN4:=ae (W0:=w3) (by go_grown) hb4;have hy4:=hN4.size;clear hb4))
      all_goals go_wp2_with fail
      all_goals go_meet
      all_goals exact ⟨rfl,by go_grown⟩
     case rest=>as_aux_lemma =>
     obtain ⟨rfl,W⟩:=hcut;obtain ⟨w4,rfl⟩:∃ w4:World,w4=wc:=⟨_,rfl⟩;have HB4:=aa (ae p.out W);clear W HC4 HLs hwr hkz hkz' hjN c3;cases tA
     ·have d:Hid (RES=7):=HT.out.1 rfl
      go_wp2_with fail;go_ret;rw [d.out];exact ⟨rfl,ae HB.out (ae r.out HB4.out)⟩
     have K0:Hid (aV D n (qOf (lE xs) (k+1)) ((lE xs).drop (k+1))=aV D n (qOf (lE xs) 0) ((lE xs).drop 0)):=HT.out.2 rfl;go_wp2_with fail
     go_roundg (N-(k+1))
     case measure=>omega
     case rel =>
      refine ⟨k+1,by omega,rfl,by go_num,K0.out,fun i hi=>?_,ae r.out HB4.out⟩
      rcases Nat.lt_succ_iff_lt_or_eq.1 hi with h1 | rfl
      ·exact HO.out i h1
      exact HKk.out
    have d:Hid (RES=SE):=by
     have V:E1=SE:=by rw [f.out,if_pos (by simpa using z)]
     show _=_
     rw [l.out (by rw [V];exact z),V]
    have hSE':(SE != 0)=true:=by simpa using z
    clear s x f l J O a z v HC2 G Z HE1 HM1 HO HF P hki hk1 hzr I;go_wp2_with fail;go_ret;rw [d.out];exact ⟨rfl,ae HB.out (ae r.out q.out)⟩
   have hke:k=N:=by omega
   subst hke;have d:Hid (RES=0):=by show _=_;rw [HV.out,←HF.out,Av (by rw [a7,HN.out];exact zT)]
   clear y;go_wp2_with fail;go_ret;rw [d.out];exact ⟨rfl,ae HB.out r.out⟩
 have HV:Hid (entsErr D n (lE xs)=(am D n).2.2):=ue _ hR;have hR':((am D n).2.2 == 0)=false:=by simpa using hR
 generalize entsErr D n (lE xs)=RES at HV;generalize (am D n).2.2=E at h HV hR hR';generalize xs.length=N;clear hE HM HE
 go_enter Tryz.func22,Tryz.ntmps22
 go_wp2_with fail;refine h.mono ?_;rintro e w1 ⟨rfl,H⟩;go_wp2_with fail;go_ret;rw [HV.out];exact ⟨rfl,ae Y.out H⟩
theorem JJ {x y:ByteArray} (h : ¬ y=x):(y.toList == x.toList)=false:=by
 rw [beq_eq_false_iff_ne];intro e;apply h;rw [Lib.toList_data,Lib.toList_data] at e;obtain ⟨b⟩:=y;obtain ⟨a⟩:=x;exact congrArg ByteArray.mk (Array.toList_inj.1 e)
theorem yG (An:Option Addr) (s:Nat) (N:List ByteArray) (x:ByteArray) (w:World) (h:D1 w An s N) :
  Rt 106 #[.slice An N.length s,.string x] w (.int .i64 (b5 N x)):=by
 have v:=aa h;unfold b5;obtain ⟨n,l⟩:=az N.length;have r:=aa l;have C:(n:Int)<4611686018427387904:=by have:=h.2.1;omega
 rw [l];clear h l
 go_enter Tryz.func106,Tryz.ntmps106
 go_wp2_with fail
 go_loopg [5] n (fun g s5 wr => ∃ (k:Nat),k≤n∧g=n-k∧s5=.int .i64 k∧findFrom (Ht N x) (n-k) k=findFrom (Ht N x) n 0∧Bl w wr)
 case atStart=>exact ⟨0,zU,rfl,rfl,rfl,zS⟩
 case round =>
  obtain ⟨k,E,rfl,rfl,u,c⟩:=hrel;have e:=aa u;have d:=aa c;clear u c
  by_cases j:k<n
  ·have A:(k:Int)<(n:Int):=by omega
   have q:Hid (n-k=(n-(k+1))+1):=by show _=_;omega
   obtain ⟨-,-,-,z | ⟨b,o,rfl,D,t⟩⟩:=v.out.later d.out
   ·have:=r.out;rw [z] at this;simp at this;omega
   have c0:=t k (by rw [r.out];exact j)
   obtain ⟨y,m⟩:=az (N.getD k jj);have p:Hid (Ht N x k=decide (y=x)):=by show _=_;unfold Ht;rw [m]
   rw [m] at c0;clear t m
   by_cases a:y=x
   ·have f:Hid (Ht N x k=true):=by show _=_;rw [p.out,decide_eq_true a]
    subst a;go_wp2_with fail;go_ret;exact ⟨by rw [←e.out,q.out,bu _ f.out];rfl,d.out⟩
   have f:Hid (Ht N x k=false):=by show _=_;rw [p.out,decide_eq_false a]
   have B:=JJ a;clear a;go_wp2_with fail
   go_roundg (n-(k+1))
   case measure=>omega
   case rel=>exact ⟨k+1,by omega,rfl,by go_num,by rw [←e.out,q.out,be _ f.out],d.out⟩
  have i:k=n:=by omega
  subst i;go_wp2_with fail;go_ret;exact ⟨by rw [←e.out,Nat.sub_self];rfl,d.out⟩
theorem Fv {N:List ByteArray} {o:Int} {a b:Tre} (h:missT N (.bin o a b)=false):missT N a=false∧missT N b=false:=by
 unfold missT at *;rw [refsT,List.any_append,Bool.or_eq_false_iff] at h;exact h
theorem IA {o:Int} {a b:Int×Int} (c:pu a) (d:pu b):(o=3→jg 66 #[.agg #[.int .i64 a.1,.int .i64 a.2],.agg #[.int .i64 b.1,.int .i64 b.2],.int .i64 1] (qz o a b))∧(o=4→jg 66 #[.agg #[.int .i64 a.1,.int .i64 a.2],.agg #[.int .i64 b.1,.int .i64 b.2],.int .i64 (-1)] (qz o a b))∧(o=5→jg 107 #[.agg #[.int .i64 a.1,.int .i64 a.2],.agg #[.int .i64 b.1,.int .i64 b.2]] (qz o a b))∧(o=6→jg 108 #[.agg #[.int .i64 a.1,.int .i64 a.2],.agg #[.int .i64 b.1,.int .i64 b.2]] (qz o a b)):=by
 refine ⟨?_,?_,?_,?_⟩ <;> rintro rfl
 ·exact yM _ _ _ _ c d
 ·exact vL _ _ _ _ c d
 ·exact yO _ _ _ _ c d
 exact Dv _ _ _ _ c d
theorem kw {W w1:World} {p T:Nat} {u v:Value} (a:W.heap[p]?=some (.cells #[u,v] T (0,0))) (b:Bl W w1):p<w1.heap.size∧w1.cell? ⟨p,0,none⟩=some u∧w1.cell? ⟨p,1,none⟩=some v∧w1.frozen? ⟨p,0,none⟩=false∧w1.frozen? ⟨p,1,none⟩=false:=by
 have h:=(b.block p (zY a).1).trans a;exact ⟨(zY h).1,by simp [World.cell?,h],by simp [World.cell?,h],by simp [World.frozen?,h],by simp [World.frozen?,h]⟩
theorem vM (b o cap:Nat) (l:List Nd) (hl:oa l) (h30:l.length≤30) (An:Option Addr) (cn:Nat) (N:List ByteArray) (Ac:Option Addr) (cc:Nat) (C:List (Int×Int)) (E:C.length=N.length) (hok:∀ c∈C,pu c):∀ i,i<l.length→∀ (w:World),kf w b o l→D1 w An cn N→dx w Ac cc C→missT N (aF l i)=false →
  Rt 64 #[.slice (some ⟨b,o,none⟩) l.length cap,.int .i64 i,.slice An N.length cn,.slice Ac C.length cc] w (.agg #[.int .i64 (eB N C (aF l i)).1,.int .i64 (eB N C (aF l i)).2]):=by
 have HOk:=aa hok;have HLen:=aa E;clear hok E;intro i
 induction i using Nat.strongRecOn with
 | _ i ih =>
  intro hi w hN K U H;have HI:Hid (∀ m,m<i→m<l.length→∀ (w:World),kf w b o l→D1 w An cn N→dx w Ac cc C→missT N (aF l m)=false →
   Rt 64 #[.slice (some ⟨b,o,none⟩) l.length cap,.int .i64 m,.slice An N.length cn,.slice Ac C.length cc] w (.agg #[.int .i64 (eB N C (aF l m)).1,.int .i64 (eB N C (aF l m)).2])):=ih
  clear ih;have hg:=hl i hi;have ho:=lu hg;obtain ⟨x0,x1,x2,x3,x4⟩:=hN.nd (k:=i) hi;obtain ⟨x,Z⟩:=az (l.getD i bO);rw [Z] at x0 x1 x2 x3 x4 hg ho;have hii:(i:Int)<(l.length:Int):=by omega
  have hli:(l.length:Int)≤30:=by omega
  have hbl:b<w.heap.size:=hN.1;obtain ⟨op,nn,name,left,I⟩:=x;simp only at x0 x1 x2 x3 x4 ho;have HNd:=aa hN;have HNm:=aa K;have HCl:=aa U;obtain ⟨W,hW⟩:=az ((w.alloc (.cells #[.int .i64 0,.int .i64 0] 52)).alloc (.cells #[.int .i64 op,.int .i64 nn,.string name,.int .i64 left,.int .i64 I] 132));have HR:Hid (W.heap[w.heap.size]?=some (.cells #[.int .i64 0,.int .i64 0] 52 (0,0))):=by show _=_;rw [←hW];exact qi _ _ _
  have hX:W.heap[w.heap.size+1]?=some (.cells #[.int .i64 op,.int .i64 nn,.string name,.int .i64 left,.int .i64 I] 132 (0,0)):=by rw [←hW];exact kr _ _ _
  have L:=aa hX;have d0:W.cell? ⟨w.heap.size+1,0,none⟩=some (.int .i64 op):=by simp [World.cell?,hX]
  have d1:W.cell? ⟨w.heap.size+1,1,none⟩=some (.int .i64 nn):=by simp [World.cell?,hX]
  have d2:W.cell? ⟨w.heap.size+1,2,none⟩=some (.string name):=by simp [World.cell?,hX]
  have d3:W.cell? ⟨w.heap.size+1,3,none⟩=some (.int .i64 left):=by simp [World.cell?,hX]
  have s:Hid (Bl w W):=by show Bl w W;rw [←hW];go_grown
  clear hX
  by_cases h1:op=1
  ·subst h1
   have hP:eB N C (aF l i)=eG nn:=by rw [qj (by rw [Z]),Z];rfl
   rw [hP];have hof:=jQ nn;clear Z hP hg ho hN K U H
   go_enter Tryz.func64,Tryz.ntmps64
   go_wp2_with fail;refine (hof _).mono ?_;rintro e w1 ⟨rfl,g⟩;obtain ⟨r1,X,Y,rf0,rf1⟩:=kw HR.out g;have J:=aa (ae s.out g);clear g hof hW d0 d1 d2 d3;go_wp2_with fail;refine bodyPost_ret (v:=.agg #[.int .i64 (eG nn).1,.int .i64 (eG nn).2]) (by simp [results,Tryz.results64,go_sem,X,Y]) rfl ⟨rfl,?_⟩
   exact (J.out.setCell (zT) _).setCell (zT) _
  by_cases h2:op=2
  ·subst h2
   have hT:aF l i=.ref name:=by rw [lX (by rw [Z]),Z]
   rw [hT] at H ⊢;have hw:0≤b5 N name:=by
    unfold missT refsT at H
    simp at H
    exact H
   obtain ⟨j,hj,hjl,-⟩:∃ j:Nat,b5 N name=(j:Int)∧j<N.length∧N.getD j jj=name:=by
    rcases where_cases N name with ⟨hw',-⟩ | h
    ·omega
    exact h
   have hnm:=fun w' (hb:Bl w w')=>yG An cn N name w' (K.later hb)
   rw [hj] at hnm;have E:=HLen.out;obtain ⟨-,-,hC3⟩:=U;obtain ⟨b2,o2,rfl,hCA⟩:=hC3.resolve_left (fun e=>by rw [e] at E;simp at E;omega)
   obtain ⟨c,hc⟩:=az (C.getD j noC);have hV:eB N C (.ref name)=c:=by show refC N C name=c;unfold refC;rw [hj];exact hc
   rw [hV];have HCA:=aa hCA;have HJ:Hid (j<C.length):=by show j<C.length;omega
   have HCc:=aa hc;have hjc:(j:Int)<(C.length:Int):=by omega
   have hsz:=K.2.1;have hcl:(C.length:Int)<4611686018427387904:=by omega
   clear Z hT hg ho hN K H hC3 hCA hV hc hj hw E
   go_enter Tryz.func64,Tryz.ntmps64
   go_wp2_with fail;refine (hnm _ s.out).mono ?_;rintro e w1 ⟨rfl,g⟩;obtain ⟨r1,X,Y,rf0,rf1⟩:=kw HR.out g;have J:=aa (ae s.out g);obtain ⟨c0,c1⟩:=(HCA.out.later J.out).2 j HJ.out;rw [HCc.out] at c0 c1;clear g hnm hW d0 d1 d2 d3;go_wp2_with fail;refine bodyPost_ret (v:=.agg #[.int .i64 c.1,.int .i64 c.2]) (by simp [results,Tryz.results64,go_sem,X,Y]) rfl ⟨rfl,?_⟩
   exact (J.out.setCell (zT) _).setCell (zT) _
  obtain ⟨a1,a2,a3,a4⟩:=fh hg (show 2<op by omega)
  simp only at a1 a2 a3 a4;obtain ⟨a,ha⟩:∃ a:Nat,left=a:=⟨left.toNat,by omega⟩
  obtain ⟨c,hc⟩:∃ c:Nat,I=c:=⟨I.toNat,by omega⟩
  subst ha hc;have hT:aF l i=.bin op (aF l a) (aF l c):=by
   have:=lW hl hi (by rw [Z];show 2<op;omega)
   rw [Z] at this
   simpa using this
  rw [hT] at H ⊢;obtain ⟨hma,hmc⟩:=Fv H;have hoa:=zp N HOk.out (aF l a);have hoc:=zp N HOk.out (aF l c);have F:=aa (fun w' (hb:Bl w w')=>HI.out a (by omega) (by omega) w' (hN.later hb) (K.later hb) (U.later hb) hma)
  have G:=aa (fun w' (hb:Bl w w')=>HI.out c (by omega) (by omega) w' (hN.later hb) (K.later hb) (U.later hb) hmc)
  have hV:eB N C (.bin op (aF l a) (aF l c))=qz op (eB N C (aF l a)) (eB N C (aF l c)):=rfl;rw [hV];obtain ⟨u,hu⟩:=az (eB N C (aF l a));obtain ⟨v,hv⟩:=az (eB N C (aF l c));rw [hu] at hoa F ⊢;rw [hv] at hoc G ⊢;obtain ⟨p3,p4,p5,p6⟩:=IA (o:=op) hoa hoc;obtain ⟨t,ht⟩:=az (qz op u v);rw [ht] at p3 p4 p5 p6 ⊢;unfold jg at p3 p4 p5 p6;have hovc:op=3∨op=4∨op=5∨op=6:=by omega
  clear Z hT hg ho h1 h2 hN K U H hma hmc hoa hoc hV hu hv ht HI a1 a2 a3 a4
  rcases hovc with rfl | rfl | rfl | rfl
  ·have V:=p3 rfl
   clear p3 p4 p5 p6
   go_enter Tryz.func64,Tryz.ntmps64
   go_wp2_with fail;refine (F.out _ s.out).mono ?_;rintro e w1 ⟨rfl,g⟩;have J:=aa g;have O:=aa (ae s.out g);obtain ⟨V1,p⟩:=az (w1.alloc (.cells #[.int .i64 u.1,.int .i64 u.2] 52));have f:Bl w1 V1:=by rw [←p];exact (zS).alloc (zT) _
   have A:=aa (ae g f);have y:=aa (ae O.out f);have B:V1.heap[w1.heap.size]?=some (.cells #[.int .i64 u.1,.int .i64 u.2] 52 (0,0)):=by rw [←p];exact heap_alloc_new _ _
   have G1:=aa B;have d:=(A.out.block (w.heap.size+1) (zY L.out).1).trans L.out;have k0:V1.cell? ⟨w.heap.size+1,0,none⟩=some (.int .i64 3):=by simp [World.cell?,d]
   have k4:V1.cell? ⟨w.heap.size+1,4,none⟩=some (.int .i64 (c:Int)):=by simp [World.cell?,d]
   have kl:=(zY d).1;clear g f B d hW d0 d1 d2 d3;go_wp2_with fail;refine (G.out _ y.out).mono ?_;rintro e w2 ⟨rfl,n⟩;have P:=aa (ae y.out n);have R:=aa (ae A.out n);obtain ⟨V2,q⟩:=az (w2.alloc (.cells #[.int .i64 v.1,.int .i64 v.2] 52));have f:Bl w2 V2:=by rw [←q];exact (zS).alloc (zT) _
   have Q:=aa (ae P.out f);have z:=aa (ae R.out f);obtain ⟨y1,y2,y3,-,-⟩:=kw G1.out (ae n f);have D:V2.heap[w2.heap.size]?=some (.cells #[.int .i64 v.1,.int .i64 v.2] 52 (0,0)):=by rw [←q];exact heap_alloc_new _ _
   obtain ⟨q1,q2,q3,-,-⟩:=kw D (zS);have d:=(z.out.block (w.heap.size+1) (zY L.out).1).trans L.out;have S:V2.cell? ⟨w.heap.size+1,0,none⟩=some (.int .i64 3):=by simp [World.cell?,d]
   have T:=(zY d).1;clear n f D d p k0 k4 kl F G;go_wp2_with fail;refine (V _).mono ?_;rintro e w3 ⟨rfl,r⟩;obtain ⟨r1,X,Y,rf0,rf1⟩:=kw HR.out (ae z.out r);have M:=aa (ae Q.out r);clear r V q S T y1 y2 y3 q1 q2 q3;go_wp2_with fail;refine bodyPost_ret (v:=.agg #[.int .i64 t.1,.int .i64 t.2]) (by simp [results,Tryz.results64,go_sem,X,Y]) rfl ⟨rfl,?_⟩
   exact (M.out.setCell (zT) _).setCell (zT) _
  ·have V:=p4 rfl
   clear p3 p4 p5 p6
   go_enter Tryz.func64,Tryz.ntmps64
   go_wp2_with fail;refine (F.out _ s.out).mono ?_;rintro e w1 ⟨rfl,g⟩;have J:=aa g;have O:=aa (ae s.out g);obtain ⟨V1,p⟩:=az (w1.alloc (.cells #[.int .i64 u.1,.int .i64 u.2] 52));have f:Bl w1 V1:=by rw [←p];exact (zS).alloc (zT) _
   have A:=aa (ae g f);have y:=aa (ae O.out f);have B:V1.heap[w1.heap.size]?=some (.cells #[.int .i64 u.1,.int .i64 u.2] 52 (0,0)):=by rw [←p];exact heap_alloc_new _ _
   have G1:=aa B;have d:=(A.out.block (w.heap.size+1) (zY L.out).1).trans L.out;have k0:V1.cell? ⟨w.heap.size+1,0,none⟩=some (.int .i64 4):=by simp [World.cell?,d]
   have k4:V1.cell? ⟨w.heap.size+1,4,none⟩=some (.int .i64 (c:Int)):=by simp [World.cell?,d]
   have kl:=(zY d).1;clear g f B d hW d0 d1 d2 d3;go_wp2_with fail;refine (G.out _ y.out).mono ?_;rintro e w2 ⟨rfl,n⟩;have P:=aa (ae y.out n);have R:=aa (ae A.out n);obtain ⟨V2,q⟩:=az (w2.alloc (.cells #[.int .i64 v.1,.int .i64 v.2] 52));have f:Bl w2 V2:=by rw [←q];exact (zS).alloc (zT) _
   have Q:=aa (ae P.out f);have z:=aa (ae R.out f);obtain ⟨y1,y2,y3,-,-⟩:=kw G1.out (ae n f);have D:V2.heap[w2.heap.size]?=some (.cells #[.int .i64 v.1,.int .i64 v.2] 52 (0,0)):=by rw [←q];exact heap_alloc_new _ _
   obtain ⟨q1,q2,q3,-,-⟩:=kw D (zS);have d:=(z.out.block (w.heap.size+1) (zY L.out).1).trans L.out;have S:V2.cell? ⟨w.heap.size+1,0,none⟩=some (.int .i64 4):=by simp [World.cell?,d]
   have T:=(zY d).1;clear n f D d p k0 k4 kl F G;go_wp2_with fail;refine (V _).mono ?_;rintro e w3 ⟨rfl,r⟩;obtain ⟨r1,X,Y,rf0,rf1⟩:=kw HR.out (ae z.out r);have M:=aa (ae Q.out r);clear r V q S T y1 y2 y3 q1 q2 q3;go_wp2_with fail;refine bodyPost_ret (v:=.agg #[.int .i64 t.1,.int .i64 t.2]) (by simp [results,Tryz.results64,go_sem,X,Y]) rfl ⟨rfl,?_⟩
   exact (M.out.setCell (zT) _).setCell (zT) _
  ·have V:=p5 rfl
   clear p3 p4 p5 p6
   go_enter Tryz.func64,Tryz.ntmps64
   go_wp2_with fail;refine (F.out _ s.out).mono ?_;rintro e w1 ⟨rfl,g⟩;have J:=aa g;have O:=aa (ae s.out g);obtain ⟨V1,p⟩:=az (w1.alloc (.cells #[.int .i64 u.1,.int .i64 u.2] 52));have f:Bl w1 V1:=by rw [←p];exact (zS).alloc (zT) _
   have A:=aa (ae g f);have y:=aa (ae O.out f);have B:V1.heap[w1.heap.size]?=some (.cells #[.int .i64 u.1,.int .i64 u.2] 52 (0,0)):=by rw [←p];exact heap_alloc_new _ _
   have G1:=aa B;have d:=(A.out.block (w.heap.size+1) (zY L.out).1).trans L.out;have k0:V1.cell? ⟨w.heap.size+1,0,none⟩=some (.int .i64 5):=by simp [World.cell?,d]
   have k4:V1.cell? ⟨w.heap.size+1,4,none⟩=some (.int .i64 (c:Int)):=by simp [World.cell?,d]
   have kl:=(zY d).1;clear g f B d hW d0 d1 d2 d3;go_wp2_with fail;refine (G.out _ y.out).mono ?_;rintro e w2 ⟨rfl,n⟩;have P:=aa (ae y.out n);have R:=aa (ae A.out n);obtain ⟨V2,q⟩:=az (w2.alloc (.cells #[.int .i64 v.1,.int .i64 v.2] 52));have f:Bl w2 V2:=by rw [←q];exact (zS).alloc (zT) _
   have Q:=aa (ae P.out f);have z:=aa (ae R.out f);obtain ⟨y1,y2,y3,-,-⟩:=kw G1.out (ae n f);have D:V2.heap[w2.heap.size]?=some (.cells #[.int .i64 v.1,.int .i64 v.2] 52 (0,0)):=by rw [←q];exact heap_alloc_new _ _
   obtain ⟨q1,q2,q3,-,-⟩:=kw D (zS);have d:=(z.out.block (w.heap.size+1) (zY L.out).1).trans L.out;have S:V2.cell? ⟨w.heap.size+1,0,none⟩=some (.int .i64 5):=by simp [World.cell?,d]
   have T:=(zY d).1;clear n f D d p k0 k4 kl F G;go_wp2_with fail;refine (V _).mono ?_;rintro e w3 ⟨rfl,r⟩;obtain ⟨r1,X,Y,rf0,rf1⟩:=kw HR.out (ae z.out r);have M:=aa (ae Q.out r);clear r V q S T y1 y2 y3 q1 q2 q3;go_wp2_with fail;refine bodyPost_ret (v:=.agg #[.int .i64 t.1,.int .i64 t.2]) (by simp [results,Tryz.results64,go_sem,X,Y]) rfl ⟨rfl,?_⟩
   exact (M.out.setCell (zT) _).setCell (zT) _
  have V:=p6 rfl;clear p3 p4 p5 p6
  go_enter Tryz.func64,Tryz.ntmps64
  go_wp2_with fail;refine (F.out _ s.out).mono ?_;rintro e w1 ⟨rfl,g⟩;have J:=aa g;have O:=aa (ae s.out g);obtain ⟨V1,p⟩:=az (w1.alloc (.cells #[.int .i64 u.1,.int .i64 u.2] 52));have f:Bl w1 V1:=by rw [←p];exact (zS).alloc (zT) _
  have A:=aa (ae g f);have y:=aa (ae O.out f);have B:V1.heap[w1.heap.size]?=some (.cells #[.int .i64 u.1,.int .i64 u.2] 52 (0,0)):=by rw [←p];exact heap_alloc_new _ _
  have G1:=aa B;have d:=(A.out.block (w.heap.size+1) (zY L.out).1).trans L.out;have k0:V1.cell? ⟨w.heap.size+1,0,none⟩=some (.int .i64 6):=by simp [World.cell?,d]
  have k4:V1.cell? ⟨w.heap.size+1,4,none⟩=some (.int .i64 (c:Int)):=by simp [World.cell?,d]
  have kl:=(zY d).1;clear g f B d hW d0 d1 d2 d3;go_wp2_with fail;refine (G.out _ y.out).mono ?_;rintro e w2 ⟨rfl,n⟩;have P:=aa (ae y.out n);have R:=aa (ae A.out n);obtain ⟨V2,q⟩:=az (w2.alloc (.cells #[.int .i64 v.1,.int .i64 v.2] 52));have f:Bl w2 V2:=by rw [←q];exact (zS).alloc (zT) _
  have Q:=aa (ae P.out f);have z:=aa (ae R.out f);obtain ⟨y1,y2,y3,-,-⟩:=kw G1.out (ae n f);have D:V2.heap[w2.heap.size]?=some (.cells #[.int .i64 v.1,.int .i64 v.2] 52 (0,0)):=by rw [←q];exact heap_alloc_new _ _
  obtain ⟨q1,q2,q3,-,-⟩:=kw D (zS);have d:=(z.out.block (w.heap.size+1) (zY L.out).1).trans L.out;have S:V2.cell? ⟨w.heap.size+1,0,none⟩=some (.int .i64 6):=by simp [World.cell?,d]
  have T:=(zY d).1;clear n f D d p k0 k4 kl F G;go_wp2_with fail;refine (V _).mono ?_;rintro e w3 ⟨rfl,r⟩;obtain ⟨r1,X,Y,rf0,rf1⟩:=kw HR.out (ae z.out r);have M:=aa (ae Q.out r);clear r V q S T y1 y2 y3 q1 q2 q3;go_wp2_with fail;refine bodyPost_ret (v:=.agg #[.int .i64 t.1,.int .i64 t.2]) (by simp [results,Tryz.results64,go_sem,X,Y]) rfl ⟨rfl,?_⟩
  exact (M.out.setCell (zT) _).setCell (zT) _
end Go.Proofs.YtohgnbgamfepoaaGreatDoor
