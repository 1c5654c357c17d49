/- What the document's En -/
import Derived.Test.YtompdcaikmekkaaGreatDoorJHAT
namespace Go.Proofs.YtompdcaikmekkaaGreatDoor
open ChangeShapes WideShapes ChangeAt RowKit
set_option maxRecDepth 99999
set_option maxHeartbeats 0
theorem yq (A:Option Addr) (cap:Nat) (xs:List EnL) (Ap:Option Addr) (z:Nat) (p:List Int) (w:World) (E:xs.length≤3000) (x:b6 w A cap xs) (D:mK xs p) (H:a7 w Ap z p) :
  Rt 58 #[.slice A xs.length cap,.slice Ap p.length z] w (.agg #[.int .i64 (getE (lE xs) p).1,.int .i64 (getE (lE xs) p).2]):=by
 obtain ⟨v0,c⟩:=aA (w.alloc (.cells #[.int .i64 0,.int .i64 0] 52));have f:Bl w v0:=by rw [←c];go_grown
 have h:=rD A cap xs Ap z p v0 E (x.later f) D (H.later f);have r:=aa f;have I:v0.heap[w.heap.size]?=some (.cells #[.int .i64 0,.int .i64 0] 52):=by rw [←c];exact heap_alloc_new w _
 have u:w.heap.size<v0.heap.size:=by rw [←c];simp
 have s:=aa I;have J:=aa x;clear H f I;cases hh:hasE (lE xs) p
 ·have HV:Hid (getE (lE xs) p=(0,0)):=by
   show _=_
   rcases Nat.lt_or_ge (cntE (lE xs) p) (lE xs).length with h1 | h1
   ·have q:=sn (l:=lE xs) (p:=p) rfl h1
    rw [q.1] at hh;rw [q.2,if_pos (by simpa using hh)]
   exact (nw rfl h1).2
  rw [hh] at h;generalize cntE (lE xs) p=i at h;generalize getE (lE xs) p=V at HV;generalize xs.length=n at h E;generalize p.length=np at h;clear hh x D
  go_enter Tryz.func58,Tryz.ntmps58
  go_wp2_with fail;clear c;refine h.mono ?_;rintro e w1 ⟨rfl,a⟩;have d:w1.heap[w.heap.size]?=some (.cells #[.int .i64 0,.int .i64 0] 52):=(a.block _ u).trans s.out;have B:w1.cell? ⟨w.heap.size,0,none⟩=some (.int .i64 0):=by rw [Lib.cell_of_heap d];rfl
  have C:w1.cell? ⟨w.heap.size,1,none⟩=some (.int .i64 0):=by rw [Lib.cell_of_heap d];rfl
  have K:w1.frozen? ⟨w.heap.size,0,none⟩=false:=Lib.frozen_of_heap d 0;have L:w1.frozen? ⟨w.heap.size,1,none⟩=false:=Lib.frozen_of_heap d 1;have g:=aa (ae r.out a);clear a d h;go_wp2_with fail;refine bodyPost_ret (v:=.agg #[.int .i64 0,.int .i64 0]) (by simp [results,Tryz.results58,go_sem,B,C]) rfl ⟨by rw [HV.out],?_⟩
  exact (g.out.setCell (zT) _).setCell (zT) _
 have t:=sh hh;have q:=sn (l:=lE xs) (p:=p) rfl t;have HV:Hid (getE (lE xs) p=(1,(xs.getD (cntE (lE xs) p) aJ).e.n)):=by
  show _=_
  rw [q.1] at hh;rw [q.2,if_neg (by simpa using hh),lE_at]
 rw [a8] at t;rw [hh] at h;obtain ⟨n,m⟩:=aA xs.length;have F:=aa m;rw [m] at h E t ⊢;generalize cntE (lE xs) p=i at h t HV;generalize getE (lE xs) p=V at HV;generalize hgn:(xs.getD i aJ).e.n=num at HV;have y:=aa hgn;generalize p.length=np at h;have N:(i:Int)<(n:Int):=by omega
 clear hh x D q hgn m
 go_enter Tryz.func58,Tryz.ntmps58
 go_wp2_with fail;clear c;refine h.mono ?_;rintro e w1 ⟨rfl,a⟩;have d:w1.heap[w.heap.size]?=some (.cells #[.int .i64 0,.int .i64 0] 52):=(a.block _ u).trans s.out;have B:w1.cell? ⟨w.heap.size,0,none⟩=some (.int .i64 0):=by rw [Lib.cell_of_heap d];rfl
 have C:w1.cell? ⟨w.heap.size,1,none⟩=some (.int .i64 0):=by rw [Lib.cell_of_heap d];rfl
 have K:w1.frozen? ⟨w.heap.size,0,none⟩=false:=Lib.frozen_of_heap d 0;have L:w1.frozen? ⟨w.heap.size,1,none⟩=false:=Lib.frozen_of_heap d 1;have j:Bl w w1:=ae r.out a;have g:=aa j;obtain ⟨-,-,M | ⟨b,o,rfl,G⟩⟩:=J.out.later j
 ·have:=F.out;rw [M] at this;simp at this;omega
 have c3:=(G.at (k:=i) (by rw [F.out];exact t)).2
 rw [y.out] at c3;clear a d h j G;go_wp2_with fail;refine bodyPost_ret (v:=.agg #[.int .i64 1,.int .i64 num]) (by simp [results,Tryz.results58,go_sem,B,C]) rfl ⟨by rw [HV.out],?_⟩
 exact (g.out.setCell (zT) _).setCell (zT) _
theorem zO {W w':World} {q b o1:Nat} {u v:Value} (h:q<W.heap.size∧b<W.heap.size∧W.cell? ⟨q,0,none⟩=some u∧W.cell? ⟨b,o1,none⟩=some v) (a:Bl W w'):Bl W w'∧w'.cell? ⟨q,0,none⟩=some u∧w'.cell? ⟨b,o1,none⟩=some v :=
 ⟨a,aD a h.1 h.2.2.1,aD a h.2.1 h.2.2.2⟩
theorem JL {W w':World} {b o1 o2:Nat} {u v:Value} (h:b<W.heap.size∧W.cell? ⟨b,o1,none⟩=some u∧W.cell? ⟨b,o2,none⟩=some v) (a:Bl W w'):Bl W w'∧w'.cell? ⟨b,o1,none⟩=some u∧w'.cell? ⟨b,o2,none⟩=some v :=
 ⟨a,aD a h.1 h.2.1,aD a h.1 h.2.2⟩
theorem sS (A0:Option Addr) (cap n:Nat) (D:Nat→Dm) (A:Nat→Option Addr) (C:Nat→Nat) (AE:Option Addr) (ce:Nat) (xs:List EnL) (w:World) (hM:aY w A0 cap n D A C) (hE:b6 w AE ce xs) :
  Rt 22 #[.agg #[.slice A0 n cap],.slice AE xs.length ce] w (.int .i64 (entsErr D n (lE xs))):=by
 have KI:=aq w A0 n cap 24;have h:=yA A0 cap n D A C (ay w A0 n cap 24) (hM.later KI);have Y:=aa KI;have HM:=aa hM;have HE:=aa hE;clear hM KI
 by_cases hR:(am D n).2.2=0
 ·have HR:=aa hR
  have HV:Hid (entsErr D n (lE xs)=aW D n (qOf (lE xs) 0) ((lE xs).drop 0)):=zH _ hR;rw [hR] at h;obtain ⟨N,hN⟩:=aA xs.length;have HN:=aa hN;have hNb:(N:Int)≤9223372036854775807:=by have h1:=hE.1;have h2:=hE.2.1;omega
  rw [hN];generalize entsErr D n (lE xs)=RES at HV;clear hR hN hE
  go_enter Tryz.func22,Tryz.ntmps22
  go_wp2_with fail;refine h.mono ?_;rintro e w1 ⟨rfl,H⟩;have hB:Bl w w1:=ae Y.out H;have hz:w.heap.size<w1.heap.size:=by have:=H.size;rw [aw] at this;omega
  have h2:w1.cell? ⟨w.heap.size,0,none⟩=some (.slice A0 n cap):=aD H (by show w.heap.size<_;rw [aw];omega) (aI ..)
  have HM1:=aa (HM.out.later hB);have HE1:=aa (HE.out.later hB);have HB:=aa hB;clear H h hB HM HE Y;go_wp2_with fail
  go_loopg [6] N (fun g s6 wr => ∃ (k:Nat),k≤N∧g=N-k∧s6=.int .i64 k∧Hid (aW D n (qOf (lE xs) k) ((lE xs).drop k)=aW D n (qOf (lE xs) 0) ((lE xs).drop 0))∧Hid (∀ j,j<k→entOne D n ((lE xs).getD j noEn)=0)∧Bl w1 wr)
  case atStart=>exact ⟨0,zU,rfl,rfl,(rfl:aW D n (qOf (lE xs) 0) ((lE xs).drop 0)=aW D n (qOf (lE xs) 0) ((lE xs).drop 0)),fun j S=>absurd S (Nat.not_lt_zero _),zS⟩
  case round =>
   obtain ⟨k,hk,rfl,rfl,HF,HO,y⟩:=hrel;have r:=aa y
   by_cases hlt:k<N
   ·have B:k<xs.length:=by rw [HN.out];exact hlt
    have hki:(k:Int)<(N:Int):=by omega
    have hk1:(k:Int)+1≤9223372036854775807:=by omega
    obtain ⟨-,-,h0 | ⟨b,o,rfl,Q⟩⟩:=HE1.out.later y
    ·have:=HN.out;rw [h0] at this;simp at this;omega
    obtain ⟨c1,c2⟩:=Q.at B;have c0:wr.cell? ⟨w.heap.size,0,none⟩=some (.slice A0 n cap):=aD y hz h2;have hzr:w.heap.size<wr.heap.size:=zW hz y.size;have I:=Q.1;have Z:=aa (HM1.out.later y);have G:=aa Q;have x:Hid (∀ w',Bl wr w'→Rt 16 #[.agg #[.slice A0 n cap],.slice (xs.getD k aJ).A (xs.getD k aJ).e.pl.length (xs.getD k aJ).c] w' (.int .i64 (shapeErr D n (xs.getD k aJ).e.pl))):=fun w' u=>kE A0 cap n D A C _ _ _ w' HR.out (Z.out.later u) ((G.out.pl B).later u)
    have s:Hid (shapeErr D n (xs.getD k aJ).e.pl=0→∀ w',Bl wr w'→Rt 44 #[.agg #[.slice A0 n cap],.slice (xs.getD k aJ).A (xs.getD k aJ).e.pl.length (xs.getD k aJ).c] w' (.bool (leafV D n (xs.getD k aJ).e.pl))):=fun hs w' u=>jv A0 cap n D A C _ _ _ w' (fV (by rw [DM HR.out];exact hs)) (Z.out.later u) ((G.out.pl B).later u)
    have f:Hid (entOne D n (xs.getD k aJ).e=if shapeErr D n (xs.getD k aJ).e.pl≠0 then shapeErr D n (xs.getD k aJ).e.pl else if leafV D n (xs.getD k aJ).e.pl=false then 6 else if cT (xs.getD k aJ).e.n=false then 1 else 0):=rfl
    have l:Hid (entOne D n (xs.getD k aJ).e≠0→RES=entOne D n (xs.getD k aJ).e):=fun R=>by rw [HV.out,←HF.out,zF (by rw [a8];exact B) (by rw [lE_at];exact R),lE_at]
    have J:Hid (entOne D n (xs.getD k aJ).e=0→∀ t,aheadOk (qOf (lE xs) k) (xs.getD k aJ).e.pl=t→(t=false→RES=7)∧(t=true→aW D n (qOf (lE xs) (k+1)) ((lE xs).drop (k+1))=aW D n (qOf (lE xs) 0) ((lE xs).drop 0))):=fun R t ht=>by
     rw [←lE_at] at R ht;refine ⟨fun h1=>?_,fun h1=>?_⟩
     ·rw [HV.out,←HF.out,qX (by rw [a8];exact B) R (by rw [ht];exact h1)]
     rw [←wP (by rw [a8];exact B) R (by rw [ht];exact h1)];exact HF.out
    have O:Hid (entOne D n (xs.getD k aJ).e=0→entOne D n ((lE xs).getD k noEn)=0):=fun R=>by rw [lE_at];exact R
    have a:Hid (∀ j,k=j+1→entOne D n (xs.getD k aJ).e=0→(∃ A2 m2 X,wr.cell? ⟨b,o+j*2,none⟩=some (.slice A2 m2 X)∧∀ w',Bl wr w'→Rt 45 #[.slice A2 m2 X,.slice (xs.getD k aJ).A (xs.getD k aJ).e.pl.length (xs.getD k aJ).c] w' (.bool (aheadOk (qOf (lE xs) k) (xs.getD k aJ).e.pl)))):=fun j S R=>by
     have hjx:j<xs.length:=by omega
     have h3:=dY HR.out R;have h4:=dY HR.out (HO.out j (by omega))
     rw [lE_at] at h4;refine ⟨_,_,_,(G.out.at hjx).1,fun w' u=>?_⟩
     have h5:=mz _ _ _ _ _ _ w' (eN h4.1) (eN h3.1) ((G.out.pl hjx).later u) ((G.out.pl B).later u);have h6:aheadOk (qOf (lE xs) k) (xs.getD k aJ).e.pl=lessL (xs.getD j aJ).e.pl (xs.getD k aJ).e.pl:=by rw [S,←lE_at xs j];rfl
     rw [h6];exact h5
    have P:Hid (k=0→aheadOk (qOf (lE xs) k) (xs.getD k aJ).e.pl=true):=fun h0=>by rw [h0];rfl
    clear Q y;generalize aheadOk (qOf (lE xs) k) (xs.getD k aJ).e.pl=tA at J a P;generalize entOne D n (xs.getD k aJ).e=E1 at f l J O a;generalize shapeErr D n (xs.getD k aJ).e.pl=SE at x s f;generalize leafV D n (xs.getD k aJ).e.pl=lf at s f;generalize (xs.getD k aJ).A=A1 at c1 x s a;generalize (xs.getD k aJ).c=k1 at c1 x s a;generalize (xs.getD k aJ).e.n=n1 at c2 f;generalize (xs.getD k aJ).e.pl.length=m1 at c1 x s a;have v:Hid (w.heap.size<wr.heap.size∧b<wr.heap.size∧wr.cell? ⟨w.heap.size,0,none⟩=some (.slice A0 n cap)∧wr.cell? ⟨b,o+k*2,none⟩=some (.slice A1 m1 k1)):=⟨hzr,I,c0,c1⟩;have HC2:=aa c2;clear c0 c1 c2;go_wp2_with fail
    go_cut [5] (fun s5 wx=>s5=.int .i64 SE∧Bl wr wx)
    case first=>as_aux_lemma =>
     go_region_held3 (fun w'=>Bl wr w'∧w'.cell? ⟨w.heap.size,0,none⟩=some (.slice A0 n cap)∧w'.cell? ⟨b,o+k*2,none⟩=some (.slice A1 m1 k1))
      ((refine zO v.out ?_;go_grown;done))
      (first | (go_at_call 16;refine (x.out _ (by go_grown)).mono ?_;rintro e w3 ⟨rfl,L⟩;have KJ:=ae (W0:=wr) (by go_grown) L;have hy3:=KJ.size;clear L))
     all_goals go_wp2_with fail
     all_goals go_meet
     all_goals exact ⟨rfl,by go_grown⟩
    case rest=>as_aux_lemma =>
    obtain ⟨rfl,W⟩:=hcut;obtain ⟨w2,rfl⟩:∃ w2:World,w2=wc:=⟨_,rfl⟩;have q:=aa W;clear W
    by_cases z:SE=0
    ·have T:=s.out z
     have U:=aa T;have HC3:Hid (w.heap.size<w2.heap.size∧b<w2.heap.size∧w2.cell? ⟨w.heap.size,0,none⟩=some (.slice A0 n cap)∧w2.cell? ⟨b,o+k*2,none⟩=some (.slice A1 m1 k1)):=⟨zW v.out.1 q.out.size,zW v.out.2.1 q.out.size,(zO v.out q.out).2.1,(zO v.out q.out).2.2⟩;have K:E1=if lf=false then 6 else if cT n1=false then 1 else 0:=by rw [f.out,if_neg (by simpa using z)]
     have m:=aa K;subst z;clear K T;go_wp2_with fail
     go_cut [7] (fun s7 wx=>s7=.bool lf∧Bl w2 wx)
     case first=>as_aux_lemma =>
      go_region_held3 (fun w'=>Bl w2 w'∧w'.cell? ⟨w.heap.size,0,none⟩=some (.slice A0 n cap)∧w'.cell? ⟨b,o+k*2,none⟩=some (.slice A1 m1 k1))
       ((refine zO HC3.out ?_;go_grown;done))
       (first | (go_at_call 44;refine (U.out _ (ae q.out (by go_grown))).mono ?_;rintro e w3 ⟨rfl,L⟩;have KJ:=ae (W0:=w2) (by go_grown) L;have hy3:=KJ.size;clear L))
      all_goals go_wp2_with fail
      all_goals go_meet
      all_goals exact ⟨rfl,by go_grown⟩
     case rest=>as_aux_lemma =>
     obtain ⟨rfl,W⟩:=hcut;obtain ⟨w3,rfl⟩:∃ w3:World,w3=wc:=⟨_,rfl⟩;have p:=aa (ae q.out W);clear W HC3 U q;cases lf
     ·have d:Hid (RES=6):=by
       have e6:E1=6:=by rw [m.out];rfl
       show _=_
       rw [l.out (by rw [e6];decide),e6]
      go_wp2_with fail;go_ret;rw [d.out];exact ⟨rfl,ae HB.out (ae r.out p.out)⟩
     have c3:w3.cell? ⟨b,o+k*2+1,none⟩=some (.int .i64 n1):=aD p.out I HC2.out
     by_cases hlo:n1 < -1000000
     ·have d:Hid (RES=1):=by
       have V:E1=1:=by rw [m.out,if_neg (by decide),if_pos (by simp [cT];omega)]
       show _=_
       rw [l.out (by rw [V];decide),V]
      go_wp2_with fail;go_ret;rw [d.out];exact ⟨rfl,ae HB.out (ae r.out p.out)⟩
     by_cases hhi:1000000<n1
     ·have d:Hid (RES=1):=by
       have V:E1=1:=by rw [m.out,if_neg (by decide),if_pos (by simp [cT];omega)]
       show _=_
       rw [l.out (by rw [V];decide),V]
      go_wp2_with fail;go_ret;rw [d.out];exact ⟨rfl,ae HB.out (ae r.out p.out)⟩
     have e0:E1=0:=by rw [m.out,if_neg (by decide),if_neg (by simp [cT];omega)]
     have HT:Hid ((tA=false→RES=7)∧(tA=true→aW D n (qOf (lE xs) (k+1)) ((lE xs).drop (k+1))=aW D n (qOf (lE xs) 0) ((lE xs).drop 0))):=J.out e0 tA rfl;have HKk:=aa (O.out e0);have KG:Hid (∀ j,k=j+1→(∃ A2 m2 X,wr.cell? ⟨b,o+j*2,none⟩=some (.slice A2 m2 X)∧∀ w',Bl wr w'→Rt 45 #[.slice A2 m2 X,.slice A1 m1 k1] w' (.bool tA))):=fun j S=>a.out j S e0
     clear f m l J O a s x e0
     rcases Nat.eq_zero_or_pos k with hk0 | hk0
     ·have KH:=aa (HT.out.2 (P.out hk0))
      subst hk0;simp only [Nat.zero_mul,Nat.add_zero] at c3;clear KG P HT HO HF;go_wp2_with fail
      go_quiet (fail)
      go_wp2_with fail
      go_roundg (N-(0+1))
      case measure=>omega
      case rel =>
       refine ⟨0+1,by omega,rfl,by go_num,KH.out,fun j S=>?_,ac (ae r.out p.out) _⟩
       have:j=0:=by omega
       rw [this];exact HKk.out
     obtain ⟨j,S⟩:∃ j,k=j+1:=⟨k-1,by omega⟩
     obtain ⟨A2,m2,X,M,F⟩:=KG.out j S;have HLs:=aa F;have HC4:Hid (b<w3.heap.size∧w3.cell? ⟨b,o+j*2,none⟩=some (.slice A2 m2 X)∧w3.cell? ⟨b,o+k*2,none⟩=some (.slice A1 m1 k1)):=⟨zW I p.out.size,aD p.out I M,aD p.out I v.out.2.2.2⟩;have hwr:IntKind.i64.wrap ((k:Int)-1)=(j:Int):=by rw [IntKind.wrap_i64];omega
     have hkz:((k:Int) == 0)=false:=by simp;omega
     have hkz' : ¬ ((k:Int)=0):=by omega
     have hjN:(j:Int)<(N:Int):=by omega
     clear S M F KG hk0;go_wp2_with fail
     go_cut [8] (fun s8 wx=>s8=.bool tA∧Bl w3 wx)
     case first=>as_aux_lemma =>
      go_region_held3 (fun w'=>Bl w3 w'∧w'.cell? ⟨b,o+j*2,none⟩=some (.slice A2 m2 X)∧w'.cell? ⟨b,o+k*2,none⟩=some (.slice A1 m1 k1))
       ((refine JL HC4.out ?_;go_grown;done))
       (first | (go_at_call 45;refine (HLs.out _ (ae p.out (by go_grown))).mono ?_;rintro e w4 ⟨rfl,hb4⟩;have hN4:=ae (W0:=w3) (by go_grown) hb4;have hy4:=hN4.size;clear hb4))
      all_goals go_wp2_with fail
      all_goals go_meet
      all_goals exact ⟨rfl,by go_grown⟩
     case rest=>as_aux_lemma =>
     obtain ⟨rfl,W⟩:=hcut;obtain ⟨w4,rfl⟩:∃ w4:World,w4=wc:=⟨_,rfl⟩;have HB4:=aa (ae p.out W);clear W HC4 HLs hwr hkz hkz' hjN c3;cases tA
     ·have d:Hid (RES=7):=HT.out.1 rfl
      go_wp2_with fail;go_ret;rw [d.out];exact ⟨rfl,ae HB.out (ae r.out HB4.out)⟩
     have KH:Hid (aW D n (qOf (lE xs) (k+1)) ((lE xs).drop (k+1))=aW D n (qOf (lE xs) 0) ((lE xs).drop 0)):=HT.out.2 rfl;go_wp2_with fail
     go_roundg (N-(k+1))
     case measure=>omega
     case rel =>
      refine ⟨k+1,by omega,rfl,by go_num,KH.out,fun i hi=>?_,ae r.out HB4.out⟩
      rcases Nat.lt_succ_iff_lt_or_eq.1 hi with h1 | rfl
      ·exact HO.out i h1
      exact HKk.out
    have d:Hid (RES=SE):=by
     have V:E1=SE:=by rw [f.out,if_pos (by simpa using z)]
     show _=_
     rw [l.out (by rw [V];exact z),V]
    have hSE':(SE != 0)=true:=by simpa using z
    clear s x f l J O a z v HC2 G Z HE1 HM1 HO HF P hki hk1 hzr I;go_wp2_with fail;go_ret;rw [d.out];exact ⟨rfl,ae HB.out (ae r.out q.out)⟩
   have hke:k=N:=by omega
   subst hke;have d:Hid (RES=0):=by show _=_;rw [HV.out,←HF.out,zG (by rw [a8,HN.out];exact zT)]
   clear y;go_wp2_with fail;go_ret;rw [d.out];exact ⟨rfl,ae HB.out r.out⟩
 have HV:Hid (entsErr D n (lE xs)=(am D n).2.2):=tY _ hR;have hR':((am D n).2.2 == 0)=false:=by simpa using hR
 generalize entsErr D n (lE xs)=RES at HV;generalize (am D n).2.2=E at h HV hR hR';generalize xs.length=N;clear hE HM HE
 go_enter Tryz.func22,Tryz.ntmps22
 go_wp2_with fail;refine h.mono ?_;rintro e w1 ⟨rfl,H⟩;go_wp2_with fail;go_ret;rw [HV.out];exact ⟨rfl,ae Y.out H⟩
structure WL where
 lf:Bool
 nd:List Nd
 An:Option Addr
 cn:Nat
 nm:List (List UInt8)
 As:Option Addr
 cs:Nat
 ne:List Int
 Ai:Option Addr
 ci:Nat
 sg:List Int
 Ag:Option Addr
 cg:Nat
def eT:WL:=⟨false,[],none,0,[],none,0,[],none,0,[],none,0⟩
def iR (x:WL):List Value:=[.bool x.lf,.slice x.An x.nd.length x.cn,.slice x.As x.nm.length x.cs,.slice x.Ai x.ne.length x.ci,.slice x.Ag x.sg.length x.cg]
def wayV (x:WL):Value:=.agg #[.bool x.lf,.slice x.An x.nd.length x.cn,.slice x.As x.nm.length x.cs,.slice x.Ai x.ne.length x.ci,.slice x.Ag x.sg.length x.cg]
def eB (w:World) (x:WL):Prop:=ji w x.An x.cn x.nd∧jR w x.As x.cs x.nm∧aR w x.Ai x.ci x.ne∧aR w x.Ag x.cg x.sg
theorem DE:(131:Nat)≠154:=by decide
theorem ze:(9:Nat)≠154:=by decide
theorem qe:(3:Nat)≠154:=by decide
theorem D2:(131:Nat)≠142:=by decide
theorem Bn:(9:Nat)≠142:=by decide
theorem qE:(3:Nat)≠142:=by decide
theorem Bo:(154:Nat)≠142:=by decide
def kn (T:Nat) (w w':World):Prop := ∀ (b:Nat) (cs:Array Value) (t:Nat) (fr:Nat×Nat),w.heap[b]?=some (Obj.cells cs t fr)→t≠T→w'.heap[b]?=w.heap[b]?
theorem eB.keepW {w w':World} {x:WL} (h:eB w x) (c:kn 154 w w'):eB w' x :=
 ⟨h.1.keep fun b cs fr a=>c b cs _ fr a DE,h.2.1.keep fun b cs fr a=>c b cs _ fr a ze,h.2.2.1.keep fun b cs fr a=>c b cs _ fr a qe,h.2.2.2.keep fun b cs fr a=>c b cs _ fr a qe⟩
theorem eB.keepA {w w':World} {x:WL} (h:eB w x) (c:kn 142 w w'):eB w' x :=
 ⟨h.1.keep fun b cs fr a=>c b cs _ fr a D2,h.2.1.keep fun b cs fr a=>c b cs _ fr a Bn,h.2.2.1.keep fun b cs fr a=>c b cs _ fr a qE,h.2.2.2.keep fun b cs fr a=>c b cs _ fr a qE⟩
theorem eB.later {w w':World} {x:WL} (h:eB w x) (a:Bl w w'):eB w' x:=⟨h.1.later a,h.2.1.later a,h.2.2.1.later a,h.2.2.2.later a⟩
theorem et {w:World} {g k T:Nat} {cs:Array Value} {fr:Nat×Nat} {v:Value} (h:w.heap[g]?=some (.cells cs T fr)):kn T w (w.setCell ⟨g,k,none⟩ v):=fun b c t d a f=>by
 refine av _ _ _ _ _ fun e=>?_
 rw [e,h] at a;simp only [Option.some.injEq,Obj.cells.injEq] at a;exact f a.2.1.symm
theorem eF {T:Nat} {w w1 w2:World} (h:kn T w w1) (k:kn T w1 w2):kn T w w2:=fun b cs t fr a c=>by
 have e:=h b cs t fr a c;exact (k b cs t fr (e.trans a) c).trans e
theorem cH {w:World} {g k T:Nat} {cs:Array Value} {fr:Nat×Nat} {v:Value} (h:w.heap[g]?=some (.cells cs T fr)):(w.setCell ⟨g,k,none⟩ v).heap[g]?=some (.cells (cs.setIfInBounds k v) T fr):=by
 rw [Sort.setCell_eq];unfold Sort.mapBlock;simp only [Array.getElem?_modify,if_true,h,Option.map_some]
 rfl
theorem jG {w:World} {g T:Nat} {cs:Array Value} {fr:Nat×Nat} {a b c d e:Value} (h:w.heap[g]?=some (.cells cs T fr)):kn T w (((((w.setCell ⟨g,0,none⟩ a).setCell ⟨g,1,none⟩ b).setCell ⟨g,2,none⟩ c).setCell ⟨g,3,none⟩ d).setCell ⟨g,4,none⟩ e) :=
 eF (eF (eF (eF (et h) (et (cH h))) (et (cH (cH h)))) (et (cH (cH (cH h))))) (et (cH (cH (cH (cH h)))))
def ii (d:Dm) (k:Int):Int:=(d.mem k.toNat).sign
def fH (d:Dm) (i:Nat) (x:WL):Prop:=((d.mem i).formula.size=0→x.lf=leafB d.mem d.n i∧x.nd=[]∧x.nm=[]∧x.ne=eo d i∧x.sg=(eo d i).map (ii d))∧((d.mem i).formula.size≠0→x.lf=false∧x.nd=bG (d.mem i).formula∧x.nm=aX (bG (d.mem i).formula)∧x.ne=(aX (bG (d.mem i).formula)).map (whL d)∧x.sg=[])
def cG (w:World) (d:Dm) (A:Option Addr) (cap:Nat):World:=(aM w d A cap 70).alloc (.cells #[.bool false,.slice none 0 0,.slice none 0 0,.slice none 0 0,.slice none 0 0] 154)
theorem iY (w:World) (d:Dm) (A:Option Addr) (cap:Nat):Bl w (cG w d A cap):=by unfold cG aM;go_grown
theorem gQ (w:World) (d:Dm) (A:Option Addr) (cap:Nat):(cG w d A cap).heap.size=w.heap.size+2:=by unfold cG aM;simp
theorem gl {w w1:World} {d:Dm} {A:Option Addr} {cap:Nat} (a:Below (cG w d A cap).heap.size (cG w d A cap) w1):(w1.cell? ⟨w.heap.size,0,none⟩=some (.string d.name)∧w1.cell? ⟨w.heap.size,1,none⟩=some (.int .i64 d.solve)∧w1.cell? ⟨w.heap.size,2,none⟩=some (.slice A d.n cap)∧w.heap.size<w1.heap.size)∧w1.heap[w.heap.size+1]?=some (.cells #[.bool false,.slice none 0 0,.slice none 0 0,.slice none 0 0,.slice none 0 0] 154 (0,0)):=by
 have b:Below (aM w d A cap 70).heap.size (aM w d A cap 70) (cG w d A cap):=by unfold cG;go_grown
 refine ⟨fp (ae b a),?_⟩;rw [a.block _ (by rw [gQ];omega)]
 unfold cG;have h:=heap_alloc_new (aM w d A cap 70) (.cells #[.bool false,.slice none 0 0,.slice none 0 0,.slice none 0 0,.slice none 0 0] 154);rw [bg] at h;exact h
theorem iM {w:World} {g:Nat} (h:w.heap[g]?=some (.cells #[.bool false,.slice none 0 0,.slice none 0 0,.slice none 0 0,.slice none 0 0] 154 (0,0))):g<w.heap.size∧(w.cell? ⟨g,0,none⟩=some (.bool false)∧w.cell? ⟨g,1,none⟩=some (.slice none 0 0)∧w.cell? ⟨g,2,none⟩=some (.slice none 0 0)∧w.cell? ⟨g,3,none⟩=some (.slice none 0 0)∧w.cell? ⟨g,4,none⟩=some (.slice none 0 0))∧∀ k,w.frozen? ⟨g,k,none⟩=false :=
 ⟨(zY h).1,⟨by simp [World.cell?,h],by simp [World.cell?,h],by simp [World.cell?,h],by simp [World.cell?,h],by simp [World.cell?,h]⟩,fun k=>by simp [World.frozen?,h]⟩
theorem F9 (d:Dm) (P:List Int) {k:Nat} (h:k<P.length):(P.take (k+1)).map (ii d)=(P.take k).map (ii d) ++ [ii d (P.getD k 0)]:=by
 rw [List.take_succ_eq_append_getElem h,List.map_append,zZ,zX h]
 rfl
theorem tI (d:Dm) (A:Option Addr) (cap i:Nat) (w:World) (hR:(bu d).2=0) (hi:i<d.n) (hf:(d.mem i).formula.size=0) (hM:eg w A cap d.n d.mem) :
  Calls Tryz.prog 139 #[cM d A cap,.int .i64 i] w fun e w'=>(∃ x,e=.returned (.tuple #[wayV x,.nilIface])∧eB w' x∧fH d i x)∧Bl w w':=by
 obtain ⟨hd,-,-,-⟩:=bH hR;obtain ⟨-,-,hd2,-⟩:=aL hd;obtain ⟨i0,hi0,hz0,hz1,hz2⟩:=info_parts Tryz.infoInt;obtain ⟨hcap,h0 | ⟨b,o,rfl,U⟩⟩:=id hM
 ·omega
 have y:=iY w d (some ⟨b,o,none⟩) cap;have hS:=gQ w d (some ⟨b,o,none⟩) cap;obtain ⟨⟨o0,o1,o2,hq⟩,KH⟩:=gl (w:=w) (d:=d) (A:=(some ⟨b,o,none⟩)) (cap:=cap) (zS);have L:treeErr d [(i:Int)]=0:=by rw [gZ hd,if_neg (by omega)]
 have Z:sv d i=leafB d.mem d.n i:=by unfold sv;rw [L];simp
 have c:=rK d (some ⟨b,o,none⟩) cap i (cG w d (some ⟨b,o,none⟩) cap) (hM.later y);rw [L,Z,errV_zero] at c;have s:Hid (∀ w',Bl w w'→Calls Tryz.prog 168 #[cM d (some ⟨b,o,none⟩) cap,.int .i64 i] w' fun e w''=>(∃ A' q,e=.returned (.tuple #[.slice A' (eo d i).length q,.nilIface])∧aR w'' A' q (eo d i))∧Bl w' w''):=fun w' hb=>by
  have h:=Da d (some ⟨b,o,none⟩) cap i w' (hM.later hb);rw [(Kc hR hi).1,(Kc hR hi).2,errV_zero] at h;exact h
 have u:Hid (∀ w1,Below (cG w d (some ⟨b,o,none⟩) cap).heap.size (cG w d (some ⟨b,o,none⟩) cap) w1→(w1.cell? ⟨w.heap.size,0,none⟩=some (.string d.name)∧w1.cell? ⟨w.heap.size,1,none⟩=some (.int .i64 d.solve)∧w1.cell? ⟨w.heap.size,2,none⟩=some (.slice (some ⟨b,o,none⟩) d.n cap)∧w.heap.size<w1.heap.size)∧w1.heap[w.heap.size+1]?=some (.cells #[.bool false,.slice none 0 0,.slice none 0 0,.slice none 0 0,.slice none 0 0] 154 (0,0))):=fun w1 h=>gl h
 have HM:=aa U;have Q:Hid (∀ z∈eo d i,0≤z∧z<(d.n:Int)):=fun z hz=>em hz
 have C:(eo d i).length≤12:=zV (cF _ _) hd2;unfold cM at c s ⊢;obtain ⟨W,hW⟩:=aA (cG w d (some ⟨b,o,none⟩) cap);rw [hW] at y hS o0 o1 o2 hq KH c u;unfold cG aM at hW;have F:=aa y;have H:Hid (∀ A' q A2 c2,fH d i ⟨leafB d.mem d.n i,[],none,0,[],none,0,eo d i,A',q,(eo d i).map (ii d),A2,c2⟩):=fun A' q _ _=>⟨fun _=>⟨rfl,rfl,rfl,rfl,rfl⟩,fun h=>absurd hf h⟩
 generalize leafB d.mem d.n i=lf at c H;obtain ⟨P,hP⟩:=aA (eo d i);rw [hP] at s Q C H;obtain ⟨n,hn⟩:=aA P.length;have M:=aa hn;rw [hn] at s C;have hnI:(n:Int)≤12:=by omega
 have hdI:(d.n:Int)≤12:=by omega
 have hcI:(d.n:Int)≤(cap:Int):=by omega
 clear hd L Z hR hf hM U y KH hP hn
 go_enter Tryz.func139,Tryz.ntmps139
 go_wp2_with fail;refine c.mono ?_;rintro e w1 ⟨rfl,K⟩;have N:=aa K;obtain ⟨⟨p0,p1,p2,hq1⟩,-⟩:=u.out w1 K;clear K c o0 o1 o2 hW;go_wp2_with fail;refine (s.out w1 (ae F.out N.out)).mono ?_;rintro e w2 ⟨⟨A2,c2,rfl,R⟩,V⟩;have G:=aa (ae N.out V);have O:=aa R;clear V p0 p1 p2 R;go_wp2_with fail
 go_loopg [9,34] n (fun g s9 s34 wr => ∃ (k:Nat) (v:Value),k≤n∧g=n-k∧s34=.int .i64 k∧v=s9∧wr.ownsRow w2.heap.size 3 1 v k (aF ((P.take k).map (ii d)))∧Bl w2 wr)
 case atStart=>exact ⟨0,_,zU,rfl,rfl,rfl,World.ownsRow_nil _ _ _ _,zS⟩
 case round =>
  obtain ⟨k,v,hk,rfl,rfl,rfl,hO,l⟩:=hrel;have HO:=aa hO;have f:=aa l
  by_cases hlt:k<n
  ·have hki:(k:Int)<(n:Int):=by omega
   have B:k<P.length:=by rw [M.out];exact hlt
   obtain ⟨hcS,-,hS0 | ⟨bs,cs,fr,rfl,X,Y⟩⟩:=O.out.later l
   ·have:=M.out;rw [hS0] at this;simp at this;omega
   have cx:=Y k B;have hbs:bs<wr.heap.size:=(zY X).1;rw [M.out] at hcS;have E:P.getD k 0∈P:=by rw [zZ,zX B];exact List.getElem_mem B
   have hz:=Q.out _ E;have t:Hid ((P.take (k+1)).map (ii d)=(P.take k).map (ii d) ++ [ii d (P.getD k 0)]):=F9 d P B;have J:=ae G.out l;obtain ⟨⟨-,-,q2,hq2⟩,-⟩:=u.out wr J;have I:=HM.out.later (ae F.out J);obtain ⟨j,hj⟩:∃ j:Nat,P.getD k 0=(j:Int):=⟨(P.getD k 0).toNat,by omega⟩
   have hjn:j<d.n:=by omega
   have hjI:(j:Int)<(d.n:Int):=by omega
   rw [hj] at cx t;obtain ⟨-,-,m2,-⟩:=I.2 j hjn;have hbl:b<wr.heap.size:=I.1;have KG:ii d (j:Int)=(d.mem j).sign:=by unfold ii;rw [Int.toNat_natCast]
   rw [KG] at t;have hBs:=f.out.size;generalize (d.mem j).sign=r at m2 t;clear Y hO l J I hj hz E KG X
   go_wp2_with (at_builtin;refine wpList_append_own _ rfl _ _ 26 rfl w2.heap.size 3 i0 (.int .i64 0) 1 8 Tryz.underlying26 hi0 hz0 hz1 hz2 rfl (by decide) _ _ _ rfl (HO.out.alloc _) ⟨wr.heap.size,0,none⟩ 1 1 [.int .i64 r] rfl rfl bw dF (by unfold maxLen;omega) (by omega) (by simp;omega) ?_)
   intro v' w5 p m _;have HB5:Hid (Bl w2 w5):=bB f.out HO.out m;have HO5:Hid (w5.ownsRow w2.heap.size 3 1 v' (k+1) (aF ((P.take (k+1)).map (ii d)))):=by
    show World.ownsRow ..
    rw [t.out,mapI_snoc,List.map_take];exact p
   clear p m;go_wp2_with fail
   go_roundg (n-(k+1))
   case measure=>omega
   case rel=>exact ⟨k+1,_,by omega,rfl,by go_num,rfl,HO5.out,HB5.out⟩
  have hke:k=n:=by omega
  subst hke;have T:P.take k=P:=List.take_of_length_le (by rw [M.out];exact zT)
  have HF:Hid (∃ A' q,v=.slice A' k q∧aR wr A' q (P.map (ii d))):=by
   have h:=hO;rw [T] at h;have D:(P.map (ii d)).length=k:=by rw [List.length_map];exact M.out
   rw [←D] at h;obtain ⟨A',q,e,hv⟩:=bP h;rw [D] at e;exact ⟨A',q,e,hv⟩
  obtain ⟨A3,c3,rfl,S⟩:=HF.out;have HI3:=aa S;obtain ⟨-,hr⟩:=u.out wr (ae G.out f.out);obtain ⟨hg,⟨r0,r1,r2,r3,r4⟩,a⟩:=iM hr;have f0:=a 0;have f1:=a 1;have f2:=a 2;have f3:=a 3;have f4:=a 4;have HRr:=aa hr;clear hO l hr a S T HO HF;go_wp2_with fail;refine bodyPost_ret (v:=.tuple #[wayV ⟨lf,[],none,0,[],none,0,P,A2,c2,P.map (ii d),A3,c3⟩,.nilIface]) (by simp [results,Tryz.results139,go_sem,r0,r1,r2,r3,r4,wayV,M.out]) rfl ⟨⟨_,rfl,?_,H.out _ _ _ _⟩,?_⟩
  ·exact eB.keepW (⟨ji.nil _ _ _ (zU),jR.nil _ _ _ (zU),O.out.later f.out,HI3.out⟩:eB wr _) (jG HRr.out)
  exact (((((ae F.out (ae G.out f.out)).setCell (by simp) _).setCell (by simp) _).setCell (by simp) _).setCell (by simp) _).setCell (by simp) _
theorem IR:dt 167:=fun args w=>by simp [callFunc,Tryz.func167];rfl
theorem GP (m:Mem) (s:ByteArray) (q:Nat) (w:World) (a:q<w.heap.size) (h:w.cell? ⟨q,0,none⟩=some (.string s)):Rt 167 #[qq m,.pointer (some ⟨q,0,none⟩)] w (.bool (same m.name s)):=by
 unfold qq
 go_enter Tryz.func167,Tryz.ntmps167
 go_wp2_with fail;go_ret;exact ⟨by simp [same],by go_grown⟩
theorem qj (d:Dm) (A:Option Addr) (cap i:Nat) (w:World) (hR:(bu d).2=0) (hi:i<d.n) (hf:(d.mem i).formula.size≠0) (hM:eg w A cap d.n d.mem) :
  Calls Tryz.prog 138 #[cM d A cap,.string (d.mem i).formula] w fun e w'=>(∃ x,e=.returned (.tuple #[wayV x,.nilIface])∧eB w' x∧fH d i x)∧Bl w w':=by
 obtain ⟨hd,KQ,-,-⟩:=bH hR;obtain ⟨-,-,hd2,D⟩:=aL hd;obtain ⟨i0,hi0,hz0,hz1,hz2⟩:=info_parts Tryz.infoInt;have hmf:∀ (fn:Fn) (first cap:Array Value) (w:World),(Instr.makeFunc fn first cap).run Tryz.prog w=.ok (.func fn first cap) w:=fun _ _ _ _=>rfl
 obtain ⟨hcap,h0 | ⟨b,o,rfl,KJ⟩⟩:=hM
 ·omega
 have S:=fw hf (KQ i hi);have R:=dL S;have KR:=pG R;have K:=iY w d (some ⟨b,o,none⟩) cap;have hS:=gQ w d (some ⟨b,o,none⟩) cap;obtain ⟨⟨o0,o1,o2,hq⟩,-⟩:=gl (w:=w) (d:=d) (A:=(some ⟨b,o,none⟩)) (cap:=cap) (zS);have H:Hid (∀ w1,Below (cG w d (some ⟨b,o,none⟩) cap).heap.size (cG w d (some ⟨b,o,none⟩) cap) w1→(w1.cell? ⟨w.heap.size,0,none⟩=some (.string d.name)∧w1.cell? ⟨w.heap.size,1,none⟩=some (.int .i64 d.solve)∧w1.cell? ⟨w.heap.size,2,none⟩=some (.slice (some ⟨b,o,none⟩) d.n cap)∧w.heap.size<w1.heap.size)∧w1.heap[w.heap.size+1]?=some (.cells #[.bool false,.slice none 0 0,.slice none 0 0,.slice none 0 0,.slice none 0 0] 154 (0,0))):=fun w1 h=>gl h
 have HM:=aa KJ;unfold cM;obtain ⟨W,hW⟩:=aA (cG w d (some ⟨b,o,none⟩) cap);rw [hW] at K hS o0 o1 o2 hq H;unfold cG aM at hW;have T:=aa K;have I:Hid (∀ An cn As cs Ai ci,fH d i ⟨false,bG (d.mem i).formula,An,cn,aX (bG (d.mem i).formula),As,cs,(aX (bG (d.mem i).formula)).map (whL d),Ai,ci,[],none,0⟩):=fun _ _ _ _ _ _=>⟨fun h=>absurd h hf,fun _=>⟨rfl,rfl,rfl,rfl,rfl⟩⟩
 have KO:=gO (D i hi);generalize (d.mem i).formula=s at *;have p:=oM s W KO;have a:=fun A c w' hN=>qZ A c (bG s) w' hN
 rw [R,errV_zero] at a;rw [S,errV_zero] at p;obtain ⟨L,hL⟩:=aA (aX (bG s));rw [hL] at KR a I;obtain ⟨l,hl⟩:=aA (bG s);rw [hl] at p a I;generalize (jt s:Int)=at' at p;obtain ⟨n,hn⟩:=aA L.length;have G:=aa hn;obtain ⟨m,hm⟩:=aA l.length;have HMm:=aa hm;have Y:Hid (∀ A c w',ji w' A c l→Calls Tryz.prog 165 #[.slice A m c] w' fun e w''=>(∃ A' J,e=.returned (.tuple #[.slice A' n J,.nilIface])∧jR w'' A' J L)∧Bl w' w''):=fun A c w' h=>by rw [←hn,←hm];exact a A c w' h.1
 rw [hm] at p;rw [hn] at KR;have hnI:(n:Int)≤30:=by omega
 have hdI:(d.n:Int)≤12:=by omega
 clear S R hL hl hn hm a hd KQ D hR hf KJ K KO
 go_enter Tryz.func138,Tryz.ntmps138
 go_wp2_with fail;refine p.mono ?_;rintro e w1 ⟨⟨A1,c1,rfl,N⟩,KL⟩;have a:=Y.out A1 c1 w1 N;have HN1:=aa N;have HB1:=aa KL;clear p N KL o0 o1 o2 hW;go_wp2_with fail;refine a.mono ?_;rintro e w2 ⟨⟨A2,c2,rfl,KK⟩,P⟩;have F:=aa (ae HB1.out P);have Z:=aa KK;have HN2:=aa (HN1.out.later P);clear a P KK;go_wp2_with fail
 go_loopg [10,34] n (fun g s10 s34 wr => ∃ (k:Nat) (v:Value),k≤n∧g=n-k∧s34=.int .i64 k∧v=s10∧wr.ownsRow w2.heap.size 3 1 v k (aF ((L.take k).map (whL d)))∧Bl w2 wr)
 case atStart=>exact ⟨0,_,zU,rfl,rfl,rfl,World.ownsRow_nil _ _ _ _,zS⟩
 case round =>
  obtain ⟨k,v,hk,rfl,rfl,rfl,hO,t⟩:=hrel;have HO:=aa hO;have q:=aa t
  by_cases KP:k<n
  ·have hki:(k:Int)<(n:Int):=by omega
   obtain ⟨hcS,-,hS0 | ⟨bs,os,rfl,hbS,KM⟩⟩:=(Z.out.later t).1
   ·have:=G.out;rw [hS0] at this;simp at this;omega
   have cx:=KM k (by rw [G.out];exact KP)
   rw [G.out] at hcS;have V:Hid ((L.take (k+1)).map (whL d)=(L.take k).map (whL d) ++ [whL d (L.getD k [])]):=Af d L (by rw [G.out];exact KP)
   have O:=ae F.out t;obtain ⟨⟨-,-,p2,hq2⟩,-⟩:=H.out wr O;have KI:=HM.out.later (ae T.out O);obtain ⟨x,hx⟩:=aA ((⟨(L.getD k []).toArray⟩:ByteArray));have HX:Hid (x.data.toList=L.getD k []):=by show _=_;rw [←hx]
   rw [hx] at cx;obtain ⟨y,hy⟩:=aA (wr.alloc (.cells #[.string x] 9));have B:Bl wr y:=by rw [←hy];exact (zS).alloc (zT) _
   have hsy:y.heap.size=wr.heap.size+1:=by rw [←hy];simp
   have KN:y.cell? ⟨wr.heap.size,0,none⟩=some (.string x):=by
    have h:y.heap[wr.heap.size]?=some (.cells #[.string x] 9 (0,0)):=by rw [←hy];exact heap_alloc_new _ _
    rw [Lib.cell_of_heap h]
    rfl
   have py:=aD B hq2 p2;have C:=kw 167 wr.heap.size IR b o d.n cap d.mem (fun j=>same (d.mem j).name x) y hd2 (KI.later B) (fun j w' _ KS=>GP (d.mem j) x wr.heap.size w' (by have:=KS.size;omega) (aD KS (by show wr.heap.size<_;omega) KN))
   rw [lK,HX.out] at C;generalize whL d (L.getD k [])=r at C V;have U:=aa B;generalize d.n=dn at *;clear KM hO t O KI B KN hx hsy;go_wp2_with fail;refine C.mono ?_;rintro e w4 ⟨rfl,Q⟩;have M:Bl w2 w4:=ae q.out (ae U.out Q);have HB4:=aa M;have X:Hid (w4.ownsRow w2.heap.size 3 1 v k (aF ((L.take k).map (whL d)))):=ao (ao HO.out U.out) Q;have hsz:=M.size;clear Q C M hy
   go_wp2_with (at_builtin;refine wpList_append_own _ rfl _ _ 26 rfl w2.heap.size 3 i0 (.int .i64 0) 1 8 Tryz.underlying26 hi0 hz0 hz1 hz2 rfl (by decide) _ _ _ rfl (X.out.alloc _) ⟨w4.heap.size,0,none⟩ 1 1 [.int .i64 r] rfl rfl bw dF (by unfold maxLen;omega) (by omega) (by simp;omega) ?_)
   intro v' w5 z u _;have HB5:Hid (Bl w2 w5):=bB HB4.out X.out u;have HO5:Hid (w5.ownsRow w2.heap.size 3 1 v' (k+1) (aF ((L.take (k+1)).map (whL d)))):=by
    show World.ownsRow ..
    rw [V.out,mapI_snoc,List.map_take];exact z
   clear z u;go_wp2_with fail
   go_roundg (n-(k+1))
   case measure=>omega
   case rel=>exact ⟨k+1,_,by omega,rfl,by go_num,rfl,HO5.out,HB5.out⟩
  have hke:k=n:=by omega
  subst hke;have KH:L.take k=L:=List.take_of_length_le (by rw [G.out];exact zT)
  have HF:Hid (∃ A' J,v=.slice A' k J∧aR wr A' J (L.map (whL d))):=by
   have h:=hO;rw [KH] at h;have E:(L.map (whL d)).length=k:=by rw [List.length_map];exact G.out
   rw [←E] at h;obtain ⟨A',J,e,hv⟩:=bP h;rw [E] at e;exact ⟨A',J,e,hv⟩
  obtain ⟨A3,c3,rfl,KG⟩:=HF.out;have HI3:=aa KG;obtain ⟨-,hr⟩:=H.out wr (ae F.out q.out);obtain ⟨hg,⟨r0,r1,r2,r3,r4⟩,f⟩:=iM hr;have f0:=f 0;have f1:=f 1;have f2:=f 2;have f3:=f 3;have f4:=f 4;have HRr:=aa hr;clear hO t hr f KG KH HO HF;go_wp2_with fail;refine bodyPost_ret (v:=.tuple #[wayV ⟨false,l,A1,c1,L,A2,c2,L.map (whL d),A3,c3,[],none,0⟩,.nilIface]) (by simp [results,Tryz.results138,go_sem,r0,r1,r2,r3,r4,wayV,G.out,HMm.out]) rfl ⟨⟨_,rfl,?_,I.out _ _ _ _ _ _⟩,?_⟩
  ·exact eB.keepW (⟨HN2.out.later q.out,Z.out.later q.out,HI3.out,aR.nil _ _ _ (zU)⟩:eB wr _) (jG HRr.out)
  exact (((((ae T.out (ae F.out q.out)).setCell (by simp) _).setCell (by simp) _).setCell (by simp) _).setCell (by simp) _).setCell (by simp) _
theorem DF (d:Dm) (A:Option Addr) (cap i:Nat) (w:World) (z:(bu d).2=0) (H:i<d.n) (N:eg w A cap d.n d.mem) :
  Calls Tryz.prog 112 #[cM d A cap,.int .i64 i] w fun e w'=>(∃ x,e=.returned (.tuple #[wayV x,.nilIface])∧eB w' x∧fH d i x)∧Bl w w':=by
 obtain ⟨G,-,-,-⟩:=bH z;obtain ⟨-,-,Y,-⟩:=aL G;have c:=iY w d A cap;have X:=gQ w d A cap;obtain ⟨⟨o0,o1,o2,hq⟩,-⟩:=gl (w:=w) (d:=d) (A:=A) (cap:=cap) (zS);have q:Hid (∀ w1,Below (cG w d A cap).heap.size (cG w d A cap) w1→w1.heap[w.heap.size+1]?=some (.cells #[.bool false,.slice none 0 0,.slice none 0 0,.slice none 0 0,.slice none 0 0] 154 (0,0))):=fun w1 h=>(gl h).2
 have k:=N.later c;obtain ⟨P,h0 | ⟨b,o,rfl,l⟩⟩:=N
 ·omega
 obtain ⟨-,-,-,c3⟩:=(l.later c).2 i H;have F:b<(cG w d (some ⟨b,o,none⟩) cap).heap.size:=(l.later c).1;have C:=fun h=>tI d (some ⟨b,o,none⟩) cap i (cG w d (some ⟨b,o,none⟩) cap) z H h k
 have j:=fun h=>qj d (some ⟨b,o,none⟩) cap i (cG w d (some ⟨b,o,none⟩) cap) z H h k
 unfold cM at C j ⊢;obtain ⟨W,O⟩:=aA (cG w d (some ⟨b,o,none⟩) cap);rw [O] at c X o0 o1 o2 hq q c3 F C j;unfold cG aM at O;have u:=aa c;have hii:(i:Int)<(d.n:Int):=by omega
 have Z:(d.n:Int)≤12:=by omega
 by_cases t:(d.mem i).formula.size=0
 ·have r:(d.mem i).formula.toList.isEmpty=true:=by rw [aV];simpa using t
  have g:=C t;have Q:Hid (∀ x,fH d i x→fH d i x):=fun _ h=>h
  generalize (d.mem i).formula=fm at c3 r;clear C j t l k c z G
  go_enter Tryz.func112,Tryz.ntmps112
  go_wp2_with fail;refine g.mono ?_;rintro e w1 ⟨⟨x,rfl,B,y⟩,f⟩;have E:=aa B;have D:=aa y;have m:=aa f;have s:=q.out w1 f;obtain ⟨hg,⟨I,J,K,L,M⟩,a⟩:=iM s;have R:=a 0;have S:=a 1;have T:=a 2;have U:=a 3;have V:=a 4;have p:=aa s;unfold wayV;clear B y f g s a;go_wp2_with fail;refine bodyPost_ret (v:=.tuple #[wayV x,.nilIface]) (by simp [results,Tryz.results112,go_sem,I,J,K,L,M,wayV]) rfl ⟨⟨_,rfl,?_,D.out⟩,?_⟩
  ·exact E.out.keepW (jG p.out)
  exact (((((ae u.out m.out).setCell (by simp) _).setCell (by simp) _).setCell (by simp) _).setCell (by simp) _).setCell (by simp) _
 have r:(d.mem i).formula.toList.isEmpty=false:=by rw [aV];simpa using t
 have g:=j t;generalize (d.mem i).formula=fm at c3 r g;clear C j t l k c z G
 go_enter Tryz.func112,Tryz.ntmps112
 go_wp2_with fail;refine g.mono ?_;rintro e w1 ⟨⟨x,rfl,B,y⟩,f⟩;have E:=aa B;have D:=aa y;have m:=aa f;have s:=q.out w1 f;obtain ⟨hg,⟨I,J,K,L,M⟩,a⟩:=iM s;have R:=a 0;have S:=a 1;have T:=a 2;have U:=a 3;have V:=a 4;have p:=aa s;unfold wayV;clear B y f g s a;go_wp2_with fail;refine bodyPost_ret (v:=.tuple #[wayV x,.nilIface]) (by simp [results,Tryz.results112,go_sem,I,J,K,L,M,wayV]) rfl ⟨⟨_,rfl,?_,D.out⟩,?_⟩
 ·exact E.out.keepW (jG p.out)
 exact (((((ae u.out m.out).setCell (by simp) _).setCell (by simp) _).setCell (by simp) _).setCell (by simp) _).setCell (by simp) _
end Go.Proofs.YtompdcaikmekkaaGreatDoor
