/- The document's own rea -/
import Derived.Deep.CutRange
import Derived.Test.YtohgnbgamfepoaaGreatDoorJHAQ
import Derived.Test.YtohgnbgamfepoaaGreatDoorJHAT
namespace Go.Proofs.YtohgnbgamfepoaaGreatDoor
open ChangeShapes WideShapes ChangeAt RowKit
set_option maxRecDepth 99999
set_option maxHeartbeats 0
theorem Ih (s:ByteArray) (q base a:Nat) (hs:s.size≤100) (ha:a≤s.size) (P:b9 (nextB s a)=true):G2 s q base a:=by
 intro v L w K La O T hLa;have HI:=aa K;have HOw:=aa T;have c0:=K.c0;have c1:=K.c1;have c2:=K.c2;have hq:=K.lt;have i1:=fun w' (F:Bl w w')=>fZ q a s v 48 57 w' (by omega) ha (K.later F)
 have i2:=fun w' (F:Bl w w')=>fZ q a s v 97 122 w' (by omega) ha (K.later F)
 have i3:=fun w' (F:Bl w w')=>fZ q a s v 40 40 w' (by omega) ha (K.later F)
 have e1:(decide (48≤nextB s a) && decide (nextB s a≤57))=b9 (nextB s a):=rfl;have e2:(decide (97≤nextB s a) && decide (nextB s a≤122))=bG (nextB s a):=rfl;rw [e1] at i1;rw [e2] at i2;have hsi:(s.size:Int)≤100:=by omega
 have hai:(a:Int)≤(s.size:Int):=by omega
 clear K T e1 e2;have hle:bG (nextB s a)=false:=by unfold b9 at P;unfold bG;simp at P ⊢;omega
 have h40:nextB s a≠40:=by intro e;rw [e] at P;revert P;decide
 have e3:(decide (40≤nextB s a) && decide (nextB s a≤40))=false:=by simp;omega
 have hlt:a<s.size:=cE (fun e=>by rw [e] at P;revert P;decide) ha
 rw [P] at i1;rw [hle] at i2;rw [e3] at i3;have HD:=aa P;clear P hle h40 e3
 go_enter Tryz.func136,Tryz.ntmps136
 go_wp2_with fail;refine (i1 _ (zS)).mono ?_;rintro e w1 ⟨rfl,hb1⟩;have HB1:=aa hb1;clear hb1;go_wp2_with fail;refine (i2 _ HB1.out).mono ?_;rintro e w2 ⟨rfl,hb2⟩;have HB2:=aa (ae HB1.out hb2);clear hb2;go_wp2_with fail;refine (i3 _ HB2.out).mono ?_;rintro e w3 ⟨rfl,hb3⟩;have G:=aa (ae HB2.out hb3);have X:=aa (HI.out.later G.out);have HO3:=aa (an HOw.out G.out);have HS3:=aa (zV O G.out.size);clear hb3 i1 i2 i3 c0 c1 c2;have d0:=X.out.c0;have d1:=X.out.c1;have hby:=da s a hlt;have hnx:nextB s a=byteN s a:=by rw [nextB,if_neg (by omega)]
 obtain ⟨AL,C,hv⟩:=fO HO3.out;subst hv;go_wp2_with fail
 go_quiet (fail)
 obtain ⟨W3,K4⟩:=az (w3.drewN nq);have N:Bl w3 W3:=by rw [←K4];exact ac (zS) _
 have HIW:=aa (X.out.later N);have HOW:=aa (an HO3.out N);have HKW:Hid (Kept base (fun j=>j=q) w W3):=aw (ae G.out N) O
 rw [K4];obtain ⟨z,hz⟩:=az ((byteN s a == 48));have HZ:Hid ((nextB s a == 48)=z):=by show _=_;rw [hnx];exact hz
 have HZ0:=aa hz;clear K4 N d0 d1 hz
 go_upto_block 0 with fail
 rw [HZ0.out]
 go_cut [8,9] from 12 (fun s8 s9 wx=>s8=.int .i64 (numW (s.extract a (a+digitsN s a)))∧eL wx q s (a+digitsN s a) false (.slice AL L.length C)∧wx.ownsRow base 132 5 (.slice AL L.length C) L.length (aS L)∧Kept base (fun j=>j=q) w wx)
 case first=>as_aux_lemma =>
  go_wp2_with fail
  go_loopg [8,9] 7 (fun g s8 s9 wr => ∃ (k:Nat),k≤7∧g=7-k∧a+k≤s.size∧s8=.int .i64 (numW (s.extract a (a+k)))∧s9=.int .i64 k∧(0≤numW (s.extract a (a+k))∧numW (s.extract a (a+k))+1≤10 ^ k)∧(z=true→k≤1)∧(∀ i,i<k→b9 (nextB s (a+i))=true)∧eL wr q s (a+k) false (.slice AL L.length C)∧wr.ownsRow base 132 5 (.slice AL L.length C) L.length (aS L)∧Kept base (fun j=>j=q) w wr)
  case atStart=>exact ⟨0,by omega,rfl,by omega,by rw [rz],rfl,by rw [rz];decide,fun _=>by omega,fun i hi=>absurd hi (Nat.not_lt_zero i),HIW.out,HOW.out,HKW.out⟩
  case round =>
   obtain ⟨k,hk7,rfl,M,rfl,rfl,hnb,hzk,S,K0,hOr,K3⟩:=hrel;have Y:=aa hnb;have Z:=aa hzk;have U:=aa S;have B:=aa K0;have I:=aa hOr;have H:=aa K3;have K6:base≤wr.heap.size:=zV O K3.size;obtain ⟨nk,K9⟩:=az (numW (s.extract a (a+k)));have o:=aa K9;rw [K9];have A:=fZ q (a+k) s (.slice AL L.length C) 48 57 wr (by omega) M K0
   have e5:(decide (48≤nextB s (a+k)) && decide (nextB s (a+k)≤57))=b9 (nextB s (a+k)):=rfl;rw [e5] at A;clear hnb hzk S K0 hOr K3 K9 e5
   by_cases hk:k<7
   ·have hki:(k:Int)<7:=by omega
    cases hdk:b9 (nextB s (a+k))
    ·have V:=aa hdk
     have n:Hid (digitsN s a=k):=by
      show _=_
      have hk1:1≤k:=by
       apply Nat.pos_of_ne_zero;intro e;subst e;rw [Nat.add_zero] at hdk;rw [HD.out] at hdk;cases hdk
      by_cases f:nextB s a=48
      ·have Lb:z=true:=by rw [←HZ.out];simpa using f
       have:=Z.out Lb;rw [qW f];omega
      exact qV hk1 M U.out f (Or.inr hdk) hk7
     rw [hdk] at A;clear hdk;go_wp2_with fail;refine A.mono ?_;rintro e w4 ⟨rfl,b⟩;have c:=aa b;clear b A;go_wp2_with fail;go_meet;rw [n.out];exact ⟨by rw [o.out],B.out.later c.out,an I.out c.out,H.out.trans (aw c.out K6)⟩
    have V:=aa hdk;have hlk:a+k<s.size:=cE (fun e=>by rw [e] at hdk;revert hdk;decide) M
    rw [hdk] at A;clear hdk
    by_cases hzb:z=true∧0<k
    ·obtain ⟨f,hk0⟩:=hzb
     have hki0:0<(k:Int):=by omega
     have n:Hid (digitsN s a=k):=by
      show _=_
      have:=Z.out f;have h48:nextB s a=48:=by have:=HZ.out;rw [f] at this;simpa using this
      rw [qW h48];omega
     subst f;go_wp2_with fail;refine A.mono ?_;rintro e w4 ⟨rfl,b⟩;have c:=aa b;clear b A;go_wp2_with fail;go_meet;rw [n.out];exact ⟨by rw [o.out],B.out.later c.out,an I.out c.out,H.out.trans (aw c.out K6)⟩
    have J:Hid (z=true→k+1≤1):=fun e=>by
     have : ¬ 0<k:=fun h=>hzb ⟨e,h⟩
     omega
    obtain ⟨p,hp⟩:=az (a+k);have HP:=aa hp;have hlp:p<s.size:=by omega
    have hlpi:(p:Int)<(s.size:Int):=by omega
    have hby2:=da s p hlp;have HNx:Hid (nextB s (a+k)=byteN s p):=by show _=_;rw [nextB,if_neg (by omega),hp]
    have hdr:48≤byteN s p∧byteN s p≤57:=by have h:=V.out;rw [HNx.out] at h;unfold b9 at h;simpa using h
    obtain ⟨ch,K7⟩:=az (byteN s p);have HCh:=aa K7;rw [K7] at hby2 hdr;obtain ⟨d1,d2⟩:=hdr;have h10:(10:Int) ^ k≤1000000:=DQ k hk;have n0:0≤nk:=by have:=Y.out.1;rw [o.out] at this;exact this
    have n1:nk+1≤1000000:=by have:=Y.out.2;rw [o.out] at this;omega
    have r:Hid (numW (s.extract a (a+(k+1)))=nk*10+ch-48):=by show _=_;rw [CG hlk,o.out,HNx.out,HCh.out];omega
    have d:Hid (eL wr q s p false (.slice AL L.length C)):=by show eL _ _ _ _ _ _;rw [←hp];exact B.out
    have hzf:z=true→(k:Int)=0:=fun e=>by have:=J.out e;omega
    clear K7;have hqr:=B.out.lt;have HIn:Hid (numW (s.extract a (a+(k+1)))+1≤10 ^ (k+1)∧0≤numW (s.extract a (a+(k+1)))):=by
     have h1:=r.out;have h2:=Y.out.2;rw [o.out] at h2;have h3:(10:Int) ^ (k+1)=10 ^ k*10:=Int.pow_succ ..
     show _∧_
     rw [h1,h3]
     omega
    have fin:∀ (w5:World),Bl wr w5→eL (w5.setCell ⟨q,1,none⟩ (.int .i64 ((p:Int)+1))) q s (a+(k+1)) false (.slice AL L.length C)∧(w5.setCell ⟨q,1,none⟩ (.int .i64 ((p:Int)+1))).ownsRow base 132 5 (.slice AL L.length C) L.length (aS L)∧Kept base (fun j=>j=q) w (w5.setCell ⟨q,1,none⟩ (.int .i64 ((p:Int)+1))):=fun w5 K5=>by
     refine ⟨?_,gh (an I.out K5) La,(H.out.trans (aw K5 K6)).trans ff⟩;rw [show a+(k+1)=p+1 by omega]
     exact (d.out.later K5).set1 (p+1)
    have R:=aa fin;have Q:Hid (∀ i,i<k+1→b9 (nextB s (a+i))=true):=fun i hi=>by
     by_cases e:i=k
     ·rw [e];exact V.out
     exact U.out i (by omega)
    clear fin;cases hzc:z
    ·have HZc:=aa hzc
     subst hzc;go_wp2_with fail;refine A.mono ?_;rintro e w4 ⟨rfl,b⟩;have c:=aa b;have d0:=(d.out.later b).c0;have u9:=(d.out.later b).c1;clear b A;go_wp2_with fail
     go_quiet (fail)
     obtain ⟨W5,u⟩:=az (w4.drewN nq);have l:Hid (Bl wr W5):=by show Below _ _ _;rw [←u];exact ac c.out _
     rw [u];have d3:=(d.out.later l.out).c1;have d4:=(d.out.later l.out).fr 1;have d5:=(d.out.later l.out).lt;clear u d0 u9;go_wp2_with fail
     go_roundg (7-(k+1))
     case measure=>omega
     case rel =>
      obtain ⟨x1,x2,x3⟩:=R.out _ l.out;exact ⟨k+1,by omega,rfl,by omega,by rw [r.out],by go_num,HIn.out.symm,J.out,Q.out,x1,x2,x3⟩
    have hk0:k=0:=by have:=J.out hzc;omega
    have hk0i:decide (0<(k:Int))=false:=by rw [hk0];rfl
    subst hzc;go_wp2_with fail;refine A.mono ?_;rintro e w4 ⟨rfl,b⟩;have c:=aa b;have d0:=(d.out.later b).c0;have u9:=(d.out.later b).c1;clear b A;go_wp2_with fail
    go_quiet (fail)
    obtain ⟨W5,u⟩:=az (w4.drewN nq);have l:Hid (Bl wr W5):=by show Below _ _ _;rw [←u];exact ac c.out _
    rw [u];have d3:=(d.out.later l.out).c1;have d4:=(d.out.later l.out).fr 1;have d5:=(d.out.later l.out).lt;clear u d0 u9;go_wp2_with fail
    go_roundg (7-(k+1))
    case measure=>omega
    case rel =>
     obtain ⟨x1,x2,x3⟩:=R.out _ l.out;exact ⟨k+1,by omega,rfl,by omega,by rw [r.out],by go_num,HIn.out.symm,J.out,Q.out,x1,x2,x3⟩
   have hk7':k=7:=by omega
   subst hk7';have n:Hid (digitsN s a=7):=by
    show _=_
    by_cases f:nextB s a=48
    ·have Lb:z=true:=by rw [←HZ.out];simpa using f
     have:=Z.out Lb
     omega
    exact qV (by omega) M U.out f (Or.inl rfl) hk7
   clear A;go_wp2_with fail;go_meet;rw [n.out];exact ⟨by rw [o.out],B.out,I.out,H.out⟩
 case rest =>
  obtain ⟨rfl,t,D,K2⟩:=hcut;obtain ⟨w4,rfl⟩:∃ wx:World,wx=wc:=⟨_,rfl⟩;obtain ⟨i1,hj0,hj1,hj2,hj3⟩:=info_parts Tryz.infoNdF;have HR:=aa (Iv ha HD.out);have K8:opndN (s.extract a (a+digitsN s a))=⟨1,numW (s.extract a (a+digitsN s a)),⟨#[]⟩,0,0⟩:=by
   have h1:=gJ hlt (kY ha HD.out).1;have h2:=HD.out;unfold b9 at h2;unfold opndN;rw [h1,if_neg (by simp at h2;omega)]
  obtain ⟨m,hm⟩:=az L.length;obtain ⟨nn,hnn⟩:=az (numW (s.extract a (a+digitsN s a)));have HM:=aa hm;have hm1:(m:Int)≤100:=by omega
  rw [hm] at t D;rw [hnn] at K8 ⊢;have b:base≤w4.heap.size:=zV O K2.size;have HSt:Hid (∀ (W w6:World) (v':Value),Bl w4 W→W.grownBy w6 (Value.slice AL m C).ownBlock→w6.ownsRow base 132 5 v' (m+1) (aS L ++ de ⟨1,nn,⟨#[]⟩,0,0⟩)→tE s q base 3 a L w (.returned (.int .i64 (m:Int))) (w6.setCell ⟨q,3,none⟩ v')∧(w6.cell? ⟨q,3,none⟩=some (.slice AL m C)∧w6.frozen? ⟨q,3,none⟩=false)∧q<w6.heap.size):=by
   intro W w6 v' F hg ho;have h:=si t D La F hg;exact ⟨vh HM.out HR.out K2 t D La b F hg (by rw [K8];exact ho),⟨h.c3,h.fr 3⟩,h.lt⟩
  have HO1:Hid (∀ w',Bl w4 w'→w'.ownsRow base 132 5 (.slice AL m C) m (aS L)):=fun w' F=>an D F
  have d3:=t.c3;have d4:=t.fr 3;have d5:=t.lt;clear t D K2 K8 hnn hm
  go_wp2_with (at_builtin;refine wpList_append_own_at _ rfl _ _ 117 rfl base 132 i1 _ 5 48 Tryz.underlying117 hj0 hj1 hj2 hj3 rfl (by decide) _ m (aS L) rfl (HO1.out _ ?qc0) ⟨w4.heap.size,0,none⟩ 1 1 (de ⟨1,nn,⟨#[]⟩,0,0⟩) rfl rfl ?qc1 FS ?qc2 ?qc3 ?qc4 ?_)
  case qc0=>exact (zS).alloc (zT) _
  case qc1=>exact I0 (w:=w4) (x:=⟨1,nn,⟨#[]⟩,0,0⟩) (by simp)
  case qc2=>unfold maxLen;omega
  case qc3=>omega
  case qc4=>simp;omega
  intro v' w6 y E _ _;obtain ⟨HS,⟨y1,y2⟩,y3⟩:=HSt.out _ _ _ ((zS).alloc (zT) _) E y;obtain ⟨A6,c6,hv'⟩:=fO y;subst hv';have HSo:=aa HS;clear y E HS;go_wp2_with fail;go_ret;exact HSo.out
theorem Ii (s:ByteArray) (q base a:Nat) (hs:s.size≤100) (M:a≤s.size) (d:bG (nextB s a)=true):G2 s q base a:=by
 intro v L w z J A C hLa;have HI:=aa z;have HOw:=aa C;have c0:=z.c0;have c1:=z.c1;have c2:=z.c2;have hq:=z.lt;have O:=fun w' (u:Bl w w')=>fZ q a s v 48 57 w' (by omega) M (z.later u)
 have i2:=fun w' (u:Bl w w')=>fZ q a s v 97 122 w' (by omega) M (z.later u)
 have i3:=fun w' (u:Bl w w')=>fZ q a s v 40 40 w' (by omega) M (z.later u)
 have e1:(decide (48≤nextB s a) && decide (nextB s a≤57))=b9 (nextB s a):=rfl;have e2:(decide (97≤nextB s a) && decide (nextB s a≤122))=bG (nextB s a):=rfl;rw [e1] at O;rw [e2] at i2;have hsi:(s.size:Int)≤100:=by omega
 have hai:(a:Int)≤(s.size:Int):=by omega
 clear z C e1 e2;have hd:b9 (nextB s a)=false:=by unfold bG at d;unfold b9;simp at d ⊢;omega
 have h40:nextB s a≠40:=by intro e;rw [e] at d;revert d;decide
 have e3:(decide (40≤nextB s a) && decide (nextB s a≤40))=false:=by simp;omega
 have hlt:a<s.size:=cE (fun e=>by rw [e] at d;revert d;decide) M
 rw [hd] at O;rw [d] at i2;rw [e3] at i3;have HD:=aa d;clear hd d h40 e3
 go_enter Tryz.func136,Tryz.ntmps136
 go_wp2_with fail;refine (O _ (zS)).mono ?_;rintro e w1 ⟨rfl,K2⟩;have R:=aa K2;clear K2;go_wp2_with fail;refine (i2 _ R.out).mono ?_;rintro e w2 ⟨rfl,K3⟩;have S:=aa (ae R.out K3);clear K3;go_wp2_with fail;refine (i3 _ S.out).mono ?_;rintro e w3 ⟨rfl,K4⟩;have x:=aa (ae S.out K4);have HI3:=aa (HI.out.later x.out);have Y:=aa (an HOw.out x.out);have HS3:=aa (zV A x.out.size);clear K4 O i2 i3 c0 c1 c2;obtain ⟨AL,f,hv⟩:=fO Y.out;subst hv;have HKW:Hid (Kept base (fun j=>j=q) w w3):=aw x.out A
 go_upto_block 2 with fail
 go_cut [] from 12 (fun wx=>eL wx q s (a+leadN bG (s.extract a s.size)) false (.slice AL L.length f)∧wx.ownsRow base 132 5 (.slice AL L.length f) L.length (aS L)∧Kept base (fun j=>j=q) w wx)
 case first=>as_aux_lemma =>
  go_wp2_with fail
  go_loopg [] s.size (fun g wr => ∃ (k:Nat),g=s.size-k∧a+k≤s.size∧(∀ i,i<k→bG (nextB s (a+i))=true)∧eL wr q s (a+k) false (.slice AL L.length f)∧wr.ownsRow base 132 5 (.slice AL L.length f) L.length (aS L)∧Kept base (fun j=>j=q) w wr)
  case atStart=>exact ⟨0,rfl,by omega,fun i hi=>absurd hi (Nat.not_lt_zero i),HI3.out,Y.out,HKW.out⟩
  case round =>
   obtain ⟨k,rfl,G,B,D,K0,F⟩:=hrel;have P:=aa B;have V:=aa D;have Z:=aa K0;have X:=aa F;have K5:base≤wr.heap.size:=zV A F.size;have K:=fZ q (a+k) s (.slice AL L.length f) 97 122 wr (by omega) G D
   have e5:(decide (97≤nextB s (a+k)) && decide (nextB s (a+k)≤122))=bG (nextB s (a+k)):=rfl;rw [e5] at K;clear B D K0 F e5;cases hdk:bG (nextB s (a+k))
   ·have T:Hid (leadN bG (s.extract a s.size)=k):=Cv G P.out hdk
    rw [hdk] at K;clear hdk;go_wp2_with fail;refine K.mono ?_;rintro e w4 ⟨rfl,c⟩;have l:=aa c;clear c K;go_wp2_with fail;go_meet;rw [T.out];exact ⟨V.out.later l.out,an Z.out l.out,X.out.trans (aw l.out K5)⟩
   have HDk:=aa hdk;have hlk:a+k<s.size:=cE (fun e=>by rw [e] at hdk;revert hdk;decide) G
   rw [hdk] at K;clear hdk;obtain ⟨p,N⟩:=az (a+k);have HP:=aa N;have hlpi:(p:Int)<(s.size:Int):=by omega
   have y:Hid (eL wr q s p false (.slice AL L.length f)):=by show eL _ _ _ _ _ _;rw [←N];exact V.out
   have u9:∀ (w5:World),Bl wr w5→eL (w5.setCell ⟨q,1,none⟩ (.int .i64 ((p:Int)+1))) q s (a+(k+1)) false (.slice AL L.length f)∧(w5.setCell ⟨q,1,none⟩ (.int .i64 ((p:Int)+1))).ownsRow base 132 5 (.slice AL L.length f) L.length (aS L)∧Kept base (fun j=>j=q) w (w5.setCell ⟨q,1,none⟩ (.int .i64 ((p:Int)+1))):=fun w5 H=>by
    refine ⟨?_,gh (an Z.out H) J,(X.out.trans (aw H K5)).trans ff⟩;rw [show a+(k+1)=p+1 by omega]
    exact (y.out.later H).set1 (p+1)
   have U:=aa u9;have Q:Hid (∀ i,i<k+1→bG (nextB s (a+i))=true):=fun i hi=>by
    by_cases e:i=k
    ·rw [e];exact HDk.out
    exact P.out i (by omega)
   clear u9;go_wp2_with fail;refine K.mono ?_;rintro e w4 ⟨rfl,c⟩;have l:=aa c;have d3:=(y.out.later c).c1;have d4:=(y.out.later c).fr 1;have d5:=(y.out.later c).lt;clear c K;go_wp2_with fail
   go_roundg (s.size-(k+1))
   case measure=>omega
   case rel =>
    obtain ⟨x1,x2,x3⟩:=U.out _ l.out;exact ⟨k+1,rfl,by omega,Q.out,x1,x2,x3⟩
 case rest =>
  obtain ⟨b,n,E⟩:=hcut;obtain ⟨w4,rfl⟩:∃ wx:World,wx=wc:=⟨_,rfl⟩;obtain ⟨O,hj0,hj1,hj2,hj3⟩:=info_parts Tryz.infoNdF;have HR:=aa (Iw M HD.out);obtain ⟨K6,hn2⟩:=lk M HD.out;have I:opndN (s.extract a (a+leadN bG (s.extract a s.size)))=⟨2,0,s.extract a (a+leadN bG (s.extract a s.size)),0,0⟩:=by
   have h1:=gJ hlt K6;have h2:=HD.out;unfold bG at h2;unfold opndN;rw [h1,if_pos (by simpa using h2)]
  obtain ⟨m,hm⟩:=az L.length;obtain ⟨p,N⟩:=az (a+leadN bG (s.extract a s.size));have HM:=aa hm;have hm1:(m:Int)≤100:=by omega
  rw [hm] at b n;rw [N] at b I;have hpi:(p:Int)≤(s.size:Int):=by omega
  have hapi:(a:Int)≤(p:Int):=by omega
  have HRp:Hid (r9 s 3 a p (lj (s.extract a p))):=by show r9 _ _ _ _ _;rw [←N];exact HR.out
  have c:base≤w4.heap.size:=zV A E.size;have HSt:Hid (∀ (W w6:World) (v':Value),Bl w4 W→W.grownBy w6 (Value.slice AL m f).ownBlock→w6.ownsRow base 132 5 v' (m+1) (aS L ++ de ⟨2,0,s.extract a p,0,0⟩)→tE s q base 3 a L w (.returned (.int .i64 (m:Int))) (w6.setCell ⟨q,3,none⟩ v')∧(w6.cell? ⟨q,3,none⟩=some (.slice AL m f)∧w6.frozen? ⟨q,3,none⟩=false)∧q<w6.heap.size):=by
   intro W w6 v' u hg ho;have h:=si b n J u hg;exact ⟨vh HM.out HRp.out E b n J c u hg (by rw [I];exact ho),⟨h.c3,h.fr 3⟩,h.lt⟩
  have HO1:Hid (∀ w',Bl w4 w'→w'.ownsRow base 132 5 (.slice AL m f) m (aS L)):=fun w' u=>an n u
  have d0:=b.c0;have d1:=b.c1;have d3:=b.c3;have d4:=b.fr 3;have d5:=b.lt;clear b n E I hm N K6 hn2 HR;go_wp2_with fail
  go_region_law (refine step_append_lies _ (by rfl) _ _ _ (by rfl) base 132 O _ 5 48 Tryz.underlying117 hj0 hj1 hj2 hj3 rfl (by omega) (.slice AL m f) m (aS L) (by rfl) (HO1.out _ (by go_grown)) ⟨w4.heap.size,0,none⟩ 1 1 (de ⟨2,0,s.extract a p,0,0⟩) (by rfl) (by rfl) (World.news_of_block (cs := #[.int .i64 2,.int .i64 0,.string (s.extract a p),.int .i64 0,.int .i64 0]) (t:=132) (fr:=(0,0)) (I3 w4 _)) FS (by omega) (by unfold maxLen;omega) (by omega) (by simp;omega) (w4.heap.size+1) (by simp) ?_;intro gg cg w6 r o hat hlt6;obtain ⟨HS,⟨y1,y2⟩,y3⟩:=HSt.out _ _ _ (by go_grown) o r;have HSo:=aa HS;clear HS r o hat)
  all_goals (go_wp2_with fail;go_ret;exact HSo.out)
theorem FR (s:ByteArray) (q base a:Nat) (hs:s.size≤100) (C:a≤s.size) (ih:∀ a1,a<a1→a1≤s.size→od s q base 1 a1):G2 s q base a:=by
 intro v L w I h l K Y;have HI:=aa I;have H:=aa K;have HIH:=aa ih;have c0:=I.c0;have c1:=I.c1;have c2:=I.c2;have hq:=I.lt;have Q:=fun w' (hb:Bl w w')=>fZ q a s v 48 57 w' (by omega) C (I.later hb)
 have R:=fun w' (hb:Bl w w')=>fZ q a s v 97 122 w' (by omega) C (I.later hb)
 have S:=fun w' (hb:Bl w w')=>fZ q a s v 40 40 w' (by omega) C (I.later hb)
 have e1:(decide (48≤nextB s a) && decide (nextB s a≤57))=b9 (nextB s a):=rfl;have e2:(decide (97≤nextB s a) && decide (nextB s a≤122))=bG (nextB s a):=rfl;rw [e1] at Q;rw [e2] at R;have hsi:(s.size:Int)≤100:=by omega
 have hai:(a:Int)≤(s.size:Int):=by omega
 clear I K ih e1 e2;cases hd:b9 (nextB s a)
 case true=>exact Ih s q base a hs C hd v L w HI.out h l H.out Y
 cases hle:bG (nextB s a)
 case true=>exact Ii s q base a hs C hle v L w HI.out h l H.out Y
 rw [hd] at Q;rw [hle] at R
 by_cases n:nextB s a=40
 ·have T:(decide (40≤nextB s a) && decide (nextB s a≤40))=true:=by rw [n];rfl
  rw [T] at S;have hlt:a<s.size:=cE (by rw [n];decide) C
  have M:=aa n;clear hd hle n T
  go_enter Tryz.func136,Tryz.ntmps136
  go_wp2_with fail;refine (Q _ (zS)).mono ?_;rintro e w1 ⟨rfl,z⟩;have r:=aa z;clear z;go_wp2_with fail;refine (R _ r.out).mono ?_;rintro e w2 ⟨rfl,A⟩;have u:=aa (ae r.out A);clear A;go_wp2_with fail;refine (S _ u.out).mono ?_;rintro e w3 ⟨rfl,B⟩;have d:=aa (ae u.out B);have g:=aa (HI.out.later d.out);have HO3:=aa (an H.out d.out);have HS3:=aa (zV l d.out.size);have d1:=g.out.c1;have g1:=g.out.fr 1;have hq3:=g.out.lt;obtain ⟨V3,p⟩:=az (w3.setCell ⟨q,1,none⟩ (.int .i64 ((a:Int)+1)));have V:eL V3 q s (a+1) false v:=by rw [←p];exact g.out.set1 (a+1)
  have Z:V3.ownsRow base 132 5 v L.length (aS L):=by rw [←p];exact gh HO3.out h
  have W:Kept base (fun j=>j=q) w V3:=by rw [←p];exact (aw d.out l).trans ff
  have P:=HIH.out (a+1) (by omega) (by omega) v L V3 V h (by rw [←p];simpa using HS3.out) Z (by omega)
  have F:=aa W;clear B Q R S c0 c1 c2 V Z W;go_wp2_with fail;refine P.mono ?_;rintro e w4 ⟨o,⟨a1,t,v1,rfl,hR,hN,k,y,X⟩ | ⟨i,a1,v1,L1,rfl,hF,k,y⟩⟩
  ·have E:=aa (F.out.trans o)
   have HR:=aa hR;have HNs:=aa hN;have D:=aa k;have G:=aa y;have HL4:=aa X;have m:base≤w4.heap.size:=zV l (zV F.out.size o.size);have J:=fZ q a1 s v1 41 41 w4 (by omega) hR.2.1 k
   have hp:=lL t;obtain ⟨ix,O⟩:=az (L.length+sizT t-1);have HIx:=aa O;rw [O];have ha1:(a1:Int)≤100:=by have:=hR.2.1;omega
   clear o hR hN k y X O p P d1 g1
   by_cases x:nextB s a1=41
   ·have U:(decide (41≤nextB s a1) && decide (nextB s a1≤41))=true:=by rw [x];rfl
    rw [U] at J;have N:=aa x;clear x U;go_wp2_with fail;refine J.mono ?_;rintro e w5 ⟨rfl,c⟩;have f:=aa c;have b:=aa (D.out.later c);have f1:=b.out.c1;have k1:=b.out.fr 1;clear c J;go_wp2_with fail;go_ret;refine ⟨(E.out.trans (aw f.out m)).trans ff,Or.inl ⟨a1+1,t,v1,by rw [HIx.out];rfl,Iu C M.out HR.out N.out,I1 _ _,?_,gh (an G.out f.out) h,by have:=HL4.out;omega⟩⟩
    exact b.out.set1 (a1+1)
   have U:(decide (41≤nextB s a1) && decide (nextB s a1≤41))=false:=by simp;omega
   rw [U] at J;have N:=aa x;clear x U;go_wp2_with fail;refine J.mono ?_;rintro e w5 ⟨rfl,c⟩;have f:=aa c;have b:=aa (D.out.later c);have f1:=b.out.c2;have k1:=b.out.fr 2;clear c J;go_wp2_with fail;go_ret;exact ⟨(E.out.trans (aw f.out m)).trans ff,Or.inr ⟨0,a1,v1,_,rfl,E4 C M.out HR.out HNs.out N.out,b.out.set2 true,gh (an G.out f.out) h⟩⟩
  have E:=aa (F.out.trans o);have HF:=aa hF;have D:=aa k;have G:=aa y;have m:base≤w4.heap.size:=zV l (zV F.out.size o.size);have J:=Jf q a1 s v1 41 41 w4 k;clear o hF k y p P d1 g1;go_wp2_with fail;refine J.mono ?_;rintro e w5 ⟨rfl,c⟩;have f:=aa c;have b:=aa (D.out.later c);have f1:=b.out.c2;have k1:=b.out.fr 2;clear c J;go_wp2_with fail;go_ret;exact ⟨(E.out.trans (aw f.out m)).trans ff,Or.inr ⟨0,a1,v1,L1,rfl,E3 C M.out HF.out,b.out.set2 true,gh (an G.out f.out) h⟩⟩
 have T:(decide (40≤nextB s a) && decide (nextB s a≤40))=false:=by simp;omega
 rw [T] at S;have HF:Hid (Ea s a a):=E2 C n hd hle;clear hd hle n T
 go_enter Tryz.func136,Tryz.ntmps136
 go_wp2_with fail;refine (Q _ (zS)).mono ?_;rintro e w1 ⟨rfl,z⟩;have r:=aa z;clear z;go_wp2_with fail;refine (R _ r.out).mono ?_;rintro e w2 ⟨rfl,A⟩;have u:=aa (ae r.out A);clear A;go_wp2_with fail;refine (S _ u.out).mono ?_;rintro e w3 ⟨rfl,B⟩;have d:=aa (ae u.out B);have g:=aa (HI.out.later d.out);have d2:=g.out.c2;have g2:=g.out.fr 2;clear B Q R S c0 c1 c2;go_wp2_with fail;go_ret;refine ⟨(aw d.out l).trans ff,Or.inr ⟨0,a,v,L,rfl,HF.out,g.out.set2 true,gh (an H.out d.out) h⟩⟩
theorem DM (s:ByteArray) (q base a:Nat) (h:G2 s q base a):od s q base 3 a:=by
 intro v L w n m k b j;have l:=h v L w n m k b j
 show Calls Tryz.prog 103 #[.pointer (some ⟨q,0,none⟩),.int .i64 3] w _
 clear n b h
 go_enter Tryz.func103,Tryz.ntmps103
 go_wp2_with fail;refine l.mono ?_;rintro e w1 ⟨d,⟨a1,t,v1,rfl,c⟩ | ⟨i,a1,v1,L1,rfl,c⟩⟩
 ·have f:=aa c
  have g:=aa d;clear c d l;go_wp2_with fail;go_ret;exact ⟨g.out,Or.inl ⟨a1,t,v1,rfl,f.out⟩⟩
 have f:=aa c;have g:=aa d;clear c d l;go_wp2_with fail;go_ret;exact ⟨g.out,Or.inr ⟨i,a1,v1,L1,rfl,f.out⟩⟩
def Ik (c:Int):Int:=if signI c<0 then 0 else 3+signI c
theorem FT {c:Int} (a:c≠43) (b:c≠45) (d:c≠42) (e:c≠47):Ik c=0:=by
 unfold Ik signI;rw [if_neg a,if_neg b,if_neg d,if_neg e]
 rfl
theorem FU {c:Int} (h:Ik c≠0) : ¬ signI c<0∧Ik c=3+signI c:=by
 unfold Ik at *
 by_cases e:signI c<0
 ·rw [if_pos e] at h;exact absurd rfl h
 rw [if_neg e];exact ⟨e,rfl⟩
theorem FV {c:Int} (h:Ik c=0):signI c<0:=by
 by_cases e:signI c<0
 ·exact e
 unfold Ik at h;rw [if_neg e] at h
 rcases sgn_four e with ⟨-,a⟩ | ⟨-,a⟩ | ⟨-,a⟩ | ⟨-,a⟩ <;> rw [a] at h <;> omega
theorem FJ (s:ByteArray) (k:Nat):qo s k s.size:=fun h=>absurd h (Nat.lt_irrefl _)
theorem CE {s:ByteArray} {k a:Nat} (h:qo s (k+1) a) (c:bindN (3+signI (nextB s a))≠(k:Int)):qo s k a:=fun b=>by
 rcases h b with h | h
 ·exact Or.inl h
 right;omega
theorem vW (s:ByteArray) (q base a k:Nat) (hs:s.size≤100) (hk1:1≤k) (hk2:k≤2) (h0:od s q base (k+1) a) (ih:∀ a1,a<a1→a1≤s.size→od s q base (k+1) a1):od s q base k a:=by
 intro v L w hI N K z hLa;have HIH:=aa ih;have hc:Calls Tryz.prog 103 #[.pointer (some ⟨q,0,none⟩),.int .i64 ((k:Int)+1)] w fun e w'=>tE s q base (k+1) a L w e w':=h0 v L w hI N K z hLa
 have hki:1≤(k:Int):=by omega
 have hki2:(k:Int)≤2:=by omega
 have hk3:((k:Int) == 3)=false:=by simp;omega
 have hsi:(s.size:Int)≤100:=by omega
 clear hI z h0 ih
 go_enter Tryz.func103,Tryz.ntmps103
 go_wp2_with fail;refine hc.mono ?_;rintro e w1 ho;obtain ⟨ix,he⟩:∃ ix:Int,e=.returned (.int .i64 ix):=by
  rcases ho with ⟨-,⟨a1,t,v1,rfl,-⟩ | ⟨i,a1,v1,L1,rfl,-⟩⟩
  ·exact ⟨_,rfl⟩
  exact ⟨_,rfl⟩
 subst he;have HO:=aa ho;clear ho hc;go_wp2_with fail
 go_loopg [5] s.size (fun g s5 wr=>Kept base (fun j=>j=q) w wr∧((∃ (a1:Nat) (t:Tre) (v1:Value),s.size-a1≤g∧s5=.int .i64 ((L.length+sizT t-1:Nat):Int)∧r9 s k a a1 t∧qo s (k+1) a1∧eL wr q s a1 false v1∧wr.ownsRow base 132 5 v1 (L ++ post t L.length).length (aS (L ++ post t L.length))∧a+sizT t≤a1)∨(∃ (i:Int) (a1:Nat) (v1:Value) (L1:List Nd),s5=.int .i64 i∧Ea s a a1∧eL wr q s a1 true v1∧wr.ownsRow base 132 5 v1 L1.length (aS L1))))
 case atStart =>
  obtain ⟨hK,⟨a1,t,v1,he,hR,hN,K4,K6,D⟩ | ⟨i,a1,v1,L1,he,hF,K4,K6⟩⟩:=HO.out
  ·simp only [Ending.returned.injEq] at he
   exact ⟨hK,Or.inl ⟨a1,t,v1,by omega,he,Jw hk1 hk2 hR,hN,K4,K6,D⟩⟩
  simp only [Ending.returned.injEq] at he;exact ⟨hK,Or.inr ⟨i,a1,v1,L1,he,hF,K4,K6⟩⟩
 case round =>
  obtain ⟨C,⟨a1,t,v1,hgm,rfl,hR,hN,b,H,hLr⟩ | ⟨i,a1,v1,L1,rfl,hF,b,H⟩⟩:=hrel
  ·have A:=aa C
   have HR:=aa hR;have HN:=aa hN;have d:=aa b;have B:=aa H;have F:=aa hLr;have r:base≤wr.heap.size:=zV K C.size;have d0:=b.c0;have d1:=b.c1;have d2:=b.c2;have d5:=b.lt;have ha1:a<a1:=hR.1;have ha2:a1≤s.size:=hR.2.1;have hp:=lL t;obtain ⟨iy,hiy⟩:=az (L.length+sizT t-1);have Q:=aa hiy;rw [hiy];clear C hR hN b H hLr hiy HO
   by_cases Y:a1=s.size
   ·have hei:(a1:Int)=(s.size:Int):=by omega
    have hdl:decide ((a1:Int)<(s.size:Int))=false:=decide_eq_false (by omega)
    go_wp2_with fail
    go_quiet (fail)
    go_wp2_with fail;go_ret;exact ⟨A.out.trans (aw (ac (zS) _) r),Or.inl ⟨a1,t,v1,by rw [Q.out];rfl,HR.out,by rw [Y];exact FJ s k,d.out.later (ac (zS) _),an B.out (ac (zS) _),F.out⟩⟩
   have hlt:a1<s.size:=by omega
   have hlti:(a1:Int)<(s.size:Int):=by omega
   have hby:=da s a1 hlt;have HNx:Hid (nextB s a1=byteN s a1):=by show _=_;rw [nextB,if_neg (by omega)]
   obtain ⟨G,La⟩:=az (byteN s a1);have HCh:=aa La;rw [La] at hby;clear La Y;go_wp2_with fail
   go_quiet (fail)
   obtain ⟨W1,K8⟩:=az (wr.drewN nq);have O:Hid (Bl wr W1):=by show Below _ _ _;rw [←K8];exact ac (zS) _
   rw [K8];have f0:=(d.out.later O.out).c0;have f1:=(d.out.later O.out).c1;have f5:=(d.out.later O.out).lt;clear K8 d0 d1 d2;go_wp2_with fail
   go_quiet (fail)
   obtain ⟨W2,K9⟩:=az (W1.drewN nq);have n:Hid (Bl wr W2):=by show Below _ _ _;rw [←K9];exact ac O.out _
   rw [K9];have hbs:base≤W2.heap.size:=zV r n.out.size;have g1:=(d.out.later n.out).c1;have g3:=(d.out.later n.out).fr 1;have g5:=(d.out.later n.out).lt;clear K9 f0 f1 f5
   go_upto_block 2 with fail
   go_cut [6] from 33 to 91 (fun s6 wx=>s6=.int .i64 (Ik G)∧wx=W2)
   case first =>
    by_cases e1:G=43
    ·subst e1
     go_wp2_with fail;go_meet;exact ⟨rfl,rfl⟩
    by_cases e2:G=45
    ·subst e2
     go_wp2_with fail;go_meet;exact ⟨rfl,rfl⟩
    by_cases e3:G=42
    ·subst e3
     go_wp2_with fail;go_meet;exact ⟨rfl,rfl⟩
    by_cases e4:G=47
    ·subst e4
     go_wp2_with fail;go_meet;exact ⟨rfl,rfl⟩
    have HE:=aa (FT e1 e2 e3 e4);have b1:(G == 43)=false:=by simpa using e1
    have b2:(G == 45)=false:=by simpa using e2
    have b3:(G == 42)=false:=by simpa using e3
    have b4:(G == 47)=false:=by simpa using e4
    clear e1 e2 e3 e4;go_wp2_with fail;go_meet;exact ⟨by rw [HE.out],rfl⟩
   case rest =>
    obtain ⟨rfl,hwc⟩:=hcut;rw [hwc];obtain ⟨o,ho⟩:=az (Ik G);have K2:=aa ho;rw [ho];clear ho
    by_cases U:o=0
    ·subst U
     have u9:Hid (qo s k a1):=fun _=>Or.inl (by rw [HNx.out,HCh.out];exact FV K2.out)
     go_wp2_with fail;go_ret;exact ⟨A.out.trans (aw n.out r),Or.inl ⟨a1,t,v1,by rw [Q.out];rfl,HR.out,u9.out,d.out.later n.out,an B.out n.out,F.out⟩⟩
    have ho0b:(o == 0)=false:=by simpa using U
    have K3:Hid (0≤signI (nextB s a1)∧o=3+signI (nextB s a1)):=by
     have h:=FU (c:=G) (by rw [K2.out];exact U)
     rw [K2.out] at h
     show _∧_
     rw [HNx.out,HCh.out];exact ⟨Int.not_lt.1 h.1,h.2⟩
    have V:=Gd o W2;clear U
    by_cases E:bindN o=(k:Int)
    ·have hbkb:(bindN o != (k:Int))=false:=by simp [E]
     have HBk:=aa E;obtain ⟨L1,D⟩:=az (L ++ post t L.length);have hl1:L1.length=L.length+sizT t:=by rw [←D,List.length_append,iK]
     have HL1:=aa D;have HLl:=aa hl1;have X:wr.ownsRow base 132 5 v1 L1.length (aS L1):=by rw [←D];exact B.out
     have HO1:=aa X;have hsz:L1.length≤a1:=by have:=F.out;omega
     clear E D hl1 X;go_wp2_with fail;refine V.mono ?_;rintro e w4 ⟨rfl,J⟩;have p:=aa (ae n.out J);have P:=aa (d.out.later p.out);have j1:=P.out.c1;have j3:=P.out.fr 1;have j5:=P.out.lt;obtain ⟨V4,I⟩:=az (w4.setCell ⟨q,1,none⟩ (.int .i64 ((a1:Int)+1)));have hIV:eL V4 q s (a1+1) false v1:=by rw [←I];exact P.out.set1 (a1+1)
     have hOV:V4.ownsRow base 132 5 v1 L1.length (aS L1):=by rw [←I];exact gh (an HO1.out p.out) N
     have K5:Kept base (fun j=>j=q) w V4:=by rw [←I];exact (A.out.trans (aw p.out r)).trans ff
     have HKV:=aa K5;have hsm:Calls Tryz.prog 103 #[.pointer (some ⟨q,0,none⟩),.int .i64 ((k:Int)+1)] V4 fun e w'=>tE s q base (k+1) (a1+1) L1 V4 e w':=HIH.out (a1+1) (by omega) (by omega) v1 L1 V4 hIV N (zV K K5.size) hOV (by omega)
     clear J V hIV hOV K5 g1 g3 g5;go_wp2_with fail;refine hsm.mono ?_;rintro e w5 ⟨S,⟨a2,u,v2,rfl,K7,hN2,f,l,hL5⟩ | ⟨i,a2,v2,L2,rfl,hF2,f,l⟩⟩
     ·have R:=aa (HKV.out.trans S)
      have hb5:base≤w5.heap.size:=zV K R.out.size;obtain ⟨L2,T⟩:=az (L1 ++ post u L1.length);have hl2:L2.length=L1.length+sizT u:=by rw [←T,List.length_append,iK]
      rw [T] at l;obtain ⟨m,hm⟩:=az L2.length;rw [hm] at l;obtain ⟨A2,c2,hv2⟩:=fO l;subst hv2;obtain ⟨jy,hjy⟩:=az (L1.length+sizT u-1);have hpu:=lL u;have hR3:r9 s k a a2 (.bin o t u):=by
       have hsg:=K3.out;rw [hsg.2];exact It HR.out hlt (Int.not_lt.2 hsg.1) (by rw [←hsg.2];exact HBk.out) K7
      have hpo:L2 ++ [⟨o,0,⟨#[]⟩,(iy:Int),(jy:Int)⟩]=L ++ post (.bin o t u) L.length:=by
       rw [←T,←hjy,HLl.out,←HL1.out,post,←Q.out];simp only [List.append_assoc]
       rfl
      have hsb:L.length+sizT (.bin o t u)-1=m:=by
       have:=HLl.out
       show L.length+(sizT t+sizT u+1)-1=m
       omega
      have Z:a+sizT (.bin o t u)≤a2:=by
       have:=F.out
       show a+(sizT t+sizT u+1)≤a2
       omega
      have HR3:=aa hR3;have HN2:=aa hN2;have HLe2:=aa Z;have HSb:=aa hsb;rw [hjy];have ha2s:=K7.2.1;have HSt:Hid (∀ (W w6:World) (v':Value),Bl w5 W→W.grownBy w6 (Value.slice A2 m c2).ownBlock→w6.ownsRow base 132 5 v' (m+1) (aS L2 ++ de ⟨o,0,⟨#[]⟩,(iy:Int),(jy:Int)⟩)→(eL (w6.setCell ⟨q,3,none⟩ v') q s a2 false v'∧(w6.setCell ⟨q,3,none⟩ v').ownsRow base 132 5 v' (L ++ post (.bin o t u) L.length).length (aS (L ++ post (.bin o t u) L.length))∧Kept base (fun j=>j=q) w (w6.setCell ⟨q,3,none⟩ v'))∧(w6.cell? ⟨q,3,none⟩=some (.slice A2 m c2)∧w6.frozen? ⟨q,3,none⟩=false)∧q<w6.heap.size):=by
       intro W w6 v' hb hg z;have h:=si f l N hb hg;obtain ⟨h1,h2,h3⟩:=zH f l N hb5 hb hg z;refine ⟨⟨h1,?_,R.out.trans h3⟩,⟨h.c3,h.fr 3⟩,h.lt⟩;rw [←hpo,List.length_append,hm];exact h2
      have K0:Hid (∀ w',Bl w5 w'→w'.ownsRow base 132 5 (.slice A2 m c2) m (aS L2)):=fun w' hb=>an l hb
      have p2:=f.c2;have p3:=f.c3;have p4:=f.fr 3;have p5:=f.lt;have hm1:m≤100:=by omega
      have hgn:s.size-a2≤gk-1:=by omega
      have hgp:gk-1<gk:=by omega
      obtain ⟨i1,hj0,hj1,hj2,hj3⟩:=info_parts Tryz.infoNdF;clear S K7 hN2 f l hL5 I hsm j1 j3 j5 T hl2 hm hjy hR3 hpo hsb Z
      go_wp2_with (at_builtin;refine wpList_append_own_at _ rfl _ _ 117 rfl base 132 i1 _ 5 48 Tryz.underlying117 hj0 hj1 hj2 hj3 rfl (by decide) _ m (aS L2) rfl (K0.out _ ?qc0) ⟨w5.heap.size,0,none⟩ 1 1 (de ⟨o,0,⟨#[]⟩,(iy:Int),(jy:Int)⟩) rfl rfl ?qc1 FS ?qc2 ?qc3 ?qc4 ?_)
      case qc0=>exact (zS).alloc (zT) _
      case qc1=>exact I0 (w:=w5) (x:=⟨o,0,⟨#[]⟩,(iy:Int),(jy:Int)⟩) (by simp)
      case qc2=>unfold maxLen;omega
      case qc3=>omega
      case qc4=>simp;omega
      intro v' w6 y M _ _;obtain ⟨HS,⟨y1,y2⟩,y3⟩:=HSt.out _ _ _ ((zS).alloc (zT) _) M y;obtain ⟨A6,c6,hv'⟩:=fO y;subst hv';have HSo:=aa HS;clear y M HS p2 p3 p4 p5;go_wp2_with fail
      go_roundg (gk-1)
      case measure=>exact hgp
      case rel =>
       obtain ⟨x1,x2,x3⟩:=HSo.out;exact ⟨x3,Or.inl ⟨a2,.bin o t u,_,hgn,by rw [HSb.out],HR3.out,HN2.out,x1,x2,HLe2.out⟩⟩
     have R:=aa (HKV.out.trans S);have HF2:Hid (Ea s a a2):=E5 HR.out hlt (Int.not_lt.2 K3.out.1) hF2;have HI5:=aa f;have K0:=aa l;have p2:=f.c2;have p5:=f.lt;clear S hF2 f l I hsm j1 j3 j5;go_wp2_with fail;go_ret;exact ⟨R.out,Or.inr ⟨_,a2,v2,L2,rfl,HF2.out,HI5.out,K0.out⟩⟩
    have u9:Hid (qo s k a1):=CE HN.out (by rw [←K3.out.2];exact E)
    have hbkb:(bindN o != (k:Int))=true:=by simpa using E
    clear E;go_wp2_with fail;refine V.mono ?_;rintro e w4 ⟨rfl,J⟩;have p:=aa (ae n.out J);clear J V;go_wp2_with fail;go_ret;exact ⟨A.out.trans (aw p.out r),Or.inl ⟨a1,t,v1,by rw [Q.out];rfl,HR.out,u9.out,d.out.later p.out,an B.out p.out,F.out⟩⟩
  have A:=aa C;have HF:=aa hF;have d:=aa b;have B:=aa H;have r:base≤wr.heap.size:=zV K C.size;have d0:=b.c0;have d1:=b.c1;have d2:=b.c2;have d5:=b.lt;clear C hF b H HO;go_wp2_with fail
  go_quiet (fail)
  go_wp2_with fail;go_ret;exact ⟨A.out.trans (aw (ac (zS) _) r),Or.inr ⟨i,a1,v1,L1,rfl,HF.out,d.out.later (ac (zS) _),an B.out (ac (zS) _)⟩⟩
theorem IM (s:ByteArray) (q base:Nat) (e:s.size≤100):∀ (d a:Nat),s.size-a=d→a≤s.size→od s q base 1 a∧od s q base 2 a∧od s q base 3 a:=by
 intro d
 induction d using Nat.strongRecOn with
 | _ d ih =>
  intro a i h;have b:∀ a1,a<a1→a1≤s.size→od s q base 1 a1∧od s q base 2 a1∧od s q base 3 a1:=fun a1 f c=>ih (s.size-a1) (by omega) a1 rfl c
  have g:=DM s q base a (FR s q base a e h fun a1 f c=>(b a1 f c).1)
  have c:=vW s q base a 2 e (by omega) (by omega) g fun a1 x y=>(b a1 x y).2.2
  exact ⟨vW s q base a 1 e (by omega) (by omega) c fun a1 x y=>(b a1 x y).2.1,c,g⟩
def sF (s:ByteArray) (w:World):World:=w.alloc (.cells #[.string s,.int .i64 0,.bool false,.slice none 0 0] 185)
theorem ry (s:ByteArray) (w:World):(sF s w).heap.size=w.heap.size+1:=by simp [sF]
theorem H9 (s:ByteArray) (w:World):eL (sF s w) w.heap.size s 0 false (.slice none 0 0):=heap_alloc_new _ _
theorem xQ (s:ByteArray) (w:World):Bl w (sF s w):=(zS).alloc (zT) _
theorem Iq {w:World} {N:Nat} {v:Value} {l:List Nd} (h:w.ownsRow N 132 5 v l.length (aS l)):∃ A c,v=.slice A l.length c∧gt w A c l:=by
 obtain ⟨A,c,a⟩:=fO h;subst a;exact ⟨A,c,rfl,Fy h⟩
theorem rM (s:ByteArray) (w:World) (H:s.size≤100):Calls Tryz.prog 60 #[.string s] w fun e w'=>(∃ A c,e=.returned (.tuple #[.slice A (bI s).length c,.int .i64 (jx s:Int),.int .i64 (prsE s)])∧gt w' A c (bI s))∧Bl w w':=by
 have Z:(s.size:Int)≤100:=by omega
 have N:Calls Tryz.prog 103 #[.pointer (some ⟨w.heap.size,0,none⟩),.int .i64 1] (sF s w) fun e w'=>tE s w.heap.size (w.heap.size+1) 1 0 [] (sF s w) e w' :=
  (IM s w.heap.size (w.heap.size+1) H s.size 0 rfl (zU)).1 (.slice none 0 0) [] (sF s w) (H9 s w) (Nat.lt_succ_self _) (by rw [ry];exact zT) (World.ownsRow_nil _ _ _ _) (zU)
 obtain ⟨W,v⟩:=az (sF s w);have z:Hid (∀ w1,Kept (w.heap.size+1) (fun j=>j=w.heap.size) W w1→Bl w w1):=fun w1 hk=>by
  rw [←ry s w,v] at hk;exact ib (by rw [←v];exact xQ s w) hk (zT)
 rw [v] at N;unfold sF at v;have I:(dJ s).2=false→prsE s=2∧jx s=(dJ s).1.at'∧bI s=[]:=fun d=>by
  have g:prsE s=2:=by unfold prsE;rw [if_neg (by omega),if_neg (by rw [d];decide)]
  exact ⟨g,by unfold jx;rw [if_neg (by omega),if_neg (by rw [d];decide)],by unfold bI;rw [if_neg (by rw [g];decide)]⟩
 have J:(dJ s).2=true→prsE s=aA (eF s)∧jx s=0:=fun d =>
  ⟨by unfold prsE;rw [if_neg (by omega),if_pos d],by unfold jx;rw [if_neg (by omega),if_pos d]⟩
 have C:=aa I;have T:=aa J;have E:Hid (bI s=if prsE s=0 then eF s else []):=rfl
 clear I J
 go_enter Tryz.func60,Tryz.ntmps60
 go_wp2_with fail;refine N.mono ?_;rintro e w1 ⟨K,⟨a1,t,v1,rfl,M,hN,a,f,-⟩ | ⟨i,a1,v1,L1,rfl,hF,a,f⟩⟩
 ·have m:=aa (z.out w1 K)
  have R:=a.c1;have S:=a.c2;have X:=a.c3;have d5:=a.lt;have ha1:a1≤s.size:=M.2.1
  by_cases P:a1<s.size
  ·obtain ⟨d,h⟩:=Dd M hN P
   obtain ⟨g,k,L⟩:=C.out d;rw [h] at k;have p:=aa g;have y:=aa k;have r:=aa L;have b:=aa a;have hlti:(a1:Int)<(s.size:Int):=by omega
   clear K M hN a f v N d h g k L X;go_wp2_with fail
   go_quiet (fail)
   have q:Hid (Bl w (w1.drewN nq)):=ac m.out _;have f1:=(b.out.later (ac (zS) nq)).c1;have f5:=(b.out.later (ac (zS) nq)).lt;clear R S;go_wp2_with fail;go_returns;rw [p.out,y.out,r.out];exact ⟨⟨none,0,rfl,gt.nil _ _ _ (by omega)⟩,q.out⟩
  have he:a1=s.size:=by omega
  subst he;obtain ⟨d,Q⟩:=Gg M;obtain ⟨g,k⟩:=T.out d;have O:([] ++ post t ([]:List Nd).length)=eF s:=by rw [Q];rfl
  rw [O] at f;obtain ⟨A,c,hv,u⟩:=Iq f;subst hv;obtain ⟨Y,x⟩:=az (aA (eF s));have p:=aa (g.trans x);have y:=aa k;have o:=fun w' hN'=>Dr A c (eF s) w' hN'
  rw [x] at o;obtain ⟨l,hl⟩:=az (eF s);have U:=aa hl;rw [hl] at o u X a;have b:=aa a;have F:=aa u;clear K M hN a f v N d g k Q O P u hl x;go_wp2_with fail;refine (o _ F.out).mono ?_;rintro e w2 ⟨rfl,n⟩;have B:=aa (ae m.out n);have V:=aa (F.out.later n);have D:=aa (b.out.later n);have f3:=D.out.c3;have f5:=D.out.lt;clear n o R S X d5
  by_cases G:Y=0
  ·subst G
   have r:Hid (bI s=l):=by show _=_;rw [E.out,p.out,if_pos rfl];exact U.out
   go_wp2_with fail;go_returns;rw [p.out,y.out,r.out];exact ⟨⟨A,c,rfl,V.out⟩,B.out⟩
  have r:Hid (bI s=[]):=by show _=_;rw [E.out,p.out,if_neg G]
  have h0b:(Y == 0)=false:=by simpa using G
  have h0c:(Y != 0)=true:=by simpa using G
  clear G;go_wp2_with fail;go_returns;rw [p.out,y.out,r.out];exact ⟨⟨none,0,rfl,gt.nil _ _ _ (by omega)⟩,B.out⟩
 have m:=aa (z.out w1 K);have R:=a.c1;have S:=a.c2;have d5:=a.lt;obtain ⟨d,h⟩:=Gh hF;obtain ⟨g,k,L⟩:=C.out d;rw [h] at k;have p:=aa g;have y:=aa k;have r:=aa L;have b:=aa a;clear K hF a f v N d h g k L;go_wp2_with fail
 go_quiet (fail)
 have q:Hid (Bl w (w1.drewN nq)):=ac m.out _;have f1:=(b.out.later (ac (zS) nq)).c1;have f5:=(b.out.later (ac (zS) nq)).lt;clear R S;go_wp2_with fail;go_returns;rw [p.out,y.out,r.out];exact ⟨⟨none,0,rfl,gt.nil _ _ _ (by omega)⟩,q.out⟩
def cY:List Int→Int→List Int
 | [],n=>[n]
 | x :: r,n=>if x<n then x :: cY r n else if x=n then x :: r else n :: x :: r
theorem Bg:∀ (L:List Int) (n:Int) (k:Nat),k≤L.length→(∀ i,i<k→L.getD i 0<n)→(k=L.length∨n≤L.getD k 0)→cY L n=if k<L.length∧L.getD k 0=n then L else L.take k ++ [n] ++ L.drop k
 | [],n,k,hk,_,_=>by
  have:k=0:=by simpa using hk
  subst this
  rfl
 | x :: r,n,0,_,_,h=>by
  have a:n≤x:=by simpa using h
  unfold cY;rw [if_neg (by omega)]
  by_cases e:x=n
  ·rw [if_pos e,if_pos (by simp [e])]
  rw [if_neg e,if_neg (by simp [e])]
  rfl
 | x :: r,n,k+1,hk,h1,h2=>by
  have a:x<n:=by simpa using h1 0 (by omega)
  have b:=Bg r n k (by simpa using hk) (fun i c=>by simpa using h1 (i+1) (by omega)) (by simpa using h2)
  unfold cY;rw [if_pos a,b]
  by_cases e:k<r.length∧r.getD k 0=n
  ·rw [if_pos e,if_pos (by simpa using e)]
  rw [if_neg e,if_neg (by simpa using e)]
  rfl
theorem Je {L:List Int} {n:Int} {k:Nat} (a:k<L.length) (h:L.getD k 0=n):L.contains n=true:=by
 rw [List.contains_iff_mem,←h,zZ,zX a];exact List.getElem_mem a
theorem Hr {L:List Int} {n:Int} (h:∀ i,i<L.length→L.getD i 0≠n):L.contains n=false:=by
 rw [Bool.eq_false_iff];intro a;rw [List.contains_iff_mem] at a;obtain ⟨i,b,e⟩:=List.getElem_of_mem a;refine h i b ?_;rw [zZ,zX b];exact e
theorem AF (A:Option Addr) (cap:Nat) (L:List Int) (n:Int) (w:World) (B:L.length≤1000000) (C:aZ w A cap L):Rt 71 #[.slice A L.length cap,.int .i64 n] w (.bool (L.contains n)):=by
 obtain ⟨I,z | ⟨b,o,rfl,H,c⟩⟩:=C
 ·subst z
  show Calls Tryz.prog 71 #[.slice A 0 cap,.int .i64 n] w _
  go_enter Tryz.func71,Tryz.ntmps71
  go_wp2_with fail;refine wp_loop_rounds 1 ?_;rw [rounds_succ];go_wp2_with fail;go_ret;exact ⟨rfl,zS⟩
 obtain ⟨m,u⟩:=az L.length;have G:=aa u;have v:=aa c;rw [u];have F:(m:Int)≤1000000:=by omega
 clear c
 go_enter Tryz.func71,Tryz.ntmps71
 go_wp2_with fail
 go_loopg [5] m (fun g s5 wr => ∃ (k:Nat),k≤m∧g=m-k∧s5=.int .i64 k∧(∀ i,i<k→L.getD i 0≠n)∧wr=w)
 case atStart=>exact ⟨0,zU,rfl,rfl,fun i p=>absurd p (Nat.not_lt_zero i),rfl⟩
 case round =>
  obtain ⟨k,J,rfl,rfl,t,rfl⟩:=hrel;have s:=aa t;clear t
  by_cases E:k<m
  ·have D:(k:Int)<(m:Int):=by omega
   have l:=v.out k (by omega)
   have y:Hid (L.getD k 0=L.getD k 0):=rfl;obtain ⟨x,r⟩:=az (L.getD k 0);have f:=aa r;rw [r] at l;clear r y
   by_cases a:x=n
   ·have h:=aa (Je (L:=L) (n:=n) (k:=k) (by omega) (f.out.trans a))
    have j:(x == n)=true:=by simpa using a
    clear a;go_wp2_with fail;go_ret;exact ⟨by rw [h.out];rfl,zS⟩
   have j:(x == n)=false:=by simpa using a
   have d:Hid (∀ i,i<k+1→L.getD i 0≠n):=fun i p=>by
    by_cases e:i=k
    ·rw [e,f.out];exact a
    exact s.out i (by omega)
   clear a;go_wp2_with fail
   go_roundg (m-(k+1))
   case measure=>omega
   case rel=>exact ⟨k+1,by omega,rfl,by go_num,d.out,rfl⟩
  have q:k=m:=by omega
  subst q;have h:=aa (Hr (L:=L) (n:=n) fun i p=>s.out i (by omega))
  go_wp2_with fail;go_ret;exact ⟨by rw [h.out];rfl,zS⟩
theorem pd {w:World} {b o:Nat} {L:List Int} (h:∀ j,j<L.length→w.cell? ⟨b,o+j,none⟩=some (.int .i64 (L.getD j 0))) (k m:Nat) (d:k+m≤L.length):∀ j u,(((L.drop k).take m).map (Value.int .i64))[j]?=some u→w.cell? ((⟨b,o+k,none⟩:Addr).add j)=some u:=by
 intro j u a;have c:j<m:=by
  have:=(List.getElem?_eq_some_iff.1 a).1
  simp at this
  omega
 rw [aK]
 show w.cell? ⟨b,o+k+j,none⟩=_
 rw [Nat.add_assoc,h (k+j) (by omega)]
 rw [List.getElem?_map,List.getElem?_take_of_lt c,List.getElem?_drop,zX (by omega)] at a
 rw [zZ,zX (by omega)]
 exact a
end Go.Proofs.YtohgnbgamfepoaaGreatDoor
