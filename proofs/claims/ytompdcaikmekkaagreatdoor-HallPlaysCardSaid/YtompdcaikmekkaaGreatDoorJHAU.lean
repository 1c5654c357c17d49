/- The document's own rea -/
import Derived.Deep.RegionHeld
import Derived.Test.YtompdcaikmekkaaGreatDoorJHAQ
namespace Go.Proofs.YtompdcaikmekkaaGreatDoor
open ChangeShapes WideShapes ChangeAt RowKit Go
set_option maxRecDepth 99999
set_option maxHeartbeats 0
theorem Hu (s:ByteArray) (q base a:Nat) (hs:s.size≤100) (M:a≤s.size) (d:bD (nextB s a)=true):GJ s q base a:=by
 intro v L w z J A C hLa;have HI:=aa z;have HOw:=aa C;have c0:=z.c0;have c1:=z.c1;have c2:=z.c2;have hq:=z.lt;have O:=fun w' (u:Bl w w')=>fW q a s v 48 57 w' (by omega) M (z.later u)
 have i2:=fun w' (u:Bl w w')=>fW q a s v 97 122 w' (by omega) M (z.later u)
 have i3:=fun w' (u:Bl w w')=>fW q a s v 40 40 w' (by omega) M (z.later u)
 have e1:(decide (48≤nextB s a) && decide (nextB s a≤57))=b8 (nextB s a):=rfl;have e2:(decide (97≤nextB s a) && decide (nextB s a≤122))=bD (nextB s a):=rfl;rw [e1] at O;rw [e2] at i2;have hsi:(s.size:Int)≤100:=by omega
 have hai:(a:Int)≤(s.size:Int):=by omega
 clear z C e1 e2;have hd:b8 (nextB s a)=false:=by unfold bD at d;unfold b8;simp at d ⊢;omega
 have h40:nextB s a≠40:=by intro e;rw [e] at d;revert d;decide
 have e3:(decide (40≤nextB s a) && decide (nextB s a≤40))=false:=by simp;omega
 have hlt:a<s.size:=cD (fun e=>by rw [e] at d;revert d;decide) M
 rw [hd] at O;rw [d] at i2;rw [e3] at i3;have HD:=aa d;clear hd d h40 e3
 go_enter Tryz.func134,Tryz.ntmps134
 go_wp2_with fail;refine (O _ (zS)).mono ?_;rintro e w1 ⟨rfl,KI⟩;have R:=aa KI;clear KI;go_wp2_with fail;refine (i2 _ R.out).mono ?_;rintro e w2 ⟨rfl,KJ⟩;have S:=aa (ae R.out KJ);clear KJ;go_wp2_with fail;refine (i3 _ S.out).mono ?_;rintro e w3 ⟨rfl,KK⟩;have x:=aa (ae S.out KK);have HI3:=aa (HI.out.later x.out);have Y:=aa (ao HOw.out x.out);have HS3:=aa (zV A x.out.size);clear KK O i2 i3 c0 c1 c2;obtain ⟨AL,f,hv⟩:=fL Y.out;subst hv;have HKW:Hid (Kept base (fun j=>j=q) w w3):=ax x.out A
 go_upto_block 2 with fail
 go_cut [] from 12 (fun wx=>eJ wx q s (a+leadN bD (s.extract a s.size)) false (.slice AL L.length f)∧wx.ownsRow base 131 5 (.slice AL L.length f) L.length (aS L)∧Kept base (fun j=>j=q) w wx)
 case first=>as_aux_lemma =>
  go_wp2_with fail
  go_loopg [] s.size (fun g wr => ∃ (k:Nat),g=s.size-k∧a+k≤s.size∧(∀ i,i<k→bD (nextB s (a+i))=true)∧eJ wr q s (a+k) false (.slice AL L.length f)∧wr.ownsRow base 131 5 (.slice AL L.length f) L.length (aS L)∧Kept base (fun j=>j=q) w wr)
  case atStart=>exact ⟨0,rfl,by omega,fun i hi=>absurd hi (Nat.not_lt_zero i),HI3.out,Y.out,HKW.out⟩
  case round =>
   obtain ⟨k,rfl,G,B,D,KH,F⟩:=hrel;have P:=aa B;have V:=aa D;have Z:=aa KH;have X:=aa F;have KL:base≤wr.heap.size:=zV A F.size;have K:=fW q (a+k) s (.slice AL L.length f) 97 122 wr (by omega) G D
   have e5:(decide (97≤nextB s (a+k)) && decide (nextB s (a+k)≤122))=bD (nextB s (a+k)):=rfl;rw [e5] at K;clear B D KH F e5;cases hdk:bD (nextB s (a+k))
   ·have T:Hid (leadN bD (s.extract a s.size)=k):=Cd G P.out hdk
    rw [hdk] at K;clear hdk;go_wp2_with fail;refine K.mono ?_;rintro e w4 ⟨rfl,c⟩;have l:=aa c;clear c K;go_wp2_with fail;go_meet;rw [T.out];exact ⟨V.out.later l.out,ao Z.out l.out,X.out.trans (ax l.out KL)⟩
   have HDk:=aa hdk;have hlk:a+k<s.size:=cD (fun e=>by rw [e] at hdk;revert hdk;decide) G
   rw [hdk] at K;clear hdk;obtain ⟨p,N⟩:=aA (a+k);have HP:=aa N;have hlpi:(p:Int)<(s.size:Int):=by omega
   have y:Hid (eJ wr q s p false (.slice AL L.length f)):=by show eJ _ _ _ _ _ _;rw [←N];exact V.out
   have KG:∀ (w5:World),Bl wr w5→eJ (w5.setCell ⟨q,1,none⟩ (.int .i64 ((p:Int)+1))) q s (a+(k+1)) false (.slice AL L.length f)∧(w5.setCell ⟨q,1,none⟩ (.int .i64 ((p:Int)+1))).ownsRow base 131 5 (.slice AL L.length f) L.length (aS L)∧Kept base (fun j=>j=q) w (w5.setCell ⟨q,1,none⟩ (.int .i64 ((p:Int)+1))):=fun w5 H=>by
    refine ⟨?_,ge (ao Z.out H) J,(X.out.trans (ax H KL)).trans eZ⟩;rw [show a+(k+1)=p+1 by omega]
    exact (y.out.later H).set1 (p+1)
   have U:=aa KG;have Q:Hid (∀ i,i<k+1→bD (nextB s (a+i))=true):=fun i hi=>by
    by_cases e:i=k
    ·rw [e];exact HDk.out
    exact P.out i (by omega)
   clear KG;go_wp2_with fail;refine K.mono ?_;rintro e w4 ⟨rfl,c⟩;have l:=aa c;have d3:=(y.out.later c).c1;have d4:=(y.out.later c).fr 1;have d5:=(y.out.later c).lt;clear c K;go_wp2_with fail
   go_roundg (s.size-(k+1))
   case measure=>omega
   case rel =>
    obtain ⟨x1,x2,x3⟩:=U.out _ l.out;exact ⟨k+1,rfl,by omega,Q.out,x1,x2,x3⟩
 case rest =>
  obtain ⟨b,n,E⟩:=hcut;obtain ⟨w4,rfl⟩:∃ wx:World,wx=wc:=⟨_,rfl⟩;obtain ⟨O,hj0,hj1,hj2,hj3⟩:=info_parts Tryz.infoNdF;have HR:=aa (Id M HD.out);obtain ⟨KM,hn2⟩:=k9 M HD.out;have I:opndN (s.extract a (a+leadN bD (s.extract a s.size)))=⟨2,0,s.extract a (a+leadN bD (s.extract a s.size)),0,0⟩:=by
   have h1:=gG hlt KM;have h2:=HD.out;unfold bD at h2;unfold opndN;rw [h1,if_pos (by simpa using h2)]
  obtain ⟨m,hm⟩:=aA L.length;obtain ⟨p,N⟩:=aA (a+leadN bD (s.extract a s.size));have HM:=aa hm;have hm1:(m:Int)≤100:=by omega
  rw [hm] at b n;rw [N] at b I;have hpi:(p:Int)≤(s.size:Int):=by omega
  have hapi:(a:Int)≤(p:Int):=by omega
  have HRp:Hid (rU s 3 a p (k8 (s.extract a p))):=by show rU _ _ _ _ _;rw [←N];exact HR.out
  have c:base≤w4.heap.size:=zV A E.size;have HSt:Hid (∀ (W w6:World) (v':Value),Bl w4 W→W.grownBy w6 (Value.slice AL m f).ownBlock→w6.ownsRow base 131 5 v' (m+1) (aS L ++ db ⟨2,0,s.extract a p,0,0⟩)→tt s q base 3 a L w (.returned (.int .i64 (m:Int))) (w6.setCell ⟨q,3,none⟩ v')∧(w6.cell? ⟨q,3,none⟩=some (.slice AL m f)∧w6.frozen? ⟨q,3,none⟩=false)∧q<w6.heap.size):=by
   intro W w6 v' u hg ho;have h:=rZ b n J u hg;exact ⟨uW HM.out HRp.out E b n J c u hg (by rw [I];exact ho),⟨h.c3,h.fr 3⟩,h.lt⟩
  have HO1:Hid (∀ w',Bl w4 w'→w'.ownsRow base 131 5 (.slice AL m f) m (aS L)):=fun w' u=>ao n u
  have d0:=b.c0;have d1:=b.c1;have d3:=b.c3;have d4:=b.fr 3;have d5:=b.lt;clear b n E I hm N KM hn2 HR;go_wp2_with fail
  go_region_law (refine step_append_lies _ (by rfl) _ _ _ (by rfl) base 131 O _ 5 48 Tryz.underlying116 hj0 hj1 hj2 hj3 rfl (by omega) (.slice AL m f) m (aS L) (by rfl) (HO1.out _ (by go_grown)) ⟨w4.heap.size,0,none⟩ 1 1 (db ⟨2,0,s.extract a p,0,0⟩) (by rfl) (by rfl) (World.news_of_block (cs := #[.int .i64 2,.int .i64 0,.string (s.extract a p),.int .i64 0,.int .i64 0]) (t:=131) (fr:=(0,0)) (IL w4 _)) FA (by omega) (by unfold maxLen;omega) (by omega) (by simp;omega) (w4.heap.size+1) (by simp) ?_;intro gg cg w6 r o hat hlt6;obtain ⟨HS,⟨y1,y2⟩,y3⟩:=HSt.out _ _ _ (by go_grown) o r;have HSo:=aa HS;clear HS r o hat)
  all_goals (go_wp2_with fail;go_ret;exact HSo.out)
theorem Fz (s:ByteArray) (q base a:Nat) (hs:s.size≤100) (C:a≤s.size) (ih:∀ a1,a<a1→a1≤s.size→nW s q base 1 a1):GJ s q base a:=by
 intro v L w I h l K Y;have HI:=aa I;have H:=aa K;have HIH:=aa ih;have c0:=I.c0;have c1:=I.c1;have c2:=I.c2;have hq:=I.lt;have Q:=fun w' (hb:Bl w w')=>fW q a s v 48 57 w' (by omega) C (I.later hb)
 have R:=fun w' (hb:Bl w w')=>fW q a s v 97 122 w' (by omega) C (I.later hb)
 have S:=fun w' (hb:Bl w w')=>fW q a s v 40 40 w' (by omega) C (I.later hb)
 have e1:(decide (48≤nextB s a) && decide (nextB s a≤57))=b8 (nextB s a):=rfl;have e2:(decide (97≤nextB s a) && decide (nextB s a≤122))=bD (nextB s a):=rfl;rw [e1] at Q;rw [e2] at R;have hsi:(s.size:Int)≤100:=by omega
 have hai:(a:Int)≤(s.size:Int):=by omega
 clear I K ih e1 e2;cases hd:b8 (nextB s a)
 case true=>exact Ht s q base a hs C hd v L w HI.out h l H.out Y
 cases hle:bD (nextB s a)
 case true=>exact Hu s q base a hs C hle v L w HI.out h l H.out Y
 rw [hd] at Q;rw [hle] at R
 by_cases n:nextB s a=40
 ·have T:(decide (40≤nextB s a) && decide (nextB s a≤40))=true:=by rw [n];rfl
  rw [T] at S;have hlt:a<s.size:=cD (by rw [n];decide) C
  have M:=aa n;clear hd hle n T
  go_enter Tryz.func134,Tryz.ntmps134
  go_wp2_with fail;refine (Q _ (zS)).mono ?_;rintro e w1 ⟨rfl,z⟩;have r:=aa z;clear z;go_wp2_with fail;refine (R _ r.out).mono ?_;rintro e w2 ⟨rfl,A⟩;have u:=aa (ae r.out A);clear A;go_wp2_with fail;refine (S _ u.out).mono ?_;rintro e w3 ⟨rfl,B⟩;have d:=aa (ae u.out B);have g:=aa (HI.out.later d.out);have HO3:=aa (ao H.out d.out);have HS3:=aa (zV l d.out.size);have d1:=g.out.c1;have g1:=g.out.fr 1;have hq3:=g.out.lt;obtain ⟨V3,p⟩:=aA (w3.setCell ⟨q,1,none⟩ (.int .i64 ((a:Int)+1)));have V:eJ V3 q s (a+1) false v:=by rw [←p];exact g.out.set1 (a+1)
  have Z:V3.ownsRow base 131 5 v L.length (aS L):=by rw [←p];exact ge HO3.out h
  have W:Kept base (fun j=>j=q) w V3:=by rw [←p];exact (ax d.out l).trans eZ
  have P:=HIH.out (a+1) (by omega) (by omega) v L V3 V h (by rw [←p];simpa using HS3.out) Z (by omega)
  have F:=aa W;clear B Q R S c0 c1 c2 V Z W;go_wp2_with fail;refine P.mono ?_;rintro e w4 ⟨o,⟨a1,t,v1,rfl,hR,hN,k,y,X⟩ | ⟨i,a1,v1,L1,rfl,hF,k,y⟩⟩
  ·have E:=aa (F.out.trans o)
   have HR:=aa hR;have HNs:=aa hN;have D:=aa k;have G:=aa y;have HL4:=aa X;have m:base≤w4.heap.size:=zV l (zV F.out.size o.size);have J:=fW q a1 s v1 41 41 w4 (by omega) hR.2.1 k
   have hp:=lz t;obtain ⟨ix,O⟩:=aA (L.length+sizT t-1);have HIx:=aa O;rw [O];have ha1:(a1:Int)≤100:=by have:=hR.2.1;omega
   clear o hR hN k y X O p P d1 g1
   by_cases x:nextB s a1=41
   ·have U:(decide (41≤nextB s a1) && decide (nextB s a1≤41))=true:=by rw [x];rfl
    rw [U] at J;have N:=aa x;clear x U;go_wp2_with fail;refine J.mono ?_;rintro e w5 ⟨rfl,c⟩;have f:=aa c;have b:=aa (D.out.later c);have f1:=b.out.c1;have k1:=b.out.fr 1;clear c J;go_wp2_with fail;go_ret;refine ⟨(E.out.trans (ax f.out m)).trans eZ,Or.inl ⟨a1+1,t,v1,by rw [HIx.out];rfl,Ib C M.out HR.out N.out,IJ _ _,?_,ge (ao G.out f.out) h,by have:=HL4.out;omega⟩⟩
    exact b.out.set1 (a1+1)
   have U:(decide (41≤nextB s a1) && decide (nextB s a1≤41))=false:=by simp;omega
   rw [U] at J;have N:=aa x;clear x U;go_wp2_with fail;refine J.mono ?_;rintro e w5 ⟨rfl,c⟩;have f:=aa c;have b:=aa (D.out.later c);have f1:=b.out.c2;have k1:=b.out.fr 2;clear c J;go_wp2_with fail;go_ret;exact ⟨(E.out.trans (ax f.out m)).trans eZ,Or.inr ⟨0,a1,v1,_,rfl,EK C M.out HR.out HNs.out N.out,b.out.set2 true,ge (ao G.out f.out) h⟩⟩
  have E:=aa (F.out.trans o);have HF:=aa hF;have D:=aa k;have G:=aa y;have m:base≤w4.heap.size:=zV l (zV F.out.size o.size);have J:=IX q a1 s v1 41 41 w4 k;clear o hF k y p P d1 g1;go_wp2_with fail;refine J.mono ?_;rintro e w5 ⟨rfl,c⟩;have f:=aa c;have b:=aa (D.out.later c);have f1:=b.out.c2;have k1:=b.out.fr 2;clear c J;go_wp2_with fail;go_ret;exact ⟨(E.out.trans (ax f.out m)).trans eZ,Or.inr ⟨0,a1,v1,L1,rfl,EJ C M.out HF.out,b.out.set2 true,ge (ao G.out f.out) h⟩⟩
 have T:(decide (40≤nextB s a) && decide (nextB s a≤40))=false:=by simp;omega
 rw [T] at S;have HF:Hid (DQ s a a):=EI C n hd hle;clear hd hle n T
 go_enter Tryz.func134,Tryz.ntmps134
 go_wp2_with fail;refine (Q _ (zS)).mono ?_;rintro e w1 ⟨rfl,z⟩;have r:=aa z;clear z;go_wp2_with fail;refine (R _ r.out).mono ?_;rintro e w2 ⟨rfl,A⟩;have u:=aa (ae r.out A);clear A;go_wp2_with fail;refine (S _ u.out).mono ?_;rintro e w3 ⟨rfl,B⟩;have d:=aa (ae u.out B);have g:=aa (HI.out.later d.out);have d2:=g.out.c2;have g2:=g.out.fr 2;clear B Q R S c0 c1 c2;go_wp2_with fail;go_ret;refine ⟨(ax d.out l).trans eZ,Or.inr ⟨0,a,v,L,rfl,HF.out,g.out.set2 true,ge (ao H.out d.out) h⟩⟩
def dv (l:List Nd) (k:Nat):List Int:=(List.range l.length).map fun j=>(usedTo l k j:Int)
section
variable {l:List Nd} {k j a b:Nat}
theorem usedL_len:(dv l k).length=l.length:=by simp [dv]
theorem qc (h:j<l.length):(dv l k).getD j 0=(usedTo l k j:Int):=by simp [dv,List.getD,h]
theorem rL (l:List Nd) (k j:Nat):usedTo l k j≤2*k:=by
 induction k with
 | zero=>simp [usedTo]
 | succ k ih =>
  have h:uses (l.getD k bN) j≤2:=by
   unfold uses
   split
   ·split <;> split <;> omega
   omega
  unfold usedTo
  omega
theorem yX:dv l 0=List.replicate l.length 0:=by
 apply List.ext_getElem (by simp [dv])
 intro j a b
 simp [dv,usedTo]
theorem yW (h:(l.getD k bN).op≤2):dv l (k+1)=dv l k:=by
 have e:∀ j,usedTo l (k+1) j=usedTo l k j:=fun j=>by
  show usedTo l k j+uses (l.getD k bN) j=_
  rw [uses,if_neg (by omega)]
  rfl
 unfold dv;simp only [e]
theorem qn {L:List Int} {a b:Nat} {x:Int} (h:a<L.length):(L.set a x).getD b 0=if a=b then x else L.getD b 0:=by
 rw [zZ,zZ,List.getElem?_set]
 by_cases e:a=b
 ·subst e;simp [h]
 simp [e]
theorem DB (h:2<(l.getD k bN).op) (i:(l.getD k bN).left=(a:Int)) (m:(l.getD k bN).right=(b:Int)) (_hal:a<l.length) (n:b<l.length) :
  ((dv l k).set a ((usedTo l k a:Int)+1)).set b ((if a=b then (usedTo l k a:Int)+1 else (usedTo l k b:Int))+1)=dv l (k+1):=by
 apply List.ext_getElem (by simp [dv])
 intro j o p;have e:(dv l (k+1))[j]=((usedTo l k j+uses (l.getD k bN) j:Nat):Int):=by simp only [dv,usedTo,List.getElem_map,List.getElem_range]
 have g:∀ h,(dv l k)[j]'h=(usedTo l k j:Int):=fun h=>by simp only [dv,List.getElem_map,List.getElem_range]
 rw [e,uses,if_pos h,i,m,List.getElem_set,List.getElem_set,g]
 by_cases c:b=j
 ·subst c
  by_cases d:a=b
  ·subst d
   simp
   omega
  have : ¬ (a:Int)=(b:Int):=by omega
  simp [d,this]
 have h3 : ¬ (b:Int)=(j:Int):=by omega
 by_cases f:a=j
 ·subst f
  simp [c,h3]
 have h4 : ¬ (a:Int)=(j:Int):=by omega
 simp [c,f,h3,h4]
end
theorem C7 (A:Option Addr) (cap:Nat) (l:List Nd) (w:World) (hN:gp w A cap l) :
  Rt 102 #[.slice A l.length cap] w (.int .i64 (aB l)):=by
 by_cases c0:l.length=0
 ·have f:Hid (aB l=5):=jC c0
  rw [c0];clear c0
  go_enter Tryz.func102,Tryz.ntmps102
  go_wp2_with fail;go_ret;exact ⟨by rw [f.out];rfl,zS⟩
 obtain ⟨-,-,h0 | ⟨b,o,rfl,S⟩⟩:=hN
 ·rw [h0] at c0;exact absurd rfl c0
 have HAt:=aa S
 by_cases c1:30<l.length
 ·have f:Hid (aB l=4):=l9 c1
  have c1':(30:Int)<(l.length:Int):=by omega
  have c0':((l.length:Int) == 0)=false:=by rw [beq_eq_false_iff_ne];omega
  generalize l.length=N at c1' c0';clear S c0 c1
  go_enter Tryz.func102,Tryz.ntmps102
  go_wp2_with fail;go_ret;exact ⟨by rw [f.out];rfl,zS⟩
 obtain ⟨N,T⟩:=aA l.length;have m:=aa T;rw [T] at c0 c1 ⊢;have c0':((N:Int) == 0)=false:=by simp;omega
 have c1':(N:Int)≤30:=by omega
 have hN1:1≤N:=by omega
 have hmk:=run_make_row' (P:=Tryz.prog) 26 3 (.int .i64 0) 8 Tryz.underlying26 Tryz.infoIntP rfl .i64 .i64 N (by omega) (by omega)
 clear S T c0 c1
 go_enter Tryz.func102,Tryz.ntmps102
 go_wp2_with fail;clear hmk
 go_loopg [4,5] N (fun g s4 s5 wr => ∃ (k:Nat),k≤N∧g=N-k∧s4=.int .i64 k∧eq wr w.heap.size (dv l k)∧(∀ j,j<k→fR l j=false)∧Bl w wr)
 case atStart=>exact ⟨0,zU,rfl,rfl,by rw [yX,m.out];exact eq.made w N,fun j hj=>absurd hj (Nat.not_lt_zero _),by go_grown⟩
 case round =>
  obtain ⟨k,hk,rfl,rfl,hI,hG,E⟩:=hrel;have HI:=aa hI;have HG:=aa hG;have Z:=aa E
  by_cases hlt:k<N
  ·have hlt':(k:Int)<(N:Int):=by omega
   obtain ⟨x1,x2,x3,x4,x5⟩:=(HAt.out.later E).2 k (by rw [m.out];exact hlt)
   have p:Hid (∀ c:Int,ndErr (l.getD k bN) k=c→c≠0→aB l=c):=fun c J h2=>by
    rw [oK (by rw [m.out];omega) (by rw [m.out];exact hlt) (decide_eq_true (by rw [J];exact h2)) HG.out,J]
   have HK:Hid (ndErr (l.getD k bN) k=0→∀ j,j<k+1→fR l j=false):=fun h j hj=>by
    rcases Nat.lt_or_ge j k with J | J
    ·exact HG.out j J
    rw [show j=k by omega];exact decide_eq_false (by rw [h];simp)
   have G:Hid ((l.getD k bN).op≤2→dv l (k+1)=dv l k):=yW;have M:Hid (∀ a b:Nat,2<(l.getD k bN).op→(l.getD k bN).left=(a:Int)→(l.getD k bN).right=(b:Int)→a<l.length→b<l.length→((dv l k).set a ((usedTo l k a:Int)+1)).set b ((if a=b then (usedTo l k a:Int)+1 else (usedTo l k b:Int))+1)=dv l (k+1)):=fun a b=>DB
   generalize l.getD k bN=x at x1 x2 x3 x4 x5 p HK G M;obtain ⟨op,n,nm,le,y⟩:=x;simp only at x1 x2 x3 x4 x5 G M;obtain ⟨W,X⟩:=aA (wr.alloc (.cells #[.int .i64 op,.int .i64 n,.string nm,.int .i64 le,.int .i64 y] 131));have y1:W.cell? ⟨wr.heap.size,0,none⟩=some (.int .i64 op):=by rw [←X];simp
   have y2:W.cell? ⟨wr.heap.size,1,none⟩=some (.int .i64 n):=by rw [←X];simp
   have y3:W.cell? ⟨wr.heap.size,2,none⟩=some (.string nm):=by rw [←X];simp
   have y4:W.cell? ⟨wr.heap.size,3,none⟩=some (.int .i64 le):=by rw [←X];simp
   have y5:W.cell? ⟨wr.heap.size,4,none⟩=some (.int .i64 y):=by rw [←X];simp
   have U:Bl wr W:=by rw [←X];go_grown
   have d:=aa (ae E U);have B:=aa (hI.later U);clear hI hG E U
   by_cases d1:op<1
   ·have f:Hid (aB l=1):=p.out 1 (by unfold ndErr;dsimp only;(repeat' split) <;> omega) (by decide)
    go_wp2_with fail;go_ret;exact ⟨by rw [f.out];rfl,d.out⟩
   by_cases d2:6<op
   ·have f:Hid (aB l=1):=p.out 1 (by unfold ndErr;dsimp only;(repeat' split) <;> omega) (by decide)
    go_wp2_with fail;go_ret;exact ⟨by rw [f.out];rfl,d.out⟩
   by_cases d3:op=1
   ·subst d3
    by_cases d4:n<0
    ·have f:Hid (aB l=1):=p.out 1 (by unfold ndErr;dsimp only;(repeat' split) <;> omega) (by decide)
     go_wp2_with fail;go_ret;exact ⟨by rw [f.out];rfl,d.out⟩
    by_cases d5:1000000<n
    ·have f:Hid (aB l=1):=p.out 1 (by unfold ndErr;dsimp only;(repeat' split) <;> omega) (by decide)
     go_wp2_with fail;go_ret;exact ⟨by rw [f.out];rfl,d.out⟩
    by_cases H:nm.size≠0
    ·have f:Hid (aB l=3):=p.out 3 (by unfold ndErr;dsimp only;(repeat' split) <;> omega) (by decide)
     have bm:nm.toList.isEmpty=false:=by rw [aV];simpa using H
     clear H;go_wp2_with fail;go_ret;exact ⟨by rw [f.out];rfl,d.out⟩
    have bm:nm.toList.isEmpty=true:=by rw [aV];simpa using H
    have HM:Hid (nm.size=0):=by show _=_;omega
    clear H
    by_cases r:le≠0
    ·have f:Hid (aB l=3):=p.out 3 (by have:=HM.out;unfold ndErr;dsimp only;(repeat' split) <;> omega) (by decide)
     have O:(le != 0)=true:=by simpa using r
     clear r;go_wp2_with fail;go_ret;exact ⟨by rw [f.out];rfl,d.out⟩
    have q:Hid (le=0):=by show _=_;omega
    have O:(le != 0)=false:=by have:=q.out;simpa using this
    clear r
    by_cases s:y≠0
    ·have f:Hid (aB l=3):=p.out 3 (by have:=q.out;have:=HM.out;unfold ndErr;dsimp only;(repeat' split) <;> omega) (by decide)
     have Q:(y != 0)=true:=by simpa using s
     clear s;go_wp2_with fail;go_ret;exact ⟨by rw [f.out];rfl,d.out⟩
    have D:Hid (y=0):=by show _=_;omega
    have Q:(y != 0)=false:=by have:=D.out;simpa using this
    clear s;have z:Hid (∀ j,j<k+1→fR l j=false):=HK.out (by have:=q.out;have:=D.out;have:=HM.out;unfold ndErr;dsimp only;(repeat' split) <;> omega)
    have L:Hid (dv l (k+1)=dv l k):=G.out (by decide)
    go_wp2_with fail
    go_roundg (N-(k+1))
    case measure=>omega
    case rel=>exact ⟨k+1,by omega,rfl,by go_num,by rw [L.out];exact B.out,z.out,d.out⟩
   by_cases d6:op=2
   ·subst d6
    have t:=mA nm W
    by_cases d7:aT nm=0
    ·have HZ:=aa d7
     rw [d7] at t;clear d7
     by_cases R:n≠0
     ·have f:Hid (aB l=3):=p.out 3 (by have:=HZ.out;unfold ndErr;dsimp only;(repeat' split) <;> omega) (by decide)
      have bn:(n != 0)=true:=by simpa using R
      clear R;go_wp2_with fail;refine t.mono ?_;rintro e w1 ⟨rfl,rfl⟩;go_wp2_with fail;go_ret;exact ⟨by rw [f.out];rfl,d.out⟩
     have I:Hid (n=0):=by show _=_;omega
     have bn:(n != 0)=false:=by have:=I.out;simpa using this
     clear R
     by_cases r:le≠0
     ·have f:Hid (aB l=3):=p.out 3 (by have:=I.out;have:=HZ.out;unfold ndErr;dsimp only;(repeat' split) <;> omega) (by decide)
      have O:(le != 0)=true:=by simpa using r
      clear r;go_wp2_with fail;refine t.mono ?_;rintro e w1 ⟨rfl,rfl⟩;go_wp2_with fail;go_ret;exact ⟨by rw [f.out];rfl,d.out⟩
     have q:Hid (le=0):=by show _=_;omega
     have O:(le != 0)=false:=by have:=q.out;simpa using this
     clear r
     by_cases s:y≠0
     ·have f:Hid (aB l=3):=p.out 3 (by have:=I.out;have:=q.out;have:=HZ.out;unfold ndErr;dsimp only;(repeat' split) <;> omega) (by decide)
      have Q:(y != 0)=true:=by simpa using s
      clear s;go_wp2_with fail;refine t.mono ?_;rintro e w1 ⟨rfl,rfl⟩;go_wp2_with fail;go_ret;exact ⟨by rw [f.out];rfl,d.out⟩
     have D:Hid (y=0):=by show _=_;omega
     have Q:(y != 0)=false:=by have:=D.out;simpa using this
     clear s;have z:Hid (∀ j,j<k+1→fR l j=false):=HK.out (by have:=I.out;have:=q.out;have:=D.out;have:=HZ.out;unfold ndErr;dsimp only;(repeat' split) <;> omega)
     have L:Hid (dv l (k+1)=dv l k):=G.out (by decide)
     go_wp2_with fail;refine t.mono ?_;rintro e w1 ⟨rfl,rfl⟩;go_wp2_with fail
     go_roundg (N-(k+1))
     case measure=>omega
     case rel=>exact ⟨k+1,by omega,rfl,by go_num,by rw [L.out];exact B.out,z.out,d.out⟩
    have f:Hid (aB l=2):=p.out 2 (by unfold ndErr;dsimp only;(repeat' split) <;> omega) (by decide)
    rw [eP d7] at t;clear d7;go_wp2_with fail;refine t.mono ?_;rintro e w1 ⟨rfl,rfl⟩;go_wp2_with fail;go_ret;exact ⟨by rw [f.out];rfl,d.out⟩
   have o1:(op == 1)=false:=by simpa using d3
   have o2:(op == 2)=false:=by simpa using d6
   have C:Hid (¬ op=1∧¬ op=2):=⟨d3,d6⟩;clear d3 d6
   by_cases d8:le<0
   ·have f:Hid (aB l=1):=p.out 1 (by have:=C.out;unfold ndErr;dsimp only;(repeat' split) <;> omega) (by decide)
    go_wp2_with fail;go_ret;exact ⟨by rw [f.out];rfl,d.out⟩
   by_cases d9:(k:Int)≤le
   ·have f:Hid (aB l=1):=p.out 1 (by have:=C.out;unfold ndErr;dsimp only;(repeat' split) <;> omega) (by decide)
    go_wp2_with fail;go_ret;exact ⟨by rw [f.out];rfl,d.out⟩
   by_cases d10:y<0
   ·have f:Hid (aB l=1):=p.out 1 (by have:=C.out;unfold ndErr;dsimp only;(repeat' split) <;> omega) (by decide)
    go_wp2_with fail;go_ret;exact ⟨by rw [f.out];rfl,d.out⟩
   by_cases d11:(k:Int)≤y
   ·have f:Hid (aB l=1):=p.out 1 (by have:=C.out;unfold ndErr;dsimp only;(repeat' split) <;> omega) (by decide)
    go_wp2_with fail;go_ret;exact ⟨by rw [f.out];rfl,d.out⟩
   by_cases R:n≠0
   ·have f:Hid (aB l=3):=p.out 3 (by have:=C.out;unfold ndErr;dsimp only;(repeat' split) <;> omega) (by decide)
    have bn:(n != 0)=true:=by simpa using R
    clear R;go_wp2_with fail;go_ret;exact ⟨by rw [f.out];rfl,d.out⟩
   have I:Hid (n=0):=by show _=_;omega
   have bn:(n != 0)=false:=by have:=I.out;simpa using this
   clear R
   by_cases H:nm.size≠0
   ·have f:Hid (aB l=3):=p.out 3 (by have:=I.out;have:=C.out;unfold ndErr;dsimp only;(repeat' split) <;> omega) (by decide)
    have bm:nm.toList.isEmpty=false:=by rw [aV];simpa using H
    clear H;go_wp2_with fail;go_ret;exact ⟨by rw [f.out];rfl,d.out⟩
   have bm:nm.toList.isEmpty=true:=by rw [aV];simpa using H
   have HM:Hid (nm.size=0):=by show _=_;omega
   clear H;have z:Hid (∀ j,j<k+1→fR l j=false):=HK.out (by have:=C.out;have:=HM.out;have:=I.out;unfold ndErr;dsimp only;(repeat' split) <;> omega)
   obtain ⟨a,rfl⟩:∃ a:Nat,le=(a:Int):=⟨le.toNat,by omega⟩
   obtain ⟨b',rfl⟩:∃ b':Nat,y=(b':Int):=⟨y.toNat,by omega⟩
   have ha:a<N:=by omega
   have hb:b'<N:=by omega
   have L:=M.out a b' (by have:=C.out;omega) rfl rfl (by rw [m.out];exact ha) (by rw [m.out];exact hb)
   have HUh:=aa L;have e1:=B.out.cell (j:=a) (by rw [usedL_len,m.out];exact ha)
   rw [qc (by rw [m.out];exact ha)] at e1
   have f1:=B.out.frozen a;have F:=B.out.set a ((usedTo l k a:Int)+1);have e2:=F.cell (j:=b') (by rw [List.length_set,usedL_len,m.out];exact hb)
   rw [qn (by rw [usedL_len,m.out];exact ha),qc (by rw [m.out];exact hb)] at e2
   have f2:=F.frozen b';have K:Hid (eq ((W.setCell ⟨w.heap.size,a,none⟩ (.int .i64 ((usedTo l k a:Int)+1))).setCell ⟨w.heap.size,b',none⟩ (.int .i64 ((if a=b' then (usedTo l k a:Int)+1 else (usedTo l k b':Int))+1))) w.heap.size (dv l (k+1))):=by
    have h:=F.set b' ((if a=b' then (usedTo l k a:Int)+1 else (usedTo l k b':Int))+1)
    rw [L] at h;exact h
   have ua:=rL l k a;have ub:=rL l k b';generalize usedTo l k a=ua' at *;generalize usedTo l k b'=ub' at *;obtain ⟨v,hv⟩:∃ v:Nat,(if a=b' then (ua':Int)+1 else (ub':Int))=(v:Int):=⟨if a=b' then ua'+1 else ub',by split <;> simp⟩
   have hv1:(v:Int)≤100:=by rw [←hv];split <;> omega
   have hu1:(ua':Int)≤100:=by omega
   rw [hv] at e2 K;have hak:(a:Int)<(N:Int):=by omega
   have hbk:(b':Int)<(N:Int):=by omega
   have hak':(a:Int)<(k:Int):=by omega
   have hbk':(b':Int)<(k:Int):=by omega
   have hne:w.heap.size<wr.heap.size:=HI.out.lt;have Y:Hid (Bl w (W.setCell ⟨w.heap.size,a,none⟩ (.int .i64 ((ua':Int)+1)))):=d.out.setCell (by show w.heap.size≤w.heap.size;omega) _
   have y6:(W.setCell ⟨w.heap.size,a,none⟩ (.int .i64 ((ua':Int)+1))).cell? ⟨wr.heap.size,4,none⟩=some (.int .i64 (b':Int)):=by
    rw [World.cell?_setCell_far _ _ _ _ (by show w.heap.size≠wr.heap.size;omega)]
    exact y5
   obtain ⟨V,hV⟩:=aA (W.setCell ⟨w.heap.size,a,none⟩ (.int .i64 ((ua':Int)+1)));rw [hV] at e2 f2 K Y y6;clear L HUh F hv ua ub d9 d11 ha hb hne;go_wp2_with fail
   go_roundg (N-(k+1))
   case measure=>omega
   case rel=>exact ⟨k+1,by omega,rfl,by go_num,K.out,z.out,Y.out.setCell (by show w.heap.size≤w.heap.size;omega) _⟩
  obtain rfl:k=N:=by omega
  have hlt' : ¬ (k:Int)<(k:Int):=by omega
  clear hI hG E;go_wp2_with fail
  go_loopg [6] k (fun g s6 wt => ∃ (j:Nat),j≤k-1∧g=k-j∧s6=.int .i64 j∧wt=wr∧(∀ i,i<j→ky l i=false))
  case atStart=>exact ⟨0,zU,rfl,rfl,rfl,fun i hi=>absurd hi (Nat.not_lt_zero _)⟩
  case round =>
   obtain ⟨j,hj,rfl,rfl,rfl,hO⟩:=hrel;have C:=aa hO;clear hO
   by_cases hjl:j<k-1
   ·have hj1:(j:Int)<(k:Int)-1:=by omega
    have hj2:(j:Int)<(k:Int):=by omega
    have e1:=HI.out.cell (j:=j) (by rw [usedL_len,m.out];omega)
    rw [qc (by rw [m.out];omega)] at e1
    by_cases hu:usedTo l k j=1
    ·have HO1:Hid (∀ i,i<j+1→ky l i=false):=fun i hi=>by
      rcases Nat.lt_or_ge i j with J | J
      ·exact C.out i J
      rw [show i=j by omega];exact decide_eq_false (by rw [m.out,hu];simp)
     rw [hu] at e1;clear hu;go_wp2_with fail
     go_roundg (k-(j+1))
     case measure=>omega
     case rel=>exact ⟨j+1,by omega,rfl,by go_num,rfl,HO1.out⟩
    have f:Hid (aB l=3):=oL (by rw [m.out];omega) (by rw [m.out];omega) (by rw [m.out];exact HG.out) (i:=j) (by rw [m.out];exact hjl) (decide_eq_true (by rw [m.out];exact hu))
    have hu':(((usedTo l k j:Nat):Int) == 1)=false:=by simp;omega
    generalize usedTo l k j=u at e1 hu';clear hu;go_wp2_with fail;go_ret;exact ⟨by rw [f.out];rfl,Z.out⟩
   have f:Hid (aB l=0):=qY (by rw [m.out];omega) (by rw [m.out];omega) (by rw [m.out];exact HG.out) (fun i hi=>C.out i (by rw [m.out] at hi;omega))
   have hj1 : ¬ (j:Int)<(k:Int)-1:=by omega
   go_wp2_with fail;go_ret;exact ⟨by rw [f.out];rfl,Z.out⟩
end Go.Proofs.YtompdcaikmekkaaGreatDoor
