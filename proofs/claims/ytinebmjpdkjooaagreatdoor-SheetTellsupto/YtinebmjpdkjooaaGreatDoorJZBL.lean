/-
  Entries checked: what check and Check of package input answer, called in whatever memory.
-/
import Derived.Test.YtinebmjpdkjooaaGreatDoorShelfJ
import Derived.Test.YtinebmjpdkjooaaGreatDoorJZBF
import Derived.Test.YtinebmjpdkjooaaGreatDoorJZBH
namespace Go.Proofs.YtinebmjpdkjooaaGreatDoor
open Go.ChangeShapes Go.WideShapes Go.ChangeAt Go.RowKit
set_option maxRecDepth 20000
def ownEn (w:World) (A:Option Addr) (m c:Nat) (N:Int) (T:Nat):World:=w.alloc (.cells #[.slice A m c,.int .i64 N] T)
theorem ownEn_size (w:World) (A:Option Addr) (m c:Nat) (N:Int) (T:Nat):(ownEn w A m c N T).heap.size=w.heap.size+1:=by unfold ownEn;simp
theorem ownEn_below (w:World) (A:Option Addr) (m c:Nat) (N:Int) (T:Nat):Below w.heap.size w (ownEn w A m c N T):=by unfold ownEn;go_grown
theorem ownEn_0 (w:World) (A:Option Addr) (m c:Nat) (N:Int) (T:Nat):(ownEn w A m c N T).cell? ⟨w.heap.size,0,none⟩=some (.slice A m c):=by unfold ownEn;simp
theorem ownEn_1 (w:World) (A:Option Addr) (m c:Nat) (N:Int) (T:Nat):(ownEn w A m c N T).cell? ⟨w.heap.size,1,none⟩=some (.int .i64 N):=by unfold ownEn;simp
def ownOE (w:World) (A0:Option Addr) (n cap:Nat) (A:Option Addr) (m c:Nat) (N:Int):World:=ownEn (ownOut w A0 n cap 24) A m c N 51
theorem ownOE_size (w:World) (A0:Option Addr) (n cap:Nat) (A:Option Addr) (m c:Nat) (N:Int):(ownOE w A0 n cap A m c N).heap.size=w.heap.size+2:=by unfold ownOE;rw [ownEn_size,ownOut_size]
theorem ownOE_below (w:World) (A0:Option Addr) (n cap:Nat) (A:Option Addr) (m c:Nat) (N:Int):Below w.heap.size w (ownOE w A0 n cap A m c N):=onB (ownOut_below ..) (ownEn_below ..)
theorem ownOE_1 (w:World) (A0:Option Addr) (n cap:Nat) (A:Option Addr) (m c:Nat) (N:Int):(ownOE w A0 n cap A m c N).cell? ⟨w.heap.size+1,1,none⟩=some (.int .i64 N):=by
 have h:=ownEn_1 (ownOut w A0 n cap 24) A m c N 51
 rw [ownOut_size] at h
 exact h
set_option maxHeartbeats 4000000 in
theorem icheck1_any (A0:Option Addr) (cap n:Nat) (D:Nat→Dm) (A:Nat→Option Addr) (C:Nat→Nat) (Ae:Option Addr) (ce:Nat) (e:En) (w:World) (hR:(allErr D n).2.2=0) (hM:DimsV w A0 cap n D A C) (hP:PlAt w Ae ce e.pl) :
  Calls Tryz.prog 41 #[.agg #[.slice A0 n cap],.agg #[.slice Ae e.pl.length ce,.int .i64 e.n]] w fun r w'=>r=.returned (errV (entOne D n e))∧Below w.heap.size w w':=by
 have hB0:=ownOE_below w A0 n cap Ae e.pl.length ce e.n
 have h:=pleaf_any A0 cap n D A C Ae ce e.pl (ownOE w A0 n cap Ae e.pl.length ce e.n) (hM.later hB0) (hP.later hB0)
 have HB0:Hid (Below w.heap.size w (ownOE w A0 n cap Ae e.pl.length ce e.n)):=hB0
 have HS:Hid (w.heap.size+1<(ownOE w A0 n cap Ae e.pl.length ce e.n).heap.size):=by show _<_;rw [ownOE_size];omega
 have H1:Hid ((ownOE w A0 n cap Ae e.pl.length ce e.n).cell? ⟨w.heap.size+1,1,none⟩=some (.int .i64 e.n)):=ownOE_1 ..
 clear hM hP hB0
 by_cases hp:placeErr D n e.pl=0
 ·by_cases hf:leafV D n e.pl=true
  ·have hv:=one_num hR hp hf
   rw [hp,hf,errV_zero] at h
   clear hp hf
   by_cases hlo:e.n < -1000000
   ·have HV:Hid (errV (entOne D n e)=.iface 65 (.int .i64 1)):=by
     show _=_
     rw [hv,if_pos (by simp [numOk];omega)];rfl
    generalize e.pl.length=m at h HB0 HS H1
    generalize e.n=N at h HB0 HS H1 hlo
    clear hv
    go_enter Tryz.func41,Tryz.ntmps41
    go_wp2_with fail
    refine h.mono ?_
    rintro r w1 ⟨rfl,hb1⟩
    have c1:=(hb1.cell (p:=⟨w.heap.size+1,1,none⟩) HS.out).trans H1.out
    have HB1:Hid (Below w.heap.size w w1):=onB HB0.out hb1
    clear hb1
    go_wp2_with fail
    go_ret
    rw [HV.out]
    exact ⟨rfl,HB1.out⟩
   ·by_cases hhi:1000000<e.n
    ·have HV:Hid (errV (entOne D n e)=.iface 65 (.int .i64 1)):=by
      show _=_
      rw [hv,if_pos (by simp [numOk];omega)];rfl
     generalize e.pl.length=m at h HB0 HS H1
     generalize e.n=N at h HB0 HS H1 hlo hhi
     clear hv
     go_enter Tryz.func41,Tryz.ntmps41
     go_wp2_with fail
     refine h.mono ?_
     rintro r w1 ⟨rfl,hb1⟩
     have c1:=(hb1.cell (p:=⟨w.heap.size+1,1,none⟩) HS.out).trans H1.out
     have HB1:Hid (Below w.heap.size w w1):=onB HB0.out hb1
     clear hb1
     go_wp2_with fail
     go_ret
     rw [HV.out]
     exact ⟨rfl,HB1.out⟩
    ·have HV:Hid (errV (entOne D n e)=.nilIface):=by
      show _=_
      rw [hv,if_neg (by simp [numOk];omega)];rfl
     generalize e.pl.length=m at h HB0 HS H1
     generalize e.n=N at h HB0 HS H1 hlo hhi
     clear hv
     go_enter Tryz.func41,Tryz.ntmps41
     go_wp2_with fail
     refine h.mono ?_
     rintro r w1 ⟨rfl,hb1⟩
     have c1:=(hb1.cell (p:=⟨w.heap.size+1,1,none⟩) HS.out).trans H1.out
     have HB1:Hid (Below w.heap.size w w1):=onB HB0.out hb1
     clear hb1
     go_wp2_with fail
     go_ret
     rw [HV.out]
     exact ⟨rfl,HB1.out⟩
  ·have hf':leafV D n e.pl=false:=by simpa using hf
   have HV:Hid (errV (entOne D n e)=.iface 65 (.int .i64 6)):=by show _=_;rw [one_leaf hR hp hf'];rfl
   rw [hp,hf',errV_zero] at h
   generalize e.pl.length=m at h HB0
   generalize e.n=N at h HB0
   clear hp hf hf' HS H1
   go_enter Tryz.func41,Tryz.ntmps41
   go_wp2_with fail
   refine h.mono ?_
   rintro r w1 ⟨rfl,hb1⟩
   have HB1:Hid (Below w.heap.size w w1):=onB HB0.out hb1
   clear hb1
   go_wp2_with fail
   go_ret
   rw [HV.out]
   exact ⟨rfl,HB1.out⟩
 ·have HV:Hid (errV (entOne D n e)=.iface 65 (.int .i64 (placeErr D n e.pl))):=by show _=_;rw [one_place hR hp,errV_some hp]
  rw [errV_some hp] at h
  generalize placeErr D n e.pl=E at h HV
  generalize leafV D n e.pl=lf at h
  generalize e.pl.length=m at h HB0
  generalize e.n=N at h HB0
  clear hp HS H1
  go_enter Tryz.func41,Tryz.ntmps41
  go_wp2_with fail
  refine h.mono ?_
  rintro r w1 ⟨rfl,hb1⟩
  have HB1:Hid (Below w.heap.size w w1):=onB HB0.out hb1
  clear hb1
  go_wp2_with fail
  go_ret
  rw [HV.out]
  exact ⟨rfl,HB1.out⟩
theorem inO_short {D:Nat→Dm} {n:Nat} {L:List Int} (h:InO D n L):L.length≤4:=by rw [h.len];exact (allErr_some h.right).2.1
theorem keep3 {W w':World} {b b' o1 o2 o3:Nat} {u v z:Value} (h:b<W.heap.size∧b'<W.heap.size∧W.cell? ⟨b,o1,none⟩=some u∧W.cell? ⟨b,o2,none⟩=some v∧W.cell? ⟨b',o3,none⟩=some z) (hB:Below W.heap.size W w'):Below W.heap.size W w'∧w'.cell? ⟨b,o1,none⟩=some u∧w'.cell? ⟨b,o2,none⟩=some v∧w'.cell? ⟨b',o3,none⟩=some z :=
 ⟨hB,(hB.cell (p:=⟨b,o1,none⟩) h.1).trans h.2.2.1,(hB.cell (p:=⟨b,o2,none⟩) h.1).trans h.2.2.2.1,(hB.cell (p:=⟨b',o3,none⟩) h.2.1).trans h.2.2.2.2⟩
set_option maxHeartbeats 8000000 in
theorem icheck_any (A0:Option Addr) (cap n:Nat) (D:Nat→Dm) (A:Nat→Option Addr) (C:Nat→Nat) (AE:Option Addr) (ce:Nat) (xs:List EnL) (w:World) (hM:DimsV w A0 cap n D A C) (hE:EnsV w AE ce xs) :
  Calls Tryz.prog 17 #[.agg #[.slice A0 n cap],.slice AE xs.length ce] w fun r w'=>r=.returned (errV (entsErr D n (lE xs)))∧Below w.heap.size w w':=by
 have hB0:=ownOut_below w A0 n cap 24
 have h:=all_any A0 cap n D A C (ownOut w A0 n cap 24) (hM.later hB0)
 have HB0:Hid (Below w.heap.size w (ownOut w A0 n cap 24)):=hB0
 have HM:Hid (DimsV w A0 cap n D A C):=hM
 have HE:Hid (EnsV w AE ce xs):=hE
 generalize (allErr D n).1=x1 at h
 generalize (allErr D n).2.1=x2 at h
 clear hM hB0
 by_cases hR:(allErr D n).2.2=0
 ·have HR:Hid ((allErr D n).2.2=0):=hR
  have HV:Hid (entsErr D n (lE xs)=entFrom D n (qOf (lE xs) 0) ((lE xs).drop 0)):=ents_in _ hR
  rw [hR,errV_zero] at h
  obtain ⟨N,hN⟩:∃ N,xs.length=N:=⟨_,rfl⟩
  have HN:Hid (xs.length=N):=hN
  have hNb:(N:Int)≤9223372036854775807:=by have h1:=hE.1;have h2:=hE.2.1;omega
  rw [hN]
  clear hR hN hE
  go_enter Tryz.func17,Tryz.ntmps17
  go_wp2_with fail
  refine h.mono ?_
  rintro e w1 ⟨rfl,hb1⟩
  have hB:Below w.heap.size w w1:=onB HB0.out hb1
  have hz:w.heap.size<w1.heap.size:=by have:=hb1.size;rw [ownOut_size] at this;omega
  have h2:w1.cell? ⟨w.heap.size,0,none⟩=some (.slice A0 n cap):=(hb1.cell (p:=⟨w.heap.size,0,none⟩) (by show w.heap.size<_;rw [ownOut_size];omega)).trans (ownOut_at ..)
  have HM1:Hid (DimsV w1 A0 cap n D A C):=HM.out.later hB
  have HE1:Hid (EnsV w1 AE ce xs):=HE.out.later hB
  have HB:Hid (Below w.heap.size w w1):=hB
  clear hb1 h hB HM HE HB0
  go_wp2_with fail
  go_loopg [22] N (fun g s22 wr => ∃ (k:Nat),k≤N∧g=N-k∧s22=.int .i64 k∧Hid (entFrom D n (qOf (lE xs) k) ((lE xs).drop k)=entFrom D n (qOf (lE xs) 0) ((lE xs).drop 0))∧Hid (∀ j,j<k→entOne D n ((lE xs).getD j noEn)=0)∧Below w1.heap.size w1 wr)
  case atStart=>exact ⟨0,Nat.zero_le _,rfl,rfl,(rfl:entFrom D n (qOf (lE xs) 0) ((lE xs).drop 0)=entFrom D n (qOf (lE xs) 0) ((lE xs).drop 0)),fun j hj=>absurd hj (Nat.not_lt_zero _),Below.refl _ _⟩
  case round =>
   obtain ⟨k,hk,rfl,rfl,HF,HO,hBw⟩:=hrel
   have HBw:Hid (Below w1.heap.size w1 wr):=hBw
   by_cases hlt:k<N
   ·have hkx:k<xs.length:=by rw [HN.out];exact hlt
    have hki:(k:Int)<(N:Int):=by omega
    have hk1:(k:Int)+1≤9223372036854775807:=by omega
    obtain ⟨-,-,h0 | ⟨b,o,rfl,hEs⟩⟩:=HE1.out.later hBw
    ·have:=HN.out;rw [h0] at this;simp at this;omega
    obtain ⟨c1,c2⟩:=hEs.at hkx
    have hpl:=hEs.pl hkx
    have c0:wr.cell? ⟨w.heap.size,0,none⟩=some (.slice A0 n cap):=(hBw.cell (p:=⟨w.heap.size,0,none⟩) hz).trans h2
    have hzr:w.heap.size<wr.heap.size:=Nat.lt_of_lt_of_le hz hBw.size
    have hBo:=ownEn_below wr (xs.getD k noL).A (xs.getD k noL).e.pl.length (xs.getD k noL).c (xs.getD k noL).e.n 51
    have hck:=icheck1_any A0 cap n D A C (xs.getD k noL).A (xs.getD k noL).c (xs.getD k noL).e (ownEn wr (xs.getD k noL).A (xs.getD k noL).e.pl.length (xs.getD k noL).c (xs.getD k noL).e.n 51) HR.out ((HM1.out.later hBw).later hBo) (hpl.later hBo)
    have HBo:Hid (Below wr.heap.size wr (ownEn wr (xs.getD k noL).A (xs.getD k noL).e.pl.length (xs.getD k noL).c (xs.getD k noL).e.n 51)):=hBo
    have HEs:Hid (EnsAt wr b o xs):=hEs
    have HPL:Hid (PlAt wr (xs.getD k noL).A (xs.getD k noL).c (xs.getD k noL).e.pl):=hpl
    have H0:Hid ((ownEn wr (xs.getD k noL).A (xs.getD k noL).e.pl.length (xs.getD k noL).c (xs.getD k noL).e.n 51).cell? ⟨wr.heap.size,0,none⟩=some (.slice (xs.getD k noL).A (xs.getD k noL).e.pl.length (xs.getD k noL).c)):=ownEn_0 ..
    have HS:Hid (wr.heap.size<(ownEn wr (xs.getD k noL).A (xs.getD k noL).e.pl.length (xs.getD k noL).c (xs.getD k noL).e.n 51).heap.size):=by show _<_;rw [ownEn_size];omega
    clear hBw hEs hpl hBo
    by_cases he:entOne D n (xs.getD k noL).e=0
    ·have hKO:=entOne_right HR.out he
     have HK0:Hid (entOne D n ((lE xs).getD k noEn)=0):=by show _=_;rw [lE_at];exact he
     have HSh:Hid ((xs.getD k noL).e.pl.length≤4):=inO_short hKO.1
     rw [he,errV_zero] at hck
     clear he hKO
     rcases Nat.eq_zero_or_pos k with hk0 | hk0
     ·subst hk0
      have HQ:Hid (aheadOk (qOf (lE xs) 0) ((lE xs).getD 0 noEn).pl=true):=rfl
      have HST:Hid (entFrom D n (qOf (lE xs) 0) ((lE xs).drop 0)=entFrom D n (qOf (lE xs) (0+1)) ((lE xs).drop (0+1))):=ent_on (by rw [lE_len];exact hkx) HK0.out HQ.out
      generalize (xs.getD 0 noL).A=A1 at c1 hck HBo H0 HS
      generalize (xs.getD 0 noL).c=k1 at c1 hck HBo H0 HS
      generalize (xs.getD 0 noL).e.n=n1 at c2 hck HBo H0 HS
      generalize (xs.getD 0 noL).e.pl.length=m1 at c1 hck HBo H0 HS
      simp only [Nat.zero_mul,Nat.add_zero] at c1 c2
      clear HPL HSh
      go_wp2_with fail
      refine hck.mono ?_
      rintro e w2 ⟨rfl,hb2⟩
      have HB2:Hid (Below wr.heap.size wr w2):=onB HBo.out hb2
      clear hb2
      go_wp2_with fail
      go_quiet (fail)
      go_wp2_with fail
      go_roundg (N-(0+1))
      case measure=>omega
      case rel =>
       refine ⟨0+1,by omega,rfl,by go_num,HST.out.symm,fun j hj=>?_,below_drewN (onB HBw.out HB2.out) _⟩
       have:j=0:=by omega
       subst this
       exact HK0.out
     ·obtain ⟨j,hj⟩:∃ j,k=j+1:=⟨k-1,by omega⟩
      have hjx:j<xs.length:=by omega
      obtain ⟨d1,d2⟩:=HEs.out.at hjx
      have hjO:=entOne_right HR.out (HO.out j (by omega))
      rw [lE_at] at hjO
      have HJ:Hid (∀ w',Below wr.heap.size wr w'→Calls Tryz.prog 42 #[.agg #[.slice (xs.getD j noL).A (xs.getD j noL).e.pl.length (xs.getD j noL).c,.int .i64 (xs.getD j noL).e.n],.slice (xs.getD k noL).A (xs.getD k noL).e.pl.length (xs.getD k noL).c] w' fun e w''=>e=.returned (.int .i64 (cmpL (xs.getD j noL).e.pl (xs.getD k noL).e.pl))∧Below w'.heap.size w' w''):=fun w' hw'=>order_any _ _ _ _ _ _ _ w' (inO_short hjO.1) HSh.out ((HEs.out.pl hjx).later hw') (HPL.out.later hw')
      have HCN:Hid (decide (0≤cmpL (xs.getD j noL).e.pl (xs.getD k noL).e.pl) = !lessL (xs.getD j noL).e.pl (xs.getD k noL).e.pl):=cmpL_nonneg (xs.getD j noL).e.pl (xs.getD k noL).e.pl
      have HQ:Hid (aheadOk (qOf (lE xs) k) ((lE xs).getD k noEn).pl=lessL (xs.getD j noL).e.pl (xs.getD k noL).e.pl):=by show _=_;rw [←lE_at,←lE_at,hj];rfl
      have hwr:IntKind.i64.wrap ((k:Int)-1)=(j:Int):=by rw [IntKind.wrap_i64];omega
      have hj0:(0:Int)<(k:Int):=by omega
      have HKJ:Hid (k=j+1):=hj
      have hjN:(j:Int)<(N:Int):=by omega
      generalize (xs.getD k noL).A=A1 at c1 hck HBo H0 HS HJ
      generalize (xs.getD k noL).c=k1 at c1 hck HBo H0 HS HJ
      generalize (xs.getD k noL).e.n=n1 at c2 hck HBo H0 HS
      generalize (xs.getD k noL).e.pl.length=m1 at c1 hck HBo H0 HS HJ
      generalize (xs.getD j noL).A=A2 at d1 HJ
      generalize (xs.getD j noL).c=k2 at d1 HJ
      generalize (xs.getD j noL).e.n=n2 at d2 HJ
      generalize (xs.getD j noL).e.pl.length=m2 at d1 HJ
      generalize cmpL (xs.getD j noL).e.pl (xs.getD k noL).e.pl=cc at HJ HCN
      have hbb:=HEs.out.1
      clear HPL HSh hjO hj
      go_wp2_with fail
      refine hck.mono ?_
      rintro e w2 ⟨rfl,hb2⟩
      have hB2:Below wr.heap.size wr w2:=onB HBo.out hb2
      have HB2:Hid (Below wr.heap.size wr w2):=hB2
      have e1:w2.cell? ⟨b,o+j*2,none⟩=some (.slice A2 m2 k2):=(hB2.cell (p:=⟨b,o+j*2,none⟩) hbb).trans d1
      have e2:w2.cell? ⟨b,o+j*2+1,none⟩=some (.int .i64 n2):=(hB2.cell (p:=⟨b,o+j*2+1,none⟩) hbb).trans d2
      have e3:w2.cell? ⟨wr.heap.size,0,none⟩=some (.slice A1 m1 k1):=(hb2.cell (p:=⟨wr.heap.size,0,none⟩) HS.out).trans H0.out
      have hz2:wr.heap.size<w2.heap.size:=Nat.lt_of_lt_of_le HS.out hb2.size
      clear hb2 hB2 c1 c2 d1 d2
      have HC3:Hid (b<w2.heap.size∧wr.heap.size<w2.heap.size∧w2.cell? ⟨b,o+j*2,none⟩=some (.slice A2 m2 k2)∧w2.cell? ⟨b,o+j*2+1,none⟩=some (.int .i64 n2)∧w2.cell? ⟨wr.heap.size,0,none⟩=some (.slice A1 m1 k1)):=⟨Nat.lt_of_lt_of_le hbb HB2.out.size,hz2,e1,e2,e3⟩
      go_wp2_with fail
      go_cut [45] (fun s45 wx=>s45=.bool (decide (0≤cc))∧Below w2.heap.size w2 wx)
      case first =>
       go_region_held3 (fun w'=>Below w2.heap.size w2 w'∧w'.cell? ⟨b,o+j*2,none⟩=some (.slice A2 m2 k2)∧w'.cell? ⟨b,o+j*2+1,none⟩=some (.int .i64 n2)∧w'.cell? ⟨wr.heap.size,0,none⟩=some (.slice A1 m1 k1))
        ((refine keep3 HC3.out ?_;go_grown;done))
        (first | (go_at_call 42;refine (HJ.out _ (onB HB2.out (by go_grown))).mono ?_;rintro e w3 ⟨rfl,hb3⟩;have hN3:=onB (W0:=w2) (by go_grown) hb3;have hy3:=hN3.size;clear hb3))
       all_goals go_wp2_with fail
       all_goals go_meet
       all_goals exact ⟨rfl,by go_grown⟩
      case rest =>
       obtain ⟨rfl,hb3⟩:=hcut
       have HB3:Hid (Below w2.heap.size w2 wc):=hb3
       clear hb3 e1 e2 e3 HC3 HJ hz2 hwr hjN
       obtain ⟨tC,htC⟩:∃ t,decide (0≤cc)=t:=⟨_,rfl⟩
       rw [htC]
       have HTC:Hid (decide (0≤cc)=tC):=htC
       clear htC hk0 hj0 hbb hzr c0
       cases tC
       case true =>
        have HST:Hid (errV (entsErr D n (lE xs))=.iface 65 (.int .i64 7)):=by
         show _=_
         have h3:=HCN.out
         rw [HTC.out] at h3
         rw [HV.out,←HF.out,ent_clash (by rw [lE_len];exact hkx) HK0.out (by rw [HQ.out];simpa using h3)];rfl
        go_wp2_with fail
        go_ret
        rw [HST.out]
        exact ⟨rfl,onB HB.out (onB HBw.out (onB HB2.out HB3.out))⟩
       case false =>
        have HST:Hid (entFrom D n (qOf (lE xs) k) ((lE xs).drop k)=entFrom D n (qOf (lE xs) (k+1)) ((lE xs).drop (k+1))):=by
         show _=_
         have h3:=HCN.out
         rw [HTC.out] at h3
         exact ent_on (by rw [lE_len];exact hkx) HK0.out (by rw [HQ.out];simpa using h3)
        go_wp2_with fail
        go_roundg (N-(k+1))
        case measure=>omega
        case rel =>
         refine ⟨k+1,by omega,rfl,by go_num,HST.out.symm.trans HF.out,fun i hi=>?_,onB HBw.out (onB HB2.out HB3.out)⟩
         rcases Nat.lt_succ_iff_lt_or_eq.1 hi with h1 | rfl
         ·exact HO.out i h1
         ·exact HK0.out
    ·have HFin:Hid (errV (entsErr D n (lE xs))=.iface 65 (.int .i64 (entOne D n (xs.getD k noL).e))):=by
      show _=_
      rw [HV.out,←HF.out,ent_bad (by rw [lE_len];exact hkx) (by rw [lE_at];exact he),lE_at,errV_some he]
     rw [errV_some he] at hck
     generalize entOne D n (xs.getD k noL).e=E at hck HFin
     generalize (xs.getD k noL).A=A1 at c1 hck HBo H0 HS
     generalize (xs.getD k noL).c=k1 at c1 hck HBo H0 HS
     generalize (xs.getD k noL).e.n=n1 at c2 hck HBo H0 HS
     generalize (xs.getD k noL).e.pl.length=m1 at c1 hck HBo H0 HS
     clear HPL he
     go_wp2_with fail
     refine hck.mono ?_
     rintro e w2 ⟨rfl,hb2⟩
     have HB2:Hid (Below wr.heap.size wr w2):=onB HBo.out hb2
     clear hb2
     go_wp2_with fail
     go_ret
     rw [HFin.out]
     exact ⟨rfl,onB HB.out (onB HBw.out HB2.out)⟩
   ·have hke:k=N:=by omega
    subst hke
    have HFin:Hid (errV (entsErr D n (lE xs))=.nilIface):=by show _=_;rw [HV.out,←HF.out,ent_end (by rw [lE_len,HN.out];exact Nat.le_refl _)];rfl
    clear hBw
    go_wp2_with fail
    go_ret
    rw [HFin.out]
    exact ⟨rfl,onB HB.out HBw.out⟩
 ·have HV:Hid (errV (entsErr D n (lE xs))=.iface 65 (.int .i64 (allErr D n).2.2)):=by show _=_;rw [ents_bad _ hR,errV_some hR]
  rw [errV_some hR] at h
  generalize (allErr D n).2.2=E at h HV
  generalize xs.length=N
  clear hR hE HM HE
  go_enter Tryz.func17,Tryz.ntmps17
  go_wp2_with fail
  refine h.mono ?_
  rintro e w1 ⟨rfl,hb1⟩
  go_wp2_with fail
  go_ret
  rw [HV.out]
  exact ⟨rfl,onB HB0.out hb1⟩
def readV (D:Nat→Dm) (n:Nat) (s:ByteArray):List Int:=if readErr D n s=0 then readL D s n else []
theorem readL_snoc (D:Nat→Dm) (s:ByteArray) (k:Nat):readL D s (k+1)=readL D s k ++ [pk D s k]:=by
 unfold readL
 rw [List.range_succ,List.map_append,List.map_singleton]
set_option maxHeartbeats 4000000 in
theorem rrdpl_ty (A0:Option Addr) (cap n:Nat) (D:Nat→Dm) (A:Nat→Option Addr) (C:Nat→Nat) (s:ByteArray) (w:World) (hR:(allErr D n).2.2=0) (hs:s.size≤1048576) (hM:DimsV w A0 cap n D A C):Calls Tryz.prog 30 #[.agg #[.slice A0 n cap],.string s] w fun e w'=>(∃ A' c',e=.returned (.tuple #[.slice A' (readV D n s).length c',.int .i64 (readErr D n s)])∧PlTy w' A' c' (readV D n s))∧Below w.heap.size w w':=by
 obtain ⟨i0,hi0,hz0,hz1,hz2⟩:=info_parts Tryz.infoIntP
 obtain ⟨hn1,hn4,-,hd⟩:=allErr_some hR
 have HD:Hid (∀ i,i<n→1≤(D i).n∧(D i).n≤12):=hd
 have hn':(n:Int)≤4:=by omega
 have hB0:=ownOut_below w A0 n cap 24
 have h:=rcut_any s (ownOut w A0 n cap 24) hs
 have HB0:Hid (Below w.heap.size w (ownOut w A0 n cap 24)):=hB0
 have HM:Hid (DimsV w A0 cap n D A C):=hM
 have hple:=pieces_le s
 obtain ⟨m,hm⟩:∃ m,(pieces s).length=m:=⟨_,rfl⟩
 have Hm:Hid ((pieces s).length=m):=hm
 rw [hm] at h hple
 have hmb:(m:Int)≤1048577:=by omega
 clear hM hB0 hd hR hm hple
 go_enter Tryz.func30,Tryz.ntmps30
 go_wp2_with fail
 refine h.mono ?_
 rintro e w1 ⟨⟨Ac,cc,rfl,hcc,g,rfl,hgz,hstr⟩,hb1⟩
 have hB:Below w.heap.size w w1:=onB HB0.out hb1
 have hz:w.heap.size<w1.heap.size:=by have:=hb1.size;rw [ownOut_size] at this;omega
 have h2:w1.cell? ⟨w.heap.size,0,none⟩=some (.slice A0 n cap):=(hb1.cell (p:=⟨w.heap.size,0,none⟩) (by show w.heap.size<_;rw [ownOut_size];omega)).trans (ownOut_at ..)
 obtain ⟨hcap,h0 | ⟨b,o,rfl,hMs⟩⟩:=HM.out.later hB
 ·omega
 have HMs:Hid (DimsAt w1 b o n D A C):=hMs
 have HB:Hid (Below w.heap.size w w1):=hB
 have HS:Hid (∀ j,j<m→w1.cell? ⟨g,j,none⟩=some (.string (pieceB s j))):=fun j hj=>hstr j (by rw [Hm.out];exact hj)
 clear hb1 h hMs hB hstr
 by_cases hmn:m=n
 ·have hmb':((m:Int) == (n:Int))=true:=by simp;omega
  have HR:Hid ((pieces s).length=n):=by show _=_;rw [Hm.out,hmn]
  subst hmn
  go_wp2_with fail
  go_loopg [7,8,9] m (fun gg s7 s8 s9 wr => ∃ (k:Nat),k≤m∧gg=m-k∧s8=.int .i64 k∧findFrom (noneB D s) (m-k) k=findFrom (noneB D s) m 0∧wr.ownsRow w1.heap.size 3 1 s7 (readL D s k).length (mapI (readL D s k))∧Below w1.heap.size w1 wr)
  case atStart=>exact ⟨0,Nat.zero_le _,rfl,rfl,rfl,World.ownsRow_nil _ _ _ _,Below.refl _ _⟩
  case round =>
   obtain ⟨k,hk,rfl,rfl,hf,hown,hBw⟩:=hrel
   have HF:Hid (findFrom (noneB D s) (m-k) k=findFrom (noneB D s) m 0):=hf
   have HW:Hid (Below w1.heap.size w1 wr):=hBw
   have HO:Hid (wr.ownsRow w1.heap.size 3 1 _ (readL D s k).length (mapI (readL D s k))):=hown
   by_cases hlt:k<m
   ·have hki:(k:Int)<(m:Int):=by omega
    have HSK:Hid (m-k=(m-(k+1))+1):=by show _=_;omega
    obtain ⟨h0,h1,h3,h4⟩:=(HMs.out.later hBw).2 k hlt
    have c0:wr.cell? ⟨w.heap.size,0,none⟩=some (.slice (some ⟨b,o,none⟩) m cap):=(hBw.cell (p:=⟨w.heap.size,0,none⟩) hz).trans h2
    have cs:wr.cell? ⟨g,k,none⟩=some (.string (pieceB s k)):=(hBw.cell (p:=⟨g,k,none⟩) hgz).trans (HS.out k hlt)
    have HWh:Hid (∀ w',Below wr.heap.size wr w'→Calls Tryz.prog 48 #[.agg #[.string (D k).name,.int .i64 (D k).solve,.slice (A k) (D k).n (C k)],.string (pieceB s k)] w' fun e w''=>e=.returned (.int .i64 (pk D s k))∧Below w'.heap.size w' w''):=fun w' hw'=>where_any (D k) (A k) (C k) (pieceB s k) w' (HD.out k hlt).2 (h4.later hw')
    have HSn:Hid (readL D s (k+1)=readL D s k ++ [pk D s k]):=readL_snoc D s k
    have HNB:Hid (noneB D s k=decide (pk D s k<0)):=rfl
    have hrl:=readL_len D s k
    have hsz:=hBw.size
    generalize pk D s k=x at HWh HSn HNB
    generalize pieceB s k=ps at cs HWh
    clear hf hBw h4 hown
    go_wp2_with fail
    go_cut [9] (fun s9 wx=>s9=.int .i64 x∧Below wr.heap.size wr wx)
    case first=>as_aux_lemma =>
     go_region_law ((go_simp;refine (HWh.out _ (by go_grown)).mono ?_;rintro e w2 ⟨rfl,hb2⟩;have hN2:=onB (W0:=wr) (by go_grown) hb2;clear hb2))
     all_goals go_wp2_with fail
     all_goals go_meet
     all_goals exact ⟨rfl,hN2⟩
    case rest=>as_aux_lemma =>
    obtain ⟨rfl,hBc⟩:=hcut
    obtain ⟨w2,rfl⟩:∃ w2:World,w2=wc:=⟨_,rfl⟩
    have HW2:Hid (Below w1.heap.size w1 w2):=HW.out.trans (hBc.mono (by omega))
    have hown2:=own_later HO.out hBc
    have hsz2:=HW2.out.size
    clear hBc c0 cs h0 h1 h3
    by_cases hx:x<0
    ·have HN:Hid (noneB D s k=true):=by show _=_;rw [HNB.out,decide_eq_true hx]
     have HE:Hid (readErr D m s=5):=by
      show _=_
      rw [rd1 HR.out]
      rw [←HF.out,HSK.out,findFrom_hit _ HN.out]
      omega
     have HL:Hid (readV D m s=[]):=by show _=_;unfold readV;rw [HE.out];rfl
     go_wp2_with fail
     go_ret2
     rw [HL.out,HE.out]
     exact ⟨⟨none,0,rfl,PlTy.nil _ _ _⟩,onB HB.out HW2.out⟩
    ·have HN:Hid (noneB D s k=false):=by show _=_;rw [HNB.out,decide_eq_false hx]
     have hx0:0≤x:=by omega
     go_wp2_with (at_builtin;refine wpList_append_own _ rfl _ _ 49 rfl w1.heap.size 3 i0 (.int .i64 0) 1 8 Tryz.underlying49 hi0 hz0 hz1 hz2 rfl (by decide) _ _ _ rfl (hown2.alloc _) ⟨w2.heap.size,0,none⟩ 1 1 [.int .i64 x] rfl rfl one_cell one_one (by unfold maxLen;omega) (by omega) (by simp;omega) ?_)
     intro v' w3 hown' hgrow _
     have HB3:Hid (Below w1.heap.size w1 w3):=grown_own HW2.out hown2 hgrow
     have HO3:Hid (w3.ownsRow w1.heap.size 3 1 v' (readL D s (k+1)).length (mapI (readL D s (k+1)))):=by
      show World.ownsRow ..
      rw [HSn.out,mapI_snoc,List.length_append,readL_len];exact hown'
     clear hown' hgrow hown2
     go_wp2_with fail
     go_roundg (m-(k+1))
     case measure=>omega
     case rel=>exact ⟨k+1,by omega,rfl,by go_num,by rw [←HF.out,HSK.out,findFrom_miss _ HN.out],HO3.out,HB3.out⟩
   ·have hke:k=m:=by omega
    subst hke
    have HE:Hid (readErr D k s=0):=by
     show _=_
     rw [rd2 HR.out]
     rw [←HF.out,Nat.sub_self]
     show ¬ (0:Int)≤-1
     decide
    have HL:Hid (readV D k s=readL D s k):=by show _=_;unfold readV;rw [if_pos HE.out]
    clear hf hown hBw
    go_wp2_with fail
    go_ret2
    rw [HL.out,HE.out]
    obtain ⟨A',c',e1,e2⟩:=plty_own HO.out
    exact ⟨⟨A',c',by rw [←e1];rfl,e2⟩,onB HB.out HW.out⟩
 ·have hmb':((m:Int) == (n:Int))=false:=by simp;omega
  have HE:Hid (readErr D n s=2):=rd0 (by rw [Hm.out];exact hmn)
  have HL:Hid (readV D n s=[]):=by show _=_;unfold readV;rw [HE.out];rfl
  clear hmn
  go_wp2_with fail
  go_ret2
  rw [HL.out,HE.out]
  exact ⟨⟨none,0,rfl,PlTy.nil _ _ _⟩,HB.out⟩
end Go.Proofs.YtinebmjpdkjooaaGreatDoor
namespace Go.Proofs.YtinebmjpdkjooaaGreatDoor
open Go Go.ChangeShapes Go.WideShapes Go.ChangeAt Go.RowKit
set_option maxRecDepth 1000000
set_option maxHeartbeats 64000000
def sgT (x:Int):List UInt8:=if x = -1 then [45] else if x=0 then [126] else [43]
def paB (x:Int):List UInt8:=if 0≤x then Lib.itoa x else [45]
def foB (s:ByteArray):List UInt8:=if s.toList.isEmpty=true then [] else 61 :: s.data.toList
def memT (m:Mem):List UInt8:=[109,101,109,32] ++ m.name.data.toList ++ [32] ++ paB m.parent ++ [32] ++ sgT m.sign ++ foB m.formula ++ [10]
def memsT (M:Nat→Mem) (k:Nat):List UInt8:=(List.range k).flatMap fun j=>memT (M j)
def hdT (d:Dm):List UInt8:=[100,105,109,32] ++ d.name.data.toList ++ [32] ++ Lib.itoa d.solve ++ [10]
def dimsT (D:Nat→Dm) (k:Nat):List UInt8:=(List.range k).flatMap fun i=>hdT (D i) ++ memsT (D i).mem (D i).n
def celT (D:Nat→Dm) (n:Nat) (e:En):List UInt8:=[99,101,108,108,32] ++ textTo D e.pl n ++ [32] ++ Lib.itoa e.n ++ [10]
def celsT (D:Nat→Dm) (n:Nat) (l:List En):List UInt8:=l.flatMap (celT D n)
def shT (D:Nat→Dm) (n:Nat) (l:List En):List UInt8:=dimsT D n ++ celsT D n l
theorem memsT_succ (M:Nat→Mem) (k:Nat):memsT M (k+1)=memsT M k ++ memT (M k):=by simp [memsT,List.range_succ]
theorem dimsT_succ (D:Nat→Dm) (k:Nat):dimsT D (k+1)=dimsT D k ++ (hdT (D k) ++ memsT (D k).mem (D k).n):=by simp [dimsT,List.range_succ]
theorem celsT_take (D:Nat→Dm) (n:Nat) (l:List En) {k:Nat} (h:k<l.length):celsT D n (l.take (k+1))=celsT D n (l.take k) ++ celT D n (l.getD k noEn):=by
 unfold celsT
 rw [List.take_add_one,List.flatMap_append]
 congr 1
 simp [List.getElem?_eq_getElem h,List.getD]
theorem mem_right {M:Nat→Mem} {i:Nat} (h:memErr M i=0) (hi:i≤12):(M i).name.size≤30∧-1≤(M i).parent∧(M i).parent≤12∧-1≤(M i).sign∧(M i).sign≤1∧(M i).formula.size≤100:=by
 unfold memErr at h
 split at h
 ·cases h
 ·rename_i h1
  have h2:nameErr (M i).name=0:=by simpa using h1
  have h3:(M i).name.size≤30:=by
   unfold nameErr at h2
   split at h2
   ·cases h2
   ·omega
  split at h
  ·cases h
  ·split at h
   ·cases h
   ·split at h
    ·cases h
    ·split at h
     ·cases h
     ·split at h
      ·cases h
      ·refine ⟨h3,?_⟩
       omega
theorem dim_right {d:Dm} (h:(dimErr d).2=0):d.name.size≤30∧0≤d.solve∧d.solve≤9:=by
 unfold dimErr at h
 split at h
 ·simp at h
 ·rename_i h1
  have h2:nameErr d.name=0:=by simpa using h1
  have h3:d.name.size≤30:=by
   unfold nameErr at h2
   split at h2
   ·cases h2
   ·omega
  split at h
  ·simp at h
  ·exact ⟨h3,by omega,by omega⟩
theorem sgT_len (x:Int):(sgT x).length≤1:=by unfold sgT;split;simp;split <;> simp
theorem bsz (s:ByteArray):s.data.toList.length=s.size:=by simp
theorem memT_len {m:Mem} (h1:m.name.size≤30) (h2 : -1≤m.parent) (h3:m.parent≤12) (h4:m.formula.size≤100):(memT m).length≤1000:=by
 have a1:=bsz m.name
 have a2:=bsz m.formula
 have a3:=Lib.itoa_length_le m.parent (by omega) (by omega)
 have a4:=sgT_len m.sign
 have a5:(paB m.parent).length≤40:=by unfold paB;split;omega;simp
 have a6:(foB m.formula).length≤101:=by unfold foB;split;simp;simp only [List.length_cons];omega
 unfold memT
 simp only [List.length_append,List.length_cons,List.length_nil]
 omega
theorem hdT_len {d:Dm} (h1:d.name.size≤30) (h2:0≤d.solve) (h3:d.solve≤9):(hdT d).length≤1000:=by
 have a1:=bsz d.name
 have a3:=Lib.itoa_length_le d.solve (by omega) (by omega)
 unfold hdT
 simp only [List.length_append,List.length_cons,List.length_nil]
 omega
theorem memsT_len {M:Nat→Mem}:∀ k,k≤12→(∀ j,j<k→memErr M j=0)→(memsT M k).length≤k*1000
 | 0,_,_=>by simp [memsT]
 | k+1,hk,h=>by
  have h1:=memsT_len k (by omega) (fun j hj=>h j (by omega))
  obtain ⟨b1,b2,b3,-,-,b4⟩:=mem_right (h k (by omega)) (by omega)
  have h2:=memT_len b1 b2 b3 b4
  rw [memsT_succ,List.length_append]
  omega
theorem dimsT_len {D:Nat→Dm} {n:Nat} (h:∀ i,i<n→(dimErr (D i)).2=0):∀ k,k≤n→(dimsT D k).length≤k*13000
 | 0,_=>by simp [dimsT]
 | k+1,hk=>by
  have h1:=dimsT_len h k (by omega)
  obtain ⟨-,-,c1,c2⟩:=dimErr_right (h k (by omega))
  obtain ⟨b1,b2,b3⟩:=dim_right (h k (by omega))
  have h2:=hdT_len b1 b2 b3
  have h3:=memsT_len (D k).n c1 c2
  rw [dimsT_succ,List.length_append,List.length_append]
  omega
theorem celT_len {D:Nat→Dm} {n:Nat} {e:En} (hI:InO D n e.pl) (hn:numOk e.n=true):(celT D n e).length≤1000:=by
 have h1:=textTo_len hI n (Nat.le_refl _)
 have h2:n≤4:=(allErr_some hI.right).2.1
 unfold numOk at hn
 simp only [Bool.and_eq_true,decide_eq_true_eq] at hn
 have a3:=Lib.itoa_length_le e.n (by omega) (by omega)
 unfold celT
 simp only [List.length_append,List.length_cons,List.length_nil]
 omega
theorem celsT_len {D:Nat→Dm} {n:Nat}:∀ l:List En,(∀ e∈l,InO D n e.pl∧numOk e.n=true)→(celsT D n l).length≤l.length*1000
 | [],_=>by simp [celsT]
 | e :: r,h=>by
  have h1:=celsT_len r fun x hx=>h x (List.mem_cons_of_mem _ hx)
  have h2:=h e (List.mem_cons_self ..)
  have h3:=celT_len h2.1 h2.2
  unfold celsT at h1 ⊢
  rw [List.flatMap_cons,List.length_append,List.length_cons]
  omega
end Go.Proofs.YtinebmjpdkjooaaGreatDoor
namespace Go.Proofs.YtinebmjpdkjooaaGreatDoor
open Go Go.ChangeShapes Go.WideShapes Go.ChangeAt Go.RowKit
set_option maxRecDepth 20000
set_option maxHeartbeats 4000000
theorem Tryz.extraJ:Builder.Extra Tryz.prog Tryz.lays156_ren:={
 sizeBuilder:=by kernel_rfl
 liesBuilder:=by kernel_rfl
 t5:=Tryz.underlying5
 a5:=Tryz.isAgg5
 z5:=Tryz.sizeOf5
 v5:=Tryz.zeroValue5
 infoByte:=by kernel_rfl
 cellsByte:=by kernel_rfl
 sizeByte:=by kernel_rfl
 neB5:=by decide }
def liB (l:List ByteArray):ByteArray:=⟨((Lib.join (l.map fun x:ByteArray=>x.data.toList) [32]:List UInt8) ++ [10]).toArray⟩
theorem liB_three (a b c:ByteArray):(liB [a,b,c]).data.toList=a.data.toList ++ [32] ++ b.data.toList ++ [32] ++ c.data.toList ++ [10]:=by
 simp [liB,Lib.join]
theorem liB_four (a b c d:ByteArray):(liB [a,b,c,d]).data.toList=a.data.toList ++ [32] ++ b.data.toList ++ [32] ++ c.data.toList ++ [32] ++ d.data.toList ++ [10]:=by
 simp [liB,Lib.join]
theorem joinW_len (m:Nat):∀ L:List ByteArray,(∀ x∈L,x.size≤m)→(Lib.join (L.map (·.data.toList)) [32]).length≤L.length*(m+1)
 | [],_=>by simp [Lib.join]
 | x :: r,h=>by
  have h2:=h x (List.mem_cons_self ..)
  have h3:x.data.toList.length=x.size:=by simp
  have h1:∀ L:List ByteArray,(∀ x∈L,x.size≤m)→(Lib.joinTail [32] (L.map (·.data.toList))).length≤L.length*(m+1):=by
   intro L
   induction L with
   | nil=>intro _;simp [Lib.joinTail]
   | cons x r ih =>
    intro h
    have h1:=ih fun y hy=>h y (List.mem_cons_of_mem _ hy)
    have h2:=h x (List.mem_cons_self ..)
    have h3:x.data.toList.length=x.size:=by simp
    simp only [Lib.joinTail,List.map_cons,List.flatten_cons,List.length_append,List.length_cons,List.length_nil,Nat.add_mul] at h1 ⊢
    omega
  have h4:=h1 r fun y hy=>h y (List.mem_cons_of_mem _ hy)
  rw [List.map_cons,Lib.join_cons,List.length_append,List.length_cons,Nat.add_mul]
  omega
theorem sline_any (g c m:Nat) (l:List ByteArray) (w:World) (h1:∀ (j:Nat) x,l[j]?=some x→w.cell? ⟨g,0+j,none⟩=some (.string x)) (hg:g<w.heap.size) (hl:l.length=m) (hm:m≤4) (hc:m≤c) (hx:∀ x∈l,x.size≤1048576) :
  Calls Tryz.prog 19 #[.slice (some ⟨g,0,none⟩) m c] w fun e w'=>e=.returned (.string (liB l))∧Below w.heap.size w w':=by
 have hj:=joinW_len 1048576 l hx
 have hjl:(Lib.join (l.map (·.data.toList)) (ByteArray.mk #[32]).data.toList).length≤140737488355328:=by
  refine Nat.le_trans hj ?_
  rw [hl]
  omega
 have h:=Any.strings_Join Tryz.lays156 Tryz.extraJ g 0 c l ⟨#[32]⟩ w h1 hg (by omega) (by omega) hjl
 rw [hl] at h
 obtain ⟨t,ht⟩:∃ t:ByteArray,⟨(Lib.join (l.map (·.data.toList)) (ByteArray.mk #[32]).data.toList).toArray⟩=t:=⟨_,rfl⟩
 have hts:t.size≤140737488355328:=by rw [←ht];show (List.toArray _).size≤_;rw [List.size_toArray];exact hjl
 have HE:Hid (t ++ ⟨#[10]⟩=liB l):=by
  show _=_
  rw [←ht]
  apply ByteArray.ext
  simp [liB,ByteArray.data_append]
 rw [ht] at h
 have hts':(t.size:Int)≤140737488355328:=by omega
 have hadd : ¬ 9223372036854775807<t.size+1:=by omega
 clear h1 hg hl hm hc hx hj hjl ht
 go_enter Tryz.func19,Tryz.ntmps19
 go_wp2_with fail
 refine h.mono ?_
 rintro e w1 ⟨rfl,hb⟩
 go_wp2_with fail
 go_ret
 rw [HE.out]
 exact ⟨rfl,hb⟩
theorem parent_any (p:Int) (w:World) (h0 : -1≤p) (h1:p≤9223372036854775807) (hE:TabE w):Calls Tryz.prog 21 #[.int .i64 p] w fun e w'=>e=.returned (.string ⟨(paB p).toArray⟩)∧Below w.heap.size w w':=by
 by_cases hp:p = -1
 ·subst hp
  have HP:Hid ((⟨#[45]⟩:ByteArray)=⟨(paB (-1)).toArray⟩):=by show _=_;unfold paB;rw [if_neg (by omega)]
  clear hE
  go_enter Tryz.func21,Tryz.ntmps21
  go_wp2_with fail
  go_ret
  exact ⟨by rw [←HP.out];rfl,Below.refl _ _⟩
 ·have HP:Hid (Lib.itoa p=paB p):=by show _=_;unfold paB;rw [if_pos (by omega)]
  have h:=itoaF p w (by omega) h1 hE
  have hp':(p == -1)=false:=by simpa using hp
  clear hE h0 h1
  go_enter Tryz.func21,Tryz.ntmps21
  go_wp2_with fail
  refine h.mono ?_
  rintro e w1 ⟨rfl,hb⟩
  go_wp2_with fail
  go_ret
  exact ⟨by rw [←HP.out];rfl,hb⟩
theorem sgt_any (x:Int) (w:World) (h0 : -1≤x) (h1:x≤1):Calls Tryz.prog 22 #[.int .i64 x] w fun e w'=>e=.returned (.string ⟨(sgT x).toArray⟩)∧Below w.heap.size w w':=by
 have h:x = -1∨x=0∨x=1:=by omega
 rcases h with rfl | rfl | rfl
 all_goals
  go_enter Tryz.func22,Tryz.ntmps22
  go_wp2_with fail
  go_ret
  exact ⟨rfl,Below.refl _ _⟩
theorem formt_any (s:ByteArray) (w:World) (hs:s.size≤1048576):Calls Tryz.prog 23 #[.string s] w fun e w'=>e=.returned (.string ⟨(foB s).toArray⟩)∧Below w.heap.size w w':=by
 cases hb:s.toList.isEmpty
 ·have HP:Hid ((⟨#[61]⟩ ++ s:ByteArray)=⟨(foB s).toArray⟩):=by
   show _=_
   unfold foB
   rw [hb,if_neg (by decide)]
   apply ByteArray.ext
   simp [ByteArray.data_append]
  have hadd : ¬ 9223372036854775807<1+s.size:=by omega
  go_enter Tryz.func23,Tryz.ntmps23
  go_wp2_with fail
  go_ret
  exact ⟨by rw [←HP.out];rfl,Below.refl _ _⟩
 ·have HP:Hid ((⟨#[]⟩:ByteArray)=⟨(foB s).toArray⟩):=by
   show _=_
   unfold foB
   rw [hb,if_pos rfl]
  have hb2:s.toList=[]:=List.isEmpty_iff.1 hb
  go_enter Tryz.func23,Tryz.ntmps23
  go_wp2_with fail
  go_ret
  exact ⟨by rw [←HP.out];rfl,Below.refl _ _⟩
end Go.Proofs.YtinebmjpdkjooaaGreatDoor
