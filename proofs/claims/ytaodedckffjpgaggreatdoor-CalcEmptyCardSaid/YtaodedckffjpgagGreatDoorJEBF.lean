/-
  What All of package rules, and the document's own Rules, answer, in whatever memory: which dim of an outline is wrong, in which member, and how.
-/
import Derived.Maps.AppendAt
import Derived.Deep.CutRange
import Derived.Deep.RegionHeld
import Derived.Laws.AppendOwnNone
import Derived.Test.YtaodedckffjpgagGreatDoorShelfG
import Derived.Laws.Cover1
import Derived.Test.YtaodedckffjpgagGreatDoorJEAZ
import Derived.Test.YtaodedckffjpgagGreatDoorJEBE
namespace Go.Proofs.YtaodedckffjpgagGreatDoor
open Go.ChangeShapes Go.WideShapes Go.ChangeAt Go.RowKit
set_option maxRecDepth 20000
noncomputable def badD (D:Nat→Dm) (i:Nat):Bool:=decide ((rErr (D i)).2≠0)
noncomputable def ruErr (D:Nat→Dm) (n:Nat):Int×Int×Int :=
 if (allErr D n).2.2≠0 then allErr D n
 else if 0≤findFrom (badD D) n 0 then (findFrom (badD D) n 0,rErr (D (findFrom (badD D) n 0).toNat))
 else (-1,-1,0)
theorem ru0 {D:Nat→Dm} {n:Nat} (h:(allErr D n).2.2≠0):ruErr D n=allErr D n:=by unfold ruErr;rw [if_pos h]
theorem ru1 {D:Nat→Dm} {n i:Nat} (h:(allErr D n).2.2=0) (hi:i<n) (hb:(rErr (D i)).2≠0) (hf:∀ j,j<i→(rErr (D j)).2=0):ruErr D n=((i:Int),(rErr (D i)).1,(rErr (D i)).2):=by
 have e:findFrom (badD D) n 0=(i:Int):=findFrom_at (Nat.zero_le _) (by omega) (decide_eq_true hb) fun j _ hj=>decide_eq_false (by simpa using hf j hj)
 unfold ruErr
 rw [if_neg (by simpa using h),e,if_pos (by omega),Int.toNat_natCast]
theorem ru2 {D:Nat→Dm} {n:Nat} (h:(allErr D n).2.2=0) (hf:∀ j,j<n→(rErr (D j)).2=0):ruErr D n=(-1,-1,0):=by
 unfold ruErr
 rw [if_neg (by simpa using h),findFrom_none (p:=badD D) fun j _ hj=>decide_eq_false (by simpa using hf j (by omega)),if_neg (by omega)]
set_option maxHeartbeats 4000000 in
theorem rulall_any (A0:Option Addr) (cap n:Nat) (D:Nat→Dm) (A:Nat→Option Addr) (C:Nat→Nat) (w:World) (hM:DimsV w A0 cap n D A C):Calls Tryz.prog 23 #[.agg #[.slice A0 n cap]] w fun e w'=>e=.returned (.tuple #[.int .i64 (ruErr D n).1,.int .i64 (ruErr D n).2.1,errV (ruErr D n).2.2])∧Below w.heap.size w w':=by
 have hB0:=ownOut_below w A0 n cap 29
 have hS:=ownOut_size w A0 n cap 29
 have hA:=ownOut_at w A0 n cap 29
 have hal:=all_any A0 cap n D A C (ownOut w A0 n cap 29) (hM.later hB0)
 obtain ⟨W,hW⟩:∃ W,ownOut w A0 n cap 29=W:=⟨_,rfl⟩
 rw [hW] at hB0 hS hA hal
 unfold ownOut at hW
 have HB0:Hid (Below w.heap.size w W):=hB0
 have HM:Hid (DimsV w A0 cap n D A C):=hM
 have hsz:w.heap.size<W.heap.size:=by omega
 clear hM hB0
 by_cases he:(allErr D n).2.2=0
 case neg =>
  rw [ru0 he]
  rw [errV_some he] at hal ⊢
  generalize (allErr D n).1=x at hal ⊢
  generalize (allErr D n).2.1=y at hal ⊢
  generalize (allErr D n).2.2=c at hal ⊢
  clear he
  go_enter Tryz.func23,Tryz.ntmps23
  go_wp2_with fail
  refine hal.mono ?_
  rintro e w1 ⟨rfl,hb1⟩
  go_wp2_with fail
  go_returns
  exact ⟨rfl,onB HB0.out hb1⟩
 obtain ⟨hn1,hn4,-,-⟩:=allErr_some he
 have HE:Hid ((allErr D n).2.2=0):=he
 rw [he,errV_zero] at hal
 generalize (allErr D n).1=x at hal
 generalize (allErr D n).2.1=y at hal
 have hnI:(n:Int)≤4:=by omega
 have HA:Hid (W.cell? ⟨w.heap.size,0,none⟩=some (.slice A0 n cap)):=hA
 clear he
 go_enter Tryz.func23,Tryz.ntmps23
 go_wp2_with fail
 refine hal.mono ?_
 rintro e w1 ⟨rfl,hb1⟩
 have HB1:Hid (Below W.heap.size W w1):=hb1
 have c1:w1.cell? ⟨w.heap.size,0,none⟩=some (.slice A0 n cap):=(hb1.cell (p:=⟨w.heap.size,0,none⟩) hsz).trans hA
 have hsz1:w.heap.size<w1.heap.size:=Nat.lt_of_lt_of_le hsz hb1.size
 clear hb1 hal hA hW
 go_wp2_with fail
 go_loopg [26] n (fun g s26 wr => ∃ (k:Nat),k≤n∧g=n-k∧s26=.int .i64 k∧Hid (∀ j,j<k→(rErr (D j)).2=0)∧Below W.heap.size W wr)
 case atStart=>exact ⟨0,Nat.zero_le _,rfl,rfl,(fun j hj=>absurd hj (Nat.not_lt_zero _):∀ j,j<0→_),HB1.out⟩
 case round =>
  obtain ⟨k,hk,rfl,rfl,HK,hBw⟩:=hrel
  have HBw:Hid (Below W.heap.size W wr):=hBw
  by_cases hlt:k<n
  ·have hki:(k:Int)<(n:Int):=by omega
   obtain ⟨hcap,h0 | ⟨b,o,rfl,hMs⟩⟩:=HM.out.later (onB HB0.out hBw)
   ·omega
   have hcapI:(n:Int)≤(cap:Int):=by omega
   obtain ⟨h0,h1,h2,h3⟩:=hMs.2 k hlt
   have hbl:b<wr.heap.size:=hMs.1
   have hBo:=ownDim_below wr (D k) (A k) (C k) 43
   have hck:=rcheck_any (D k) (A k) (C k) (ownDim wr (D k) (A k) (C k) 43) (h3.later hBo)
   obtain ⟨d0,d1,d2,hqW⟩:=dim_cells (w:=wr) (d:=D k) (A:=A k) (cap:=C k) (Below.refl _ _)
   have HBo:Hid (Below wr.heap.size wr (ownDim wr (D k) (A k) (C k) 43)):=hBo
   unfold dimV at hck
   obtain ⟨W2,hW2⟩:∃ W2,ownDim wr (D k) (A k) (C k) 43=W2:=⟨_,rfl⟩
   rw [hW2] at d0 d1 d2 hqW HBo hck
   unfold ownDim at hW2
   clear h3 hMs hBo hBw
   by_cases he:(rErr (D k)).2=0
   ·rw [he,errV_zero] at hck
    have HK2:Hid (∀ j,j<k+1→(rErr (D j)).2=0):=fun j hj=>by
     by_cases e:j=k
     ·rw [e];exact he
     ·exact HK.out j (by omega)
    generalize (rErr (D k)).1=z at hck
    clear he
    go_wp2_with fail
    refine hck.mono ?_
    rintro e w2 ⟨rfl,hb2⟩
    have HB2:Hid (Below W.heap.size W w2):=onB HBw.out (onB HBo.out hb2)
    clear hb2 hck
    go_wp2_with fail
    go_roundg (n-(k+1))
    case measure=>omega
    case rel=>exact ⟨k+1,by omega,rfl,by go_num,HK2,HB2.out⟩
   ·have HRu:Hid (ruErr D n=((k:Int),(rErr (D k)).1,(rErr (D k)).2)):=ru1 HE.out hlt he HK.out
    have HEe:Hid ((rErr (D k)).2≠0):=he
    rw [errV_some he] at hck
    generalize (rErr (D k)).1=z at hck HRu
    generalize (rErr (D k)).2=c at hck HRu HEe
    clear he
    go_wp2_with fail
    refine hck.mono ?_
    rintro e w2 ⟨rfl,hb2⟩
    have HB2:Hid (Below W.heap.size W w2):=onB HBw.out (onB HBo.out hb2)
    clear hb2 hck
    go_wp2_with fail
    go_returns
    rw [HRu.out]
    exact ⟨by rw [errV_some HEe.out];rfl,onB HB0.out HB2.out⟩
  ·have hke:k=n:=by omega
   subst hke
   have HRu:Hid (ruErr D k=(-1,-1,0)):=ru2 HE.out HK.out
   clear hBw
   go_wp2_with fail
   go_returns
   rw [HRu.out]
   exact ⟨rfl,onB HB0.out HBw.out⟩
def NmV (w:World) (A:Option Addr) (c:Nat) (N:List ByteArray):Prop:=N.length≤c∧N.length<4611686018427387904∧c≤9223372036854775807∧(N=[]∨∃ b o,A=some ⟨b,o,none⟩∧b<w.heap.size∧∀ j,j<N.length→w.cell? ⟨b,o+j,none⟩=some (.string (N.getD j noS)))
theorem NmV.later {w w':World} {A:Option Addr} {c:Nat} {N:List ByteArray} (h:NmV w A c N) (hB:Below w.heap.size w w'):NmV w' A c N:=by
 obtain ⟨h1,h2,h3,h4 | ⟨b,o,h4,h5,h6⟩⟩:=h
 ·exact ⟨h1,h2,h3,Or.inl h4⟩
 ·exact ⟨h1,h2,h3,Or.inr ⟨b,o,h4,Nat.lt_of_lt_of_le h5 hB.size,fun j hj=>(hB.cell (p:=⟨b,o+j,none⟩) h5).trans (h6 j hj)⟩⟩
set_option maxHeartbeats 4000000 in
theorem rkcheck_any (An:Option Addr) (cn:Nat) (N:List ByteArray) (Ac:Option Addr) (cc:Nat) (C:List (Int×Int)) (w:World) (hN:NmV w An cn N) (hC:CelV w Ac cc C) :
  Calls Tryz.prog 63 #[.slice An N.length cn,.slice Ac C.length cc] w fun e w'=>e=.returned (errV (ckErr N C))∧Below w.heap.size w w':=by
 by_cases hne:C.length=N.length
 case neg =>
  have hb:((C.length:Int) != (N.length:Int))=true:=by simp;omega
  rw [ck_shape hne,errV_some (by decide)]
  clear hne hN hC
  go_enter Tryz.func63,Tryz.ntmps63
  go_wp2_with fail
  go_ret
  exact ⟨rfl,Below.refl _ _⟩
 obtain ⟨-,hN2,-,hN4⟩:=hN
 obtain ⟨-,-,hC3⟩:=hC
 obtain ⟨n,hn⟩:∃ n,N.length=n:=⟨_,rfl⟩
 have HNL:Hid (N.length=n):=hn
 have HCL:Hid (C.length=n):=hne.trans hn
 rw [hne,hn]
 rw [hn] at hN2 
 by_cases h0:n=0
 ·subst h0
  rw [ck_good (N:=N) (C:=C) hne (fun j hj=>by have:=HCL.out;omega) (fun j _ hj=>by omega),errV_zero]
  clear hN4 hC3 hne hn hN2
  go_enter Tryz.func63,Tryz.ntmps63
  go_wp2_with fail
  refine wp_loop_rounds 1 ?_
  rw [rounds_succ]
  go_wp2_with fail
  refine wp_loop_rounds 1 ?_
  rw [rounds_succ]
  go_wp2_with fail
  go_ret
  exact ⟨rfl,Below.refl _ _⟩
 obtain ⟨b,o,rfl,hCA⟩:=hC3.resolve_left (fun e=>by rw [e] at hne;simp at hne;omega)
 obtain ⟨bn,on,rfl,hNb,hNA⟩:=hN4.resolve_left (fun e=>by rw [e] at hn;simp at hn;omega)
 have HC:Hid (CelAt w b o C):=hCA
 have HN:Hid (∀ j,j<N.length→w.cell? ⟨bn,on+j,none⟩=some (.string (N.getD j noS))):=hNA
 have hni:(n:Int)<4611686018427387904:=by omega
 have hn0:0<(n:Int):=by omega
 clear hne hn hCA hNA hN2
 go_enter Tryz.func63,Tryz.ntmps63
 go_wp2_with fail
 go_loopg [17] n (fun g s17 wr => ∃ (k:Nat),k≤n∧g=n-k∧s17=.int .i64 k∧(∀ j,j<k→goodB C j=false)∧Below w.heap.size w wr)
 case atStart=>exact ⟨0,Nat.zero_le _,rfl,rfl,fun j hj=>absurd hj (Nat.not_lt_zero j),Below.refl _ _⟩
 case round =>
  obtain ⟨k,hk,rfl,rfl,hbd,hBw⟩:=hrel
  have HBd:Hid (∀ j,j<k→goodB C j=false):=hbd
  have HW:Hid (Below w.heap.size w wr):=hBw
  have hbl:b<w.heap.size:=HC.out.1
  have hsz:=hBw.size
  clear hbd hBw
  by_cases hlt:k<n
  ·have hki:(k:Int)<(n:Int):=by omega
   obtain ⟨x0,x1⟩:=(HC.out.later HW.out).2 k (by rw [HCL.out];exact hlt)
   have hck:=check_any (C.getD k noC).1 (C.getD k noC).2
   obtain ⟨kk,hkk⟩:∃ kk,(C.getD k noC).1=kk:=⟨_,rfl⟩
   obtain ⟨nn,hnn⟩:∃ nn,(C.getD k noC).2=nn:=⟨_,rfl⟩
   have HG:Hid (goodB C k = !(good kk nn)):=by show _=_;unfold goodB;rw [hkk,hnn]
   rw [hkk] at x0 hck
   rw [hnn] at x1 hck
   clear hkk hnn
   cases hg:good kk nn
   ·rw [hg] at hck
    have HF:Hid (ckErr N C=1):=ck_cell (by rw [HCL.out,HNL.out]) (i:=k) (by rw [HCL.out];exact hlt) (by rw [HG.out,hg];rfl)
    rw [if_neg (by decide)] at hck
    clear hg
    go_wp2_with fail
    refine (hck _).mono ?_
    rintro e w1 ⟨rfl,hb1⟩
    have HB1:Hid (Below w.heap.size w w1):=onB HW.out (onB (by go_grown) hb1)
    clear hb1 hck
    go_wp2_with fail
    go_ret
    exact ⟨by rw [HF.out];rfl,HB1.out⟩
   ·rw [hg,if_pos rfl] at hck
    have HGd:Hid (goodB C k=false):=by show _=_;rw [HG.out,hg];rfl
    clear hg
    go_wp2_with fail
    refine (hck _).mono ?_
    rintro e w1 ⟨rfl,hb1⟩
    have HB1:Hid (Below w.heap.size w w1):=onB HW.out (onB (by go_grown) hb1)
    clear hb1 hck
    go_wp2_with fail
    go_roundg (n-(k+1))
    case measure=>omega
    case rel=>exact ⟨k+1,by omega,rfl,by go_num,fun j hj=>by rcases Nat.lt_succ_iff_lt_or_eq.1 hj with h | h;exact HBd.out j h;rw [h];exact HGd.out,HB1.out⟩
  ·have hke:k=n:=by omega
   subst hke
   have HAll:Hid (∀ j,j<C.length→goodB C j=false):=fun j hj=>HBd.out j (by have:=HCL.out;omega)
   go_wp2_with fail
   go_loopg [8] k (fun g s8 ws => ∃ (i:Nat),i<k∧g=k-i∧s8=.int .i64 ((i:Int)+1)∧(∀ j,1≤j→j<i+1→downS N j=false)∧Below w.heap.size w ws)
   case atStart=>exact ⟨0,by omega,rfl,rfl,fun j h1 h2=>by omega,HW.out⟩
   case round =>
    obtain ⟨i,hi,rfl,rfl,hbd,hBw⟩:=hrel
    have HDn:Hid (∀ j,1≤j→j<i+1→downS N j=false):=hbd
    have HV:Hid (Below w.heap.size w wr):=hBw
    clear hbd
    by_cases hlt2:i+1<k
    ·have hki:(i:Int)+1<(k:Int):=by omega
     have c1:=(hBw.cell (p:=⟨bn,on+(i+1),none⟩) hNb).trans (HN.out (i+1) (by rw [HNL.out];exact hlt2))
     have c0:=(hBw.cell (p:=⟨bn,on+i,none⟩) hNb).trans (HN.out i (by rw [HNL.out];omega))
     obtain ⟨x,hx⟩:∃ x,N.getD (i+1) noS=x:=⟨_,rfl⟩
     obtain ⟨y,hy⟩:∃ y,N.getD i noS=y:=⟨_,rfl⟩
     have HD:Hid (downS N (i+1)=(Op.bytesLess x.toList y.toList || x.toList == y.toList)):=by show _=_;unfold downS;rw [hx,Nat.add_sub_cancel,hy]
     rw [hx] at c1
     rw [hy] at c0
     have hsub:(i:Int)+1-1=(i:Int):=by omega
     have hto:((i:Int)+1).toNat=i+1:=by omega
     clear hx hy hBw
     cases ht:(Op.bytesLess x.toList y.toList || x.toList == y.toList)
     ·have HDF:Hid (downS N (i+1)=false):=by show _=_;rw [HD.out,ht]
      clear HD
      go_wp2_with fail
      go_quiet (fail)
      have HB2:Hid (Below w.heap.size w (wr.drewN nq)):=below_drewN HV.out _
      go_wp2_with fail
      go_roundg (k-(i+1))
      case measure=>omega
      case rel=>exact ⟨i+1,hlt2,rfl,by go_num,fun j h1 hj=>by rcases Nat.lt_succ_iff_lt_or_eq.1 hj with h | h;exact HDn.out j h1 h;rw [h];exact HDF.out,HB2.out⟩
     ·have HF:Hid (ckErr N C=7):=ck_down (by rw [HCL.out,HNL.out]) HAll.out (i:=i+1) (by omega) (by rw [HNL.out];exact hlt2) (by rw [HD.out,ht])
      clear HD
      go_wp2_with fail
      go_quiet (fail)
      have HB2:Hid (Below w.heap.size w (wr.drewN nq)):=below_drewN HV.out _
      go_wp2_with fail
      go_ret
      exact ⟨by rw [HF.out];rfl,HB2.out⟩
    ·have hie:k=i+1:=by omega
     have HF:Hid (ckErr N C=0):=ck_good (by rw [HCL.out,HNL.out]) HAll.out (fun j h1 hj=>HDn.out j h1 (by have:=HNL.out;omega))
     have hki : ¬ (i:Int)+1<(k:Int):=by omega
     clear hie
     go_wp2_with fail
     go_ret
     exact ⟨by rw [HF.out];rfl,HV.out⟩
theorem first_false (p:Nat→Bool):∀ n,p n=false→∃ k,k≤n∧p k=false∧∀ t,t<k→p t=true:=by
 intro n
 induction n with
 | zero=>intro h;exact ⟨0,Nat.le_refl _,h,fun t ht=>absurd ht (Nat.not_lt_zero _)⟩
 | succ n ih =>
  intro h
  by_cases e:∃ j,j≤n∧p j=false
  ·obtain ⟨j,hj,h1⟩:=e
   clear ih
   have hw:∀ m j,j≤m→p j=false→∃ k,k≤j∧p k=false∧∀ t,t<k→p t=true:=by
    intro m
    induction m with
    | zero=>intro j hj h1;exact ⟨j,Nat.le_refl _,h1,fun t ht=>by omega⟩
    | succ m ih =>
     intro j hj h1
     by_cases e2:∃ i,i<j∧p i=false
     ·obtain ⟨i,hi,h2⟩:=e2
      obtain ⟨k,h3,h4,h5⟩:=ih i (by omega) h2
      exact ⟨k,by omega,h4,h5⟩
     ·refine ⟨j,Nat.le_refl _,h1,fun t ht=>?_⟩
      cases hp:p t
      ·exact absurd ⟨t,ht,hp⟩ e2
      ·rfl
   obtain ⟨k,h2,h3,h4⟩:=hw j j (Nat.le_refl _) h1
   exact ⟨k,by omega,h3,h4⟩
  ·refine ⟨n+1,Nat.le_refl _,h,fun t ht=>?_⟩
   cases hp:p t
   ·exact absurd ⟨t,by omega,hp⟩ e
   ·rfl
theorem not_less (x:ByteArray):Op.bytesLess x.toList x.toList=false:=by
 rw [bytesLess_eq]
 exact decide_eq_false (List.lt_irrefl _)
theorem bs_where {N:List ByteArray} (hr:∀ j,1≤j→j<N.length→downS N j=false) (x:ByteArray) (S:Nat→ByteArray) (hS:S=fun j=>if j<N.length then N.getD j noS else x) :
  (decide (Lib.bsGo (fun t=>Op.bytesLess (S t).toList x.toList) N.length 0 N.length<N.length∧S (Lib.bsGo (fun t=>Op.bytesLess (S t).toList x.toList) N.length 0 N.length)=x)=decide (0≤whereS N x)) ∧
  (0≤whereS N x→(Lib.bsGo (fun t=>Op.bytesLess (S t).toList x.toList) N.length 0 N.length:Int)=whereS N x):=by
 have hup:=rise_all hr
 have s1:∀ j,j<N.length→S j=N.getD j noS:=fun j hj=>by rw [hS];exact if_pos hj
 have s2:∀ j,N.length≤j→S j=x:=fun j hj=>by rw [hS];exact if_neg (by omega)
 obtain ⟨k,hk,h1,h2⟩:=first_false (fun t=>Op.bytesLess (S t).toList x.toList) N.length (by show Op.bytesLess (S N.length).toList x.toList=false;rw [s2 _ (Nat.le_refl _)];exact not_less x)
 have h1':Op.bytesLess (S k).toList x.toList=false:=h1
 have h2':∀ t,t<k→Op.bytesLess (S t).toList x.toList=true:=h2
 have h3:∀ t,k≤t→Op.bytesLess (S t).toList x.toList=false:=by
  intro t ht
  by_cases e:N.length≤t
  ·rw [s2 t e];exact not_less x
  ·by_cases e2:t=k
   ·rw [e2];exact h1'
   ·rw [s1 t (by omega),bytesLess_eq]
    rw [s1 k (by omega),bytesLess_eq] at h1'
    refine decide_eq_false fun h=>of_decide_eq_false h1' (List.lt_trans (hup k t (by omega) (by omega)) h)
 have hbs:Lib.bsGo (fun t=>Op.bytesLess (S t).toList x.toList) N.length 0 N.length=k:=Lib.bsGo_spec _ k h2 h3 _ _ _ (by omega) (Nat.zero_le _) hk
 rw [hbs]
 rcases where_cases N x with ⟨hw,hn⟩ | ⟨i,hw,hi,he⟩
 ·refine ⟨?_,fun h=>by omega⟩
  rw [hw,decide_eq_false (show ¬ (0:Int)≤-1 by omega)]
  refine decide_eq_false fun h=>?_
  rw [s1 k h.1] at h
  exact hn k h.1 h.2
 ·have hki:k=i:=by
   have hle:k≤i:=by
    apply Nat.le_of_not_lt
    intro h
    have:=h2' i h
    rw [s1 i hi,he,not_less] at this
    cases this
   by_cases e:k=i
   ·exact e
   ·have hlt:=hup k i (by omega) hi
    rw [s1 k (by omega),bytesLess_eq] at h1'
    rw [he] at hlt
    exact absurd hlt (of_decide_eq_false h1')
  subst hki
  refine ⟨?_,fun _=>hw.symm⟩
  rw [hw,decide_eq_true (show (0:Int)≤(k:Int) by omega)]
  exact decide_eq_true ⟨hi,by rw [s1 k hi];exact he⟩
theorem bsearch_any (An:Option Addr) (cn:Nat) (N:List ByteArray) (x:ByteArray) (w:World) (hN:NmV w An cn N) (hr:∀ j,1≤j→j<N.length→downS N j=false) :
  Calls Tryz.prog 66 #[.slice An N.length cn,.string x] w fun e w'=>(∃ i:Nat,e=.returned (.tuple #[.int .i64 i,.bool (decide (0≤whereS N x))])∧(0≤whereS N x→(i:Int)=whereS N x))∧Below w.heap.size w w':=by
 obtain ⟨h1,h2,h3,h4 | ⟨b,o,rfl,h5,h6⟩⟩:=hN
 ·subst h4
  refine (Any2.slices_BinarySearch_string_empty Tryz.lays26 An cn x w).mono ?_
  rintro e w' ⟨rfl,rfl⟩
  exact ⟨⟨0,rfl,fun h=>absurd h (by show ¬ (0:Int)≤whereS [] x;unfold whereS;show ¬ (0:Int)≤-1;omega)⟩,Below.refl _ _⟩
 ·obtain ⟨e1,e2⟩:=bs_where hr x (fun j=>if j<N.length then N.getD j noS else x) rfl
  refine (Any2.slices_BinarySearch_string Tryz.lays26 b o N.length cn (fun j=>if j<N.length then N.getD j noS else x) x w h2 (fun j hj=>by simp only [if_pos hj];exact h6 j hj)).mono ?_
  rintro e w' ⟨rfl,q,rfl⟩
  exact ⟨⟨_,by rw [e1],e2⟩,below_drewN (Below.refl _ _) _⟩
def isC (N:List ByteArray) (C:List (Int×Int)) (x:ByteArray):Int×Int:=if 0≤whereS N x then C.getD (whereS N x).toNat noC else noC
def isE (N:List ByteArray) (x:ByteArray):Int:=if 0≤whereS N x then 0 else 5
set_option maxHeartbeats 1000000 in
theorem value1_any (q r:Nat) (An:Option Addr) (cn:Nat) (N:List ByteArray) (Ac:Option Addr) (cc:Nat) (C:List (Int×Int)) (x:ByteArray) (w:World) (hq:w.cell? ⟨q,0,none⟩=some (.slice An N.length cn)) (hrr:w.cell? ⟨r,0,none⟩=some (.slice Ac C.length cc)) (hN:NmV w An cn N) (hC:CelV w Ac cc C) (hck:ckErr N C=0) :
  Calls Tryz.prog 65 #[.string x,.pointer (some ⟨q,0,none⟩),.pointer (some ⟨r,0,none⟩)] w fun e w'=>e=.returned (.tuple #[.agg #[.int .i64 (isC N C x).1,.int .i64 (isC N C x).2],errV (isE N x)])∧Below w.heap.size w w':=by
 obtain ⟨hlen,-,hr⟩:=ck_right hck
 have hbs:=fun w' (hb:Below w.heap.size w w')=>bsearch_any An cn N x w' (hN.later hb) hr
 have hrl:=World.block_lt_of_cell? _ _ hrr
 have hql:=World.block_lt_of_cell? _ _ hq
 simp only at hrl hql
 by_cases h0:0≤whereS N x
 ·rw [decide_eq_true h0] at hbs
  obtain ⟨i,hi,hil,-⟩:∃ i:Nat,whereS N x=(i:Int)∧i<N.length∧N.getD i noS=x:=by
   rcases where_cases N x with ⟨hw,-⟩ | h
   ·omega
   ·exact h
  obtain ⟨-,-,hC3⟩:=hC
  obtain ⟨b,o,rfl,hCA⟩:=hC3.resolve_left (fun e=>by rw [e] at hlen;simp at hlen;omega)
  obtain ⟨c,hc⟩:∃ c,C.getD i noC=c:=⟨_,rfl⟩
  have hic:isC N C x=c:=by unfold isC;rw [if_pos h0,hi];exact hc
  have hie:isE N x=0:=by unfold isE;rw [if_pos h0]
  have HC:Hid (CelAt w b o C):=hCA
  have HI:Hid (∀ j:Nat,(0≤whereS N x→(j:Int)=whereS N x)→j=i):=fun j hj=>by have:=hj h0;omega
  have HCc:Hid (C.getD i noC=c):=hc
  have hil':(i:Int)<(C.length:Int):=by omega
  rw [hic,hie,errV_zero]
  obtain ⟨m,hm⟩:∃ m,C.length=m:=⟨_,rfl⟩
  have HM:Hid (C.length=m):=hm
  rw [hm] at hrr hil'
  clear hck hN hr hi hic hie hC3 hCA h0 hc hm hil hlen
  go_enter Tryz.func65,Tryz.ntmps65
  go_wp2_with fail
  refine (hbs _ (by go_grown)).mono ?_
  rintro e w1 ⟨⟨j,rfl,hj⟩,hb⟩
  have hji:=HI.out j hj
  subst hji
  obtain ⟨hbc,hbf⟩:=bcell hb
  have hz:=bsize hb
  simp at hz
  have hb1:Below w.heap.size w w1:=onB (by go_grown) hb
  clear hb
  obtain ⟨c0,c1⟩:=HC.out.2 j (by rw [HM.out];omega)
  rw [HCc.out] at c0 c1
  have HB1:Hid (Below w.heap.size w w1):=hb1
  have hbl:b<w.heap.size:=HC.out.1
  clear hb1 hbs hq hj
  go_wp2_with fail
  refine bodyPost_ret (v:=.tuple #[.agg #[.int .i64 c.1,.int .i64 c.2],.nilIface]) (by simp [results,Tryz.results65,go_sem,hbc]) rfl ⟨rfl,?_⟩
  exact ((HB1.out.setCell (Nat.le_refl _) _).setCell (Nat.le_refl _) _)
 ·rw [decide_eq_false h0] at hbs
  have hic:isC N C x=noC:=by unfold isC;rw [if_neg h0]
  have hie:isE N x=5:=by unfold isE;rw [if_neg h0]
  rw [hic,hie,errV_some (by decide)]
  unfold noC
  clear hck hN hr hic hie hC hlen
  go_enter Tryz.func65,Tryz.ntmps65
  go_wp2_with fail
  refine (hbs _ (by go_grown)).mono ?_
  rintro e w1 ⟨⟨j,rfl,hj⟩,hb⟩
  obtain ⟨hbc,hbf⟩:=bcell hb
  have hz:=bsize hb
  simp at hz
  have hb1:Below w.heap.size w w1:=onB (by go_grown) hb
  have HB1:Hid (Below w.heap.size w w1):=hb1
  clear hb hb1 hbs hq hj h0
  go_wp2_with fail
  refine bodyPost_ret (v:=.tuple #[.agg #[.int .i64 0,.int .i64 0],.iface 66 (.int .i64 5)]) (by simp [results,Tryz.results65,go_sem,hbc]) rfl ⟨rfl,?_⟩
  first | exact HB1.out | exact ((HB1.out.setCell (Nat.le_refl _) _).setCell (Nat.le_refl _) _)
end Go.Proofs.YtaodedckffjpgagGreatDoor
