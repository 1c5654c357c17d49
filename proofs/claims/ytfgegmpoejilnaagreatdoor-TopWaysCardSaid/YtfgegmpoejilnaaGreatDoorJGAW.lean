/-
  By which dim a place is told, as the document tells it, in whatever memory.
-/
import Derived.WalkSpells
import Derived.WalkLawsBesides
import Derived.Maps.AppendAt
import Derived.Deep.CutRange
import Derived.Deep.RegionHeld
import Derived.Laws.AppendOwnNone
import Derived.Test.YtfgegmpoejilnaaGreatDoorShelfG
import Derived.Laws.Cover1
import Derived.Test.YtfgegmpoejilnaaGreatDoorJGAV
namespace Go.Proofs.YtfgegmpoejilnaaGreatDoor
open Go.ChangeShapes Go.WideShapes Go.ChangeAt Go.RowKit
set_option maxRecDepth 20000
theorem by_hit {D:Nat→Dm} {p:List Int} {k:Nat} (h1:leafB (D k).mem (D k).n (p.getD k 0).toNat=false) (h2:byTo D p k<0∨(D (byTo D p k).toNat).solve<(D k).solve):byTo D p (k+1)=(k:Int):=by rw [byTo,if_pos ⟨h1,h2⟩]
theorem by_miss {D:Nat→Dm} {p:List Int} {k:Nat} (h : ¬ (leafB (D k).mem (D k).n (p.getD k 0).toNat=false∧(byTo D p k<0∨(D (byTo D p k).toNat).solve<(D k).solve))):byTo D p (k+1)=byTo D p k:=by rw [byTo,if_neg h]
noncomputable def badD (D:Nat→Dm) (i:Nat):Bool:=decide ((rErr (D i)).2≠0)
noncomputable def ruErr (D:Nat→Dm) (n:Nat):Int×Int×Int :=
 if (allErr D n).2.2≠0 then allErr D n
 else if 0≤findFrom (badD D) n 0 then (findFrom (badD D) n 0,rErr (D (findFrom (badD D) n 0).toNat))
 else (-1,-1,0)
theorem ru0 {D:Nat→Dm} {n:Nat} (h:(allErr D n).2.2≠0):ruErr D n=allErr D n:=by unfold ruErr;rw [if_pos h]
theorem ru1 {D:Nat→Dm} {n i:Nat} (h:(allErr D n).2.2=0) (hi:i<n) (hb:(rErr (D i)).2≠0) (hf:∀ j,j<i→(rErr (D j)).2=0):ruErr D n=((i:Int),(rErr (D i)).1,(rErr (D i)).2):=by
 have e:findFrom (badD D) n 0=(i:Int):=findFrom_at (Nat.zero_le _) (by omega) (decide_eq_true hb) fun j _ hj=>decide_eq_false (by simpa using hf j hj)
 unfold ruErr
 rw [if_neg (by simpa using h),e,if_pos (by omega),Int.toNat_natCast]
theorem ru2 {D:Nat→Dm} {n:Nat} (h:(allErr D n).2.2=0) (hf:∀ j,j<n→(rErr (D j)).2=0):ruErr D n=(-1,-1,0):=by
 unfold ruErr
 rw [if_neg (by simpa using h),findFrom_none (p:=badD D) fun j _ hj=>decide_eq_false (by simpa using hf j (by omega)),if_neg (by omega)]
set_option maxHeartbeats 4000000 in
theorem rulall_any (A0:Option Addr) (cap n:Nat) (D:Nat→Dm) (A:Nat→Option Addr) (C:Nat→Nat) (w:World) (hM:DimsV w A0 cap n D A C):Calls Tryz.prog 49 #[.agg #[.slice A0 n cap]] w fun e w'=>e=.returned (.tuple #[.int .i64 (ruErr D n).1,.int .i64 (ruErr D n).2.1,errV (ruErr D n).2.2])∧Below w.heap.size w w':=by
 have hB0:=ownOut_below w A0 n cap 24
 have hS:=ownOut_size w A0 n cap 24
 have hA:=ownOut_at w A0 n cap 24
 have hal:=all_any A0 cap n D A C (ownOut w A0 n cap 24) (hM.later hB0)
 obtain ⟨W,hW⟩:∃ W,ownOut w A0 n cap 24=W:=⟨_,rfl⟩
 rw [hW] at hB0 hS hA hal
 unfold ownOut at hW
 have HB0:Hid (Below w.heap.size w W):=hB0
 have HM:Hid (DimsV w A0 cap n D A C):=hM
 have hsz:w.heap.size<W.heap.size:=by omega
 clear hM hB0
 by_cases he:(allErr D n).2.2=0
 case neg =>
  rw [ru0 he]
  rw [errV_some he] at hal ⊢
  generalize (allErr D n).1=x at hal ⊢
  generalize (allErr D n).2.1=y at hal ⊢
  generalize (allErr D n).2.2=c at hal ⊢
  clear he
  go_enter Tryz.func49,Tryz.ntmps49
  go_wp2_with fail
  refine hal.mono ?_
  rintro e w1 ⟨rfl,hb1⟩
  go_wp2_with fail
  go_returns
  exact ⟨rfl,onB HB0.out hb1⟩
 obtain ⟨hn1,hn4,-,-⟩:=allErr_some he
 have HE:Hid ((allErr D n).2.2=0):=he
 rw [he,errV_zero] at hal
 generalize (allErr D n).1=x at hal
 generalize (allErr D n).2.1=y at hal
 have hnI:(n:Int)≤4:=by omega
 have HA:Hid (W.cell? ⟨w.heap.size,0,none⟩=some (.slice A0 n cap)):=hA
 clear he
 go_enter Tryz.func49,Tryz.ntmps49
 go_wp2_with fail
 refine hal.mono ?_
 rintro e w1 ⟨rfl,hb1⟩
 have HB1:Hid (Below W.heap.size W w1):=hb1
 have c1:w1.cell? ⟨w.heap.size,0,none⟩=some (.slice A0 n cap):=(hb1.cell (p:=⟨w.heap.size,0,none⟩) hsz).trans hA
 have hsz1:w.heap.size<w1.heap.size:=Nat.lt_of_lt_of_le hsz hb1.size
 clear hb1 hal hA hW
 go_wp2_with fail
 go_loopg [26] n (fun g s26 wr => ∃ (k:Nat),k≤n∧g=n-k∧s26=.int .i64 k∧Hid (∀ j,j<k→(rErr (D j)).2=0)∧Below W.heap.size W wr)
 case atStart=>exact ⟨0,Nat.zero_le _,rfl,rfl,(fun j hj=>absurd hj (Nat.not_lt_zero _):∀ j,j<0→_),HB1.out⟩
 case round =>
  obtain ⟨k,hk,rfl,rfl,HK,hBw⟩:=hrel
  have HBw:Hid (Below W.heap.size W wr):=hBw
  by_cases hlt:k<n
  ·have hki:(k:Int)<(n:Int):=by omega
   obtain ⟨hcap,h0 | ⟨b,o,rfl,hMs⟩⟩:=HM.out.later (onB HB0.out hBw)
   ·omega
   have hcapI:(n:Int)≤(cap:Int):=by omega
   obtain ⟨h0,h1,h2,h3⟩:=hMs.2 k hlt
   have hbl:b<wr.heap.size:=hMs.1
   have hBo:=ownDim_below wr (D k) (A k) (C k) 30
   have hck:=rcheck_any (D k) (A k) (C k) (ownDim wr (D k) (A k) (C k) 30) (h3.later hBo)
   obtain ⟨d0,d1,d2,hqW⟩:=dim_cells (w:=wr) (d:=D k) (A:=A k) (cap:=C k) (Below.refl _ _)
   have HBo:Hid (Below wr.heap.size wr (ownDim wr (D k) (A k) (C k) 30)):=hBo
   unfold dimV at hck
   obtain ⟨W2,hW2⟩:∃ W2,ownDim wr (D k) (A k) (C k) 30=W2:=⟨_,rfl⟩
   rw [hW2] at d0 d1 d2 hqW HBo hck
   unfold ownDim at hW2
   clear h3 hMs hBo hBw
   by_cases he:(rErr (D k)).2=0
   ·rw [he,errV_zero] at hck
    have HK2:Hid (∀ j,j<k+1→(rErr (D j)).2=0):=fun j hj=>by
     by_cases e:j=k
     ·rw [e];exact he
     ·exact HK.out j (by omega)
    generalize (rErr (D k)).1=z at hck
    clear he
    go_wp2_with fail
    refine hck.mono ?_
    rintro e w2 ⟨rfl,hb2⟩
    have HB2:Hid (Below W.heap.size W w2):=onB HBw.out (onB HBo.out hb2)
    clear hb2 hck
    go_wp2_with fail
    go_roundg (n-(k+1))
    case measure=>omega
    case rel=>exact ⟨k+1,by omega,rfl,by go_num,HK2,HB2.out⟩
   ·have HRu:Hid (ruErr D n=((k:Int),(rErr (D k)).1,(rErr (D k)).2)):=ru1 HE.out hlt he HK.out
    have HEe:Hid ((rErr (D k)).2≠0):=he
    rw [errV_some he] at hck
    generalize (rErr (D k)).1=z at hck HRu
    generalize (rErr (D k)).2=c at hck HRu HEe
    clear he
    go_wp2_with fail
    refine hck.mono ?_
    rintro e w2 ⟨rfl,hb2⟩
    have HB2:Hid (Below W.heap.size W w2):=onB HBw.out (onB HBo.out hb2)
    clear hb2 hck
    go_wp2_with fail
    go_returns
    rw [HRu.out]
    exact ⟨by rw [errV_some HEe.out];rfl,onB HB0.out HB2.out⟩
  ·have hke:k=n:=by omega
   subst hke
   have HRu:Hid (ruErr D k=(-1,-1,0)):=ru2 HE.out HK.out
   clear hBw
   go_wp2_with fail
   go_returns
   rw [HRu.out]
   exact ⟨rfl,onB HB0.out HBw.out⟩
end Go.Proofs.YtfgegmpoejilnaaGreatDoor
namespace Go.Proofs.YtfgegmpoejilnaaGreatDoor
open Go.ChangeShapes Go.WideShapes Go.ChangeAt Go.RowKit Go.Lib
set_option maxRecDepth 20000
def Edited (M:Nat) (w:World) (g:Nat) (E:Int) (l:List En) (e:Ending) (w':World):Prop :=
 (∃ B c ys,e=.returned (.tuple #[.slice B ys.length c,errV E])∧((E≠0∧B=none∧c=0∧ys=[])∨(E=0∧∃ g',B=some ⟨g',0,none⟩∧g≤g'∧RowE w' g' c ys∧lE ys=l∧NewE M ys)))∧w.grownBy w' (some g)
theorem edit_set (D:Nat→Dm) (n:Nat) (l:List En) (p:List Int) (N:Int):editErr D n l ⟨p,N,false⟩=entOne D n ⟨p,N⟩:=by
 unfold editErr entOne
 rfl
set_option maxHeartbeats 8000000 in
theorem iset1_any {M:Nat} (A0:Option Addr) (cap n:Nat) (D:Nat→Dm) (A:Nat→Option Addr) (C:Nat→Nat) (g cg:Nat) (xs:List EnL) (Ap:Option Addr) (cp:Nat) (p:List Int) (N:Int) (w:World) (hM:DimsV w A0 cap n D A C) (hP:PlAt w Ap cp p) (hR:RowE w g cg xs) (hEs:Ens D n (lE xs)) (hMx:NewE M xs) (hMw:M≤w.heap.size) :
  Calls Tryz.prog 75 #[.agg #[.slice A0 n cap],.slice (some ⟨g,0,none⟩) xs.length cg,.agg #[.slice Ap p.length cp,.int .i64 N]] w fun e w'=>Edited M w g (editErr D n (lE xs) ⟨p,N,false⟩) (setL (lE xs) p N) e w':=by
 rw [edit_set]
 have hB0:=ownOE_below w A0 n cap Ap p.length cp N
 have h:=icheck1_any A0 cap n D A C Ap cp ⟨p,N⟩ (ownOE w A0 n cap Ap p.length cp N) hEs.right (hM.later hB0) (hP.later hB0)
 have HB0:Hid (Below w.heap.size w (ownOE w A0 n cap Ap p.length cp N)):=hB0
 have hS0:=ownOE_size w A0 n cap Ap p.length cp N
 have h00:=ownOE_0 w A0 n cap Ap p.length cp N
 have h01:=ownOE_1 w A0 n cap Ap p.length cp N
 have HP:Hid (PlAt w Ap cp p):=hP
 have HR:Hid (RowE w g cg xs):=hR
 have HEs:Hid (Ens D n (lE xs)):=hEs
 have hgw:g<w.heap.size:=hR.lt
 have hfew:=few_of hEs
 unfold Edited
 clear hM hP hB0 hR
 by_cases he:entOne D n ⟨p,N⟩=0
 ·obtain ⟨hI,-,-⟩:=entOne_right hEs.right he
  have HF:Hid (∀ w',Below w.heap.size w w'→Calls Tryz.prog 108 #[.slice (some ⟨g,0,none⟩) xs.length cg,.slice Ap p.length cp] w' fun e w''=>e=.returned (.tuple #[.int .i64 (cntE (lE xs) p:Nat),.bool (hasE (lE xs) p)])∧Below w'.heap.size w' w''):=fun w' hw'=>ifind_any _ _ xs Ap cp p w' hfew ((HR.out.later hw').ensV) HEs.out.rise (short_of HEs.out hI) (HP.out.later hw')
  have HCl:Hid (∀ w',Below w.heap.size w w'→Calls Tryz.prog 59 #[.slice Ap p.length cp] w' fun e w''=>(∃ A' c',e=.returned (.slice A' p.length c')∧PlTy w'' A' c' p∧NewA M A')∧Below w'.heap.size w' w''):=fun w' hw'=>(clone_new _ _ _ w' (inO_short hI) (HP.out.later hw')).mono fun _ _ ⟨⟨A',c',h1,h2,h3⟩,h4⟩=>⟨⟨A',c',h1,h2,h3.le (Nat.le_trans hMw hw'.size)⟩,h4⟩
  have hcl:=cnt_le (lE xs) p
  rw [lE_len] at hcl
  rw [he,errV_zero] at h ⊢
  clear he hI
  cases hh:hasE (lE xs) p
  ·-- nothing stood there
   have HIn:Hid (∀ (w3:World) (A':Option Addr) (c':Nat),Below w.heap.size w w3→PlTy w3 A' c' p∧NewA M A'→Calls Tryz.prog 110 #[.slice (some ⟨g,0,none⟩) xs.length cg,.int .i64 (cntE (lE xs) p:Nat),.slice (some ⟨w3.heap.size,0,none⟩) 1 1] (ownEn w3 A' p.length c' N 63) fun e w' => ∃ g' cap' ys,e=.returned (.slice (some ⟨g',0,none⟩) (xs.length+1) cap')∧ys.length=xs.length+1∧RowE w' g' cap' ys∧lE ys=setL (lE xs) p N∧NewE M ys∧g≤g'∧(ownEn w3 A' p.length c' N 63).grownBy w' (some g)):=fun w3 A' c' hw' hT=>by
    have hb:=ownEn_below w3 A' p.length c' N 63
    have h1:=insert_any g cg (cntE (lE xs) p) w3.heap.size xs ⟨⟨p,N⟩,A',c'⟩ (ownEn w3 A' p.length c' N 63) hfew hcl (by have:=hw'.size;omega) ((HR.out.later hw').later hb) (hT.1.later hb) (heap_alloc_new w3 _)
    refine h1.mono ?_
    rintro e w' ⟨g',cap',rfl,hRow,hgg,hgr⟩
    exact ⟨g',cap',_,rfl,by simp;omega,hRow,by rw [lE_ins,set_new hh],hMx.put hT.2,hgg,hgr⟩
   have HFF:Hid (∀ w',Below w.heap.size w w'→Calls Tryz.prog 108 #[.slice (some ⟨g,0,none⟩) xs.length cg,.slice Ap p.length cp] w' fun e w''=>e=.returned (.tuple #[.int .i64 (cntE (lE xs) p:Nat),.bool false])∧Below w'.heap.size w' w''):=fun w' hw'=>by have h1:=HF.out w' hw';rw [hh] at h1;exact h1
   clear HF hh
   generalize cntE (lE xs) p=i at HFF HIn hcl
   obtain ⟨m,hm⟩:∃ m,p.length=m:=⟨_,rfl⟩
   obtain ⟨nx,hnx⟩:∃ nx,xs.length=nx:=⟨_,rfl⟩
   rw [hm] at h HB0 hS0 h00 h01 HCl HFF HIn ⊢
   rw [hnx] at HFF HIn hfew hcl ⊢
   clear hm hnx
   go_enter Tryz.func75,Tryz.ntmps75
   go_wp2_with fail
   refine h.mono ?_
   rintro e w1 ⟨rfl,hb1⟩
   have hB1:Below w.heap.size w w1:=onB HB0.out hb1
   have HB1:Hid (Below w.heap.size w w1):=hB1
   have c0:w1.cell? ⟨w.heap.size+1,0,none⟩=some (.slice Ap m cp):=(hb1.cell (p:=⟨w.heap.size+1,0,none⟩) (by show w.heap.size+1<_;omega)).trans h00
   have c1:w1.cell? ⟨w.heap.size+1,1,none⟩=some (.int .i64 N):=(hb1.cell (p:=⟨w.heap.size+1,1,none⟩) (by show w.heap.size+1<_;omega)).trans h01
   have hz1:w.heap.size+1<w1.heap.size:=by have:=hb1.size;omega
   have h2:=HFF.out w1 hB1
   clear hb1 h hB1 h00 h01 hS0
   go_wp2_with fail
   refine h2.mono ?_
   rintro e w2 ⟨rfl,hb2⟩
   have HB2:Hid (Below w.heap.size w w2):=onB HB1.out hb2
   have d0:w2.cell? ⟨w.heap.size+1,0,none⟩=some (.slice Ap m cp):=(hb2.cell (p:=⟨w.heap.size+1,0,none⟩) hz1).trans c0
   have d1:w2.cell? ⟨w.heap.size+1,1,none⟩=some (.int .i64 N):=(hb2.cell (p:=⟨w.heap.size+1,1,none⟩) hz1).trans c1
   have HBox:Hid (w.heap.size+1<w2.heap.size∧w.heap.size+1≠g∧w2.cell? ⟨w.heap.size+1,0,none⟩=some (.slice Ap m cp)∧w2.cell? ⟨w.heap.size+1,1,none⟩=some (.int .i64 N)):=⟨Nat.lt_of_lt_of_le hz1 hb2.size,by omega,d0,d1⟩
   clear hb2 c0 c1 h2 d0 d1
   go_wp2_with fail
   go_region_held3 (fun w'=>w2.grownBy w' (some g)∧w'.cell? ⟨w.heap.size+1,0,none⟩=some (.slice Ap m cp)∧w'.cell? ⟨w.heap.size+1,1,none⟩=some (.int .i64 N))
    ((refine keepG HBox.out ?_;(repeat (first | exact grown_refl _ _ | assumption | refine grown_drew ?_ | refine grown_set ?_ _ _ | refine grown_new ?_ _));done))
    (first | (go_at_call 59;refine (HCl.out _ (onB HB2.out (by go_grown))).mono ?_;rintro e w3 ⟨⟨A',c',rfl,hPT,hNw⟩,hb3⟩;have hN3:=onB (W0:=w2) (by go_grown) hb3;have hG3:w2.grownBy w3 (some g):=grown_below hN3;have HB3:Hid (Below w2.heap.size w2 w3):=hN3;have HPT:Hid (PlTy w3 A' c' p∧NewA M A'):=⟨hPT,hNw⟩;clear hb3 hN3 hPT hNw) | (go_at_call 110;refine (HIn.out w3 A' c' (onB HB2.out HB3.out) HPT.out).mono ?_;rintro e w4 ⟨g',cap',ys,rfl,hyl,hRow,hle,hnw,hgg,hgr⟩;have hG4:w2.grownBy w4 (some g):=grown_trans (grown_trans hG3 (grown_below (ownEn_below ..))) hgr;have HRow:Hid (RowE w4 g' cap' ys):=hRow;have HLE:Hid (lE ys=setL (lE xs) p N∧NewE M ys):=⟨hle,hnw⟩;have HYL:Hid (ys.length=nx+1):=hyl;clear hRow hle hgr hyl hnw))
   go_wp2_with fail
   go_ret2
   exact ⟨⟨some ⟨g',0,none⟩,cap',ys,by rw [HYL.out];rfl,Or.inr ⟨by trivial,g',rfl,hgg,HRow.out,HLE.out⟩⟩,grown_trans (grown_below HB2.out) hG4⟩
  ·-- something stood there
   obtain ⟨hso,hil,-⟩:=set_old hh N
   have HSN:Hid (∀ w',Below w.heap.size w w'→RowE (w'.setCell ⟨g,cntE (lE xs) p*2+1,none⟩ (.int .i64 N)) g cg (xs.set (cntE (lE xs) p) ⟨⟨(xs.getD (cntE (lE xs) p) noL).e.pl,N⟩,(xs.getD (cntE (lE xs) p) noL).A,(xs.getD (cntE (lE xs) p) noL).c⟩)∧w'.grownBy (w'.setCell ⟨g,cntE (lE xs) p*2+1,none⟩ (.int .i64 N)) (some g)):=fun w' hw'=>(HR.out.later hw').setN (by rw [lE_len] at hil;exact hil) N
   have HLE:Hid (lE (xs.set (cntE (lE xs) p) ⟨⟨(xs.getD (cntE (lE xs) p) noL).e.pl,N⟩,(xs.getD (cntE (lE xs) p) noL).A,(xs.getD (cntE (lE xs) p) noL).c⟩)=setL (lE xs) p N∧NewE M (xs.set (cntE (lE xs) p) ⟨⟨(xs.getD (cntE (lE xs) p) noL).e.pl,N⟩,(xs.getD (cntE (lE xs) p) noL).A,(xs.getD (cntE (lE xs) p) noL).c⟩)):=⟨by rw [lE_set,hso,lE_at],hMx.set (by rw [lE_len] at hil;exact hil) _ _⟩
   have HFF:Hid (∀ w',Below w.heap.size w w'→Calls Tryz.prog 108 #[.slice (some ⟨g,0,none⟩) xs.length cg,.slice Ap p.length cp] w' fun e w''=>e=.returned (.tuple #[.int .i64 (cntE (lE xs) p:Nat),.bool true])∧Below w'.heap.size w' w''):=fun w' hw'=>by have h1:=HF.out w' hw';rw [hh] at h1;exact h1
   have HYL:Hid ((xs.set (cntE (lE xs) p) ⟨⟨(xs.getD (cntE (lE xs) p) noL).e.pl,N⟩,(xs.getD (cntE (lE xs) p) noL).A,(xs.getD (cntE (lE xs) p) noL).c⟩).length=xs.length):=List.length_set
   rw [lE_len] at hil
   clear HF hh hso
   generalize xs.set (cntE (lE xs) p) ⟨⟨(xs.getD (cntE (lE xs) p) noL).e.pl,N⟩,(xs.getD (cntE (lE xs) p) noL).A,(xs.getD (cntE (lE xs) p) noL).c⟩=ys at HSN HLE HYL
   generalize cntE (lE xs) p=i at HFF HSN hcl hil
   obtain ⟨m,hm⟩:∃ m,p.length=m:=⟨_,rfl⟩
   obtain ⟨nx,hnx⟩:∃ nx,xs.length=nx:=⟨_,rfl⟩
   rw [hm] at h HB0 hS0 h00 h01 HCl HFF ⊢
   rw [hnx] at HFF hfew hcl hil HYL ⊢
   have hil':(i:Int)<(nx:Int):=by omega
   have hcg:nx≤cg:=by rw [←hnx];exact HR.out.2.1
   clear hm hnx HCl
   go_enter Tryz.func75,Tryz.ntmps75
   go_wp2_with fail
   refine h.mono ?_
   rintro e w1 ⟨rfl,hb1⟩
   have hB1:Below w.heap.size w w1:=onB HB0.out hb1
   have HB1:Hid (Below w.heap.size w w1):=hB1
   have c0:w1.cell? ⟨w.heap.size+1,0,none⟩=some (.slice Ap m cp):=(hb1.cell (p:=⟨w.heap.size+1,0,none⟩) (by show w.heap.size+1<_;omega)).trans h00
   have c1:w1.cell? ⟨w.heap.size+1,1,none⟩=some (.int .i64 N):=(hb1.cell (p:=⟨w.heap.size+1,1,none⟩) (by show w.heap.size+1<_;omega)).trans h01
   have hz1:w.heap.size+1<w1.heap.size:=by have:=hb1.size;omega
   have h2:=HFF.out w1 hB1
   clear hb1 h hB1 h00 h01 hS0
   go_wp2_with fail
   refine h2.mono ?_
   rintro e w2 ⟨rfl,hb2⟩
   have hB2:Below w.heap.size w w2:=onB HB1.out hb2
   have HB2:Hid (Below w.heap.size w w2):=hB2
   have d1:w2.cell? ⟨w.heap.size+1,1,none⟩=some (.int .i64 N):=(hb2.cell (p:=⟨w.heap.size+1,1,none⟩) hz1).trans c1
   obtain ⟨u,hu⟩:=Option.isSome_iff_exists.1 ((HR.out.later hB2).full (j:=i*2+1) (by omega))
   have hf:=(HR.out.later hB2).frozen (i*2+1)
   clear hb2 c0 c1 h2 hB2
   go_wp2_with fail
   go_ret2
   obtain ⟨r1,r2⟩:=HSN.out w2 HB2.out
   exact ⟨⟨some ⟨g,0,none⟩,cg,ys,by rw [HYL.out];rfl,Or.inr ⟨by trivial,g,rfl,Nat.le_refl _,r1,HLE.out⟩⟩,grown_trans (grown_below HB2.out) r2⟩
 ·have HV:Hid (errV (entOne D n ⟨p,N⟩)=.iface 95 (.int .i64 (entOne D n ⟨p,N⟩))):=errV_some he
  rw [errV_some he] at h
  have HE:Hid (entOne D n ⟨p,N⟩≠0):=he
  generalize entOne D n ⟨p,N⟩=E at h HV HE
  generalize p.length=m at h HB0
  generalize xs.length=nx
  clear he hS0 h00 h01 hfew
  go_enter Tryz.func75,Tryz.ntmps75
  go_wp2_with fail
  refine h.mono ?_
  rintro e w1 ⟨rfl,hb1⟩
  have HB1:Hid (Below w.heap.size w w1):=onB HB0.out hb1
  clear hb1
  go_wp2_with fail
  go_ret2
  rw [HV.out]
  exact ⟨⟨none,0,[],rfl,Or.inl ⟨HE.out,rfl,rfl,rfl⟩⟩,grown_below HB1.out⟩
theorem edit_clr {D:Nat→Dm} {n:Nat} {l:List En} (hR:(allErr D n).2.2=0) (p:List Int) (N:Int):editErr D n l ⟨p,N,true⟩=if placeErr D n p≠0 then placeErr D n p else if hasE l p=true then 0 else 5:=by
 rw [pe1 hR]
 unfold editErr
 rfl
theorem clr_in {l:List En} {p:List Int} (h:hasE l p=true):cntE l p<l.length:=(set_old h 0).2.1
set_option maxHeartbeats 8000000 in
theorem without_any {M:Nat} (A0:Option Addr) (cap n:Nat) (D:Nat→Dm) (A:Nat→Option Addr) (C:Nat→Nat) (g cg:Nat) (xs:List EnL) (Ap:Option Addr) (cp:Nat) (p:List Int) (N:Int) (w:World) (hM:DimsV w A0 cap n D A C) (hP:PlAt w Ap cp p) (hR:RowE w g cg xs) (hEs:Ens D n (lE xs)) (hMx:NewE M xs) :
  Calls Tryz.prog 74 #[.agg #[.slice A0 n cap],.slice (some ⟨g,0,none⟩) xs.length cg,.slice Ap p.length cp] w fun e w'=>Edited M w g (editErr D n (lE xs) ⟨p,N,true⟩) (clrL (lE xs) p) e w':=by
 have hV:=edit_clr (l:=lE xs) hEs.right p N
 have hB0:=ownOut_below w A0 n cap 24
 have h:=pcheck_any A0 cap n D A C Ap cp p (ownOut w A0 n cap 24) (hM.later hB0) (hP.later hB0)
 have HB0:Hid (Below w.heap.size w (ownOut w A0 n cap 24)):=hB0
 have HP:Hid (PlAt w Ap cp p):=hP
 have HR:Hid (RowE w g cg xs):=hR
 have HEs:Hid (Ens D n (lE xs)):=hEs
 have hfew:=few_of hEs
 unfold Edited
 clear hM hP hB0 hR
 by_cases hp:placeErr D n p=0
 ·rw [if_neg (by simpa using hp)] at hV
  have hI:=inO_of hp
  have HF:Hid (∀ w',Below w.heap.size w w'→Calls Tryz.prog 108 #[.slice (some ⟨g,0,none⟩) xs.length cg,.slice Ap p.length cp] w' fun e w''=>e=.returned (.tuple #[.int .i64 (cntE (lE xs) p:Nat),.bool (hasE (lE xs) p)])∧Below w'.heap.size w' w''):=fun w' hw'=>ifind_any _ _ xs Ap cp p w' hfew ((HR.out.later hw').ensV) HEs.out.rise (short_of HEs.out hI) (HP.out.later hw')
  rw [hp,errV_zero] at h
  clear hp hI
  cases hh:hasE (lE xs) p
  ·rw [hh,if_neg (by simp)] at hV
   have HV:Hid (errV (editErr D n (lE xs) ⟨p,N,true⟩)=.iface 95 (.int .i64 5)∧editErr D n (lE xs) ⟨p,N,true⟩≠0):=by rw [hV];exact ⟨rfl,by decide⟩
   have HFF:Hid (∀ w',Below w.heap.size w w'→Calls Tryz.prog 108 #[.slice (some ⟨g,0,none⟩) xs.length cg,.slice Ap p.length cp] w' fun e w''=>e=.returned (.tuple #[.int .i64 (cntE (lE xs) p:Nat),.bool false])∧Below w'.heap.size w' w''):=fun w' hw'=>by have h1:=HF.out w' hw';rw [hh] at h1;exact h1
   clear HF hh hV
   generalize cntE (lE xs) p=i at HFF
   generalize editErr D n (lE xs) ⟨p,N,true⟩=E at HV
   obtain ⟨m,hm⟩:∃ m,p.length=m:=⟨_,rfl⟩
   obtain ⟨nx,hnx⟩:∃ nx,xs.length=nx:=⟨_,rfl⟩
   rw [hm] at h HFF ⊢
   rw [hnx] at HFF hfew ⊢
   clear hm hnx
   go_enter Tryz.func74,Tryz.ntmps74
   go_wp2_with fail
   refine h.mono ?_
   rintro e w1 ⟨rfl,hb1⟩
   have hB1:Below w.heap.size w w1:=onB HB0.out hb1
   have HB1:Hid (Below w.heap.size w w1):=hB1
   have h2:=HFF.out w1 hB1
   clear hb1 h hB1
   go_wp2_with fail
   refine h2.mono ?_
   rintro e w2 ⟨rfl,hb2⟩
   have HB2:Hid (Below w.heap.size w w2):=onB HB1.out hb2
   clear hb2 h2
   go_wp2_with fail
   go_ret2
   rw [HV.out.1]
   exact ⟨⟨none,0,[],rfl,Or.inl ⟨HV.out.2,rfl,rfl,rfl⟩⟩,grown_below HB2.out⟩
  ·rw [hh,if_pos rfl] at hV
   have hil:=clr_in hh
   rw [lE_len] at hil
   have HDel:Hid (∀ w',Below w.heap.size w w'→Calls Tryz.prog 109 #[.slice (some ⟨g,0,none⟩) xs.length cg,.int .i64 (cntE (lE xs) p:Nat),.int .i64 ((cntE (lE xs) p:Int)+1)] w' fun e w''=>e=.returned (.slice (some ⟨g,0,none⟩) (xs.length-1) cg)∧RowE w'' g cg (xs.take (cntE (lE xs) p) ++ xs.drop (cntE (lE xs) p+1))∧w'.grownBy w'' (some g)):=fun w' hw'=>delete_any g cg (cntE (lE xs) p) xs w' hfew hil (HR.out.later hw')
   have HLE:Hid (lE (xs.take (cntE (lE xs) p) ++ xs.drop (cntE (lE xs) p+1))=clrL (lE xs) p∧NewE M (xs.take (cntE (lE xs) p) ++ xs.drop (cntE (lE xs) p+1))):=⟨by unfold clrL;rw [lE_append,lE_take,lE_drop],hMx.cut⟩
   have HYL:Hid ((xs.take (cntE (lE xs) p) ++ xs.drop (cntE (lE xs) p+1)).length=xs.length-1):=by show _=_;simp;omega
   have HFF:Hid (∀ w',Below w.heap.size w w'→Calls Tryz.prog 108 #[.slice (some ⟨g,0,none⟩) xs.length cg,.slice Ap p.length cp] w' fun e w''=>e=.returned (.tuple #[.int .i64 (cntE (lE xs) p:Nat),.bool true])∧Below w'.heap.size w' w''):=fun w' hw'=>by have h1:=HF.out w' hw';rw [hh] at h1;exact h1
   rw [hV,errV_zero]
   clear HF hh hV
   generalize hys:xs.take (cntE (lE xs) p) ++ xs.drop (cntE (lE xs) p+1)=ys at HDel HLE HYL
   clear hys
   generalize cntE (lE xs) p=i at HFF HDel hil
   obtain ⟨m,hm⟩:∃ m,p.length=m:=⟨_,rfl⟩
   obtain ⟨nx,hnx⟩:∃ nx,xs.length=nx:=⟨_,rfl⟩
   rw [hm] at h HFF ⊢
   rw [hnx] at HFF HDel hfew hil HYL ⊢
   have hil':(i:Int)<(nx:Int):=by omega
   clear hm hnx
   go_enter Tryz.func74,Tryz.ntmps74
   go_wp2_with fail
   refine h.mono ?_
   rintro e w1 ⟨rfl,hb1⟩
   have hB1:Below w.heap.size w w1:=onB HB0.out hb1
   have HB1:Hid (Below w.heap.size w w1):=hB1
   have h2:=HFF.out w1 hB1
   clear hb1 h hB1
   go_wp2_with fail
   refine h2.mono ?_
   rintro e w2 ⟨rfl,hb2⟩
   have hB2:Below w.heap.size w w2:=onB HB1.out hb2
   have HB2:Hid (Below w.heap.size w w2):=hB2
   have h3:=HDel.out w2 hB2
   clear hb2 h2 hB2
   go_wp2_with fail
   refine h3.mono ?_
   rintro e w3 ⟨rfl,hRow,hgr⟩
   have HRow:Hid (RowE w3 g cg ys):=hRow
   have HG:Hid (w2.grownBy w3 (some g)):=hgr
   clear hRow hgr h3
   go_wp2_with fail
   go_ret2
   exact ⟨⟨some ⟨g,0,none⟩,cg,ys,by rw [HYL.out];rfl,Or.inr ⟨by trivial,g,rfl,Nat.le_refl _,HRow.out,HLE.out⟩⟩,grown_trans (grown_below HB2.out) HG.out⟩
 ·rw [if_pos (by simpa using hp)] at hV
  have HV:Hid (errV (editErr D n (lE xs) ⟨p,N,true⟩)=.iface 95 (.int .i64 (placeErr D n p))∧editErr D n (lE xs) ⟨p,N,true⟩≠0):=by rw [hV];exact ⟨errV_some hp,hp⟩
  rw [errV_some hp] at h
  clear hp hV
  generalize placeErr D n p=F at h HV
  generalize editErr D n (lE xs) ⟨p,N,true⟩=E at HV
  generalize p.length=m at h
  generalize xs.length=nx
  clear hfew
  go_enter Tryz.func74,Tryz.ntmps74
  go_wp2_with fail
  refine h.mono ?_
  rintro e w1 ⟨rfl,hb1⟩
  have HB1:Hid (Below w.heap.size w w1):=onB HB0.out hb1
  clear hb1
  go_wp2_with fail
  go_ret2
  rw [HV.out.1]
  exact ⟨⟨none,0,[],rfl,Or.inl ⟨HV.out.2,rfl,rfl,rfl⟩⟩,grown_below HB1.out⟩
theorem fresh_of {D:Nat→Dm} {n:Nat} {xs:List EnL} (hEs:Ens D n (lE xs)):∀ k,k<xs.length→(xs.getD k noL).e.pl.length≤4:=fun k hk=>by
 have h1:(xs.getD k noL).e∈lE xs:=List.mem_map.2 ⟨_,enl_mem hk,rfl⟩
 exact inO_short (hEs.each _ h1).1
theorem len_eq {xs ys:List EnL} (h:lE ys=lE xs):ys.length=xs.length:=by rw [←lE_len,h,lE_len]
end Go.Proofs.YtfgegmpoejilnaaGreatDoor
namespace Go.Proofs.YtfgegmpoejilnaaGreatDoor
open Go.ChangeShapes Go.WideShapes Go.ChangeAt Go.RowKit
set_option maxRecDepth 20000
noncomputable def cuErr (D:Nat→Dm) (n:Nat) (l:List En):Int:=if (ruErr D n).2.2≠0 then (ruErr D n).2.2 else entsErr D n l
end Go.Proofs.YtfgegmpoejilnaaGreatDoor
namespace Go.Proofs.YtfgegmpoejilnaaGreatDoor
open Go Go.ChangeShapes Go.WideShapes Go.ChangeAt Go.RowKit
set_option maxRecDepth 20000
def rwL (D:Nat→Dm) (n:Nat) (l:List En) (m:Nat):List (Int×Int):=(List.range m).map fun x=>getE l (placeL D n x)
theorem rwL_len (D:Nat→Dm) (n:Nat) (l:List En) (m:Nat):(rwL D n l m).length=m:=by simp [rwL]
theorem wr_none {D:Nat→Dm} {n x:Nat}:∀ (l:List En) (L:List (Int×Int)),(∀ e∈l,InO D n e.pl)→L.length=prodN D n→(∀ e∈l,(numI D e.pl n).toNat≠x)→(l.foldl (wrStep D n) L).getD x (0,0)=L.getD x (0,0)
 | [],_,_,_,_=>rfl
 | e :: r,L,hi,hL,h=>by
  obtain ⟨h1,h2,-⟩:=numI_bound (hi e (List.mem_cons_self ..)) (Nat.le_refl n)
  rw [List.foldl_cons,wr_none r _ (fun y hy=>hi y (List.mem_cons_of_mem _ hy)) (by unfold wrStep;rw [List.length_set];exact hL) fun y hy=>h y (List.mem_cons_of_mem _ hy)]
  unfold wrStep
  have:=h e (List.mem_cons_self ..)
  simp [List.getD,List.getElem?_set_ne this]
theorem wr_some {D:Nat→Dm} {n:Nat} {e:En}:∀ (l:List En) (L:List (Int×Int)),(∀ y∈l,InO D n y.pl)→(l.Pairwise fun a b=>lessL a.pl b.pl=true)→L.length=prodN D n→e∈l→(l.foldl (wrStep D n) L).getD (numI D e.pl n).toNat (0,0)=(1,e.n)
 | [],_,_,_,_,h=>by cases h
 | y :: r,L,hi,hr,hL,h=>by
  have hr':=List.pairwise_cons.1 hr
  have hiy:=hi y (List.mem_cons_self ..)
  have hir:=fun z hz=>hi z (List.mem_cons_of_mem y hz)
  obtain ⟨h1,h2,-⟩:=numI_bound hiy (Nat.le_refl n)
  rw [List.foldl_cons]
  have hL':(wrStep D n L y).length=prodN D n:=by unfold wrStep;rw [List.length_set];exact hL
  rcases List.mem_cons.1 h with rfl | h
  ·rw [wr_none r _ hir hL' fun z hz=>by
    have h3:=less_num hiy (hir z hz) (hr'.1 z hz)
    obtain ⟨h4,-,-⟩:=numI_bound (hir z hz) (Nat.le_refl n)
    omega]
   unfold wrStep
   have:(numI D e.pl n).toNat<L.length:=by omega
   simp [List.getD,this]
  ·exact wr_some r _ hir hr'.2 hL' h
theorem wr_rwL {D:Nat→Dm} {n:Nat} {l:List En} (h:Ens D n l):wrV D n l=rwL D n l (prodN D n):=by
 apply List.ext_getElem (by rw [wrV_len,rwL_len])
 intro x h1 h2
 rw [wrV_len] at h1
 have e1:(wrV D n l).getD x (0,0)=getE l (placeL D n x):=by
  unfold wrV
  by_cases hx:∃ e,e∈l∧(numI D e.pl n).toNat=x
  ·obtain ⟨e,he,hn⟩:=hx
   have h3:=wr_some l (List.replicate (prodN D n) (0,0)) (fun y hy=>(h.each y hy).1) h.rise (by simp) he
   rw [hn] at h3
   rw [h3,←hn,place_num (h.each e he).1,get_mem h.rise he]
  ·rw [wr_none l _ (fun y hy=>(h.each y hy).1) (by simp) fun e he hn=>hx ⟨e,he,hn⟩]
   rw [(get_none h.rise fun e he e2=>hx ⟨e,he,by rw [e2,num_place h.right h1];omega⟩).1]
   simp [List.getD,h1]
 have h3:x<(wrV D n l).length:=by rw [wrV_len];exact h1
 rw [List.getD_eq_getElem?_getD,List.getElem?_eq_getElem h3] at e1
 simp only [Option.getD_some] at e1
 rw [e1]
 simp [rwL]
end Go.Proofs.YtfgegmpoejilnaaGreatDoor
namespace Go.Proofs.YtfgegmpoejilnaaGreatDoor
open Go.ChangeShapes Go.WideShapes Go.ChangeAt Go.RowKit
set_option maxRecDepth 20000
def ToldP (D:Nat→Dm) (n:Nat) (p:List Int) (T:List Int):Prop:=T.Pairwise (· < ·)∧T.length≤12∧∀ z,z∈T↔∃ b:Nat,byTo D p n=(b:Int)∧∃ x∈mNd (D b) (p.getD b 0).toNat,z=numI D (p.set b x) n
end Go.Proofs.YtfgegmpoejilnaaGreatDoor
namespace Go.Proofs.YtfgegmpoejilnaaGreatDoor
section
variable {D:Nat→Dm} {n:Nat}
theorem told_less (hR:AllR D n) (hE:(allErr D n).2.2=0) {i:Nat} {T:List Int} (hT:ToldP D n (placeL D n i) T) {z:Int} (hz:z∈T):∃ j:Nat,z=(j:Int)∧j<prodN D n∧msrTo D (placeL D n j) n<msrTo D (placeL D n i) n:=by
 obtain ⟨b,hb,x,hx,rfl⟩:=(hT.2.2 z).1 hz
 have hI:InO D n (placeL D n i):=placeL_in hE
 have hbn:b<n:=by
  rcases by_in D (placeL D n i) n with h | ⟨b',h1,h2⟩
  ·omega
  ·omega
 have hxi:=mNd_in hx
 have hI2:=inO_set hI hbn hxi.1 hxi.2
 have hp0:=hI.lo b hbn
 have hp1:=hI.hi b hbn
 have hrk:=rk_less (hR b hbn) (i:=((placeL D n i).getD b 0).toNat) (by omega) hx
 rw [Int.toNat_of_nonneg hp0] at hrk
 have hms:=(msr_less (by rw [hI.len];exact hbn) hrk n).2 hbn
 obtain ⟨j,hj⟩:∃ j:Nat,numI D ((placeL D n i).set b x) n=(j:Int):=⟨(numI D ((placeL D n i).set b x) n).toNat,by have:=(numI_bound hI2 (Nat.le_refl n)).1;omega⟩
 refine ⟨j,hj,by have:=(numI_bound hI2 (Nat.le_refl n)).2.1;omega,?_⟩
 have hpn:=place_num hI2
 rw [hj,Int.toNat_natCast] at hpn
 rw [hpn]
 exact hms
end
end Go.Proofs.YtfgegmpoejilnaaGreatDoor
namespace Go.Proofs.YtfgegmpoejilnaaGreatDoor
open Go.ChangeShapes Go.WideShapes Go.ChangeAt Go.RowKit
section
variable {D:Nat→Dm} {n:Nat}
theorem told_inn (hR:AllR D n) (hE:(allErr D n).2.2=0) {N:List (List Int)} (hl:N.length=prodN D n) (hT:∀ i,i<prodN D n→ToldP D n (placeL D n i) (N.getD i [])):Inn N:=fun i hi x hx=>by
 obtain ⟨j,h1,h2,-⟩:=told_less hR hE (hT i (by omega)) hx
 omega
theorem told_acyc (hR:AllR D n) (hE:(allErr D n).2.2=0) {N:List (List Int)} (hl:N.length=prodN D n) (hT:∀ i,i<prodN D n→ToldP D n (placeL D n i) (N.getD i [])) (i:Nat) (hi:i<N.length):cycB N i=false:=by
 rw [cyc_not]
 intro hr
 have key:∀ {a b:Int},Rch N a b→∀ x:Nat,a=(x:Int)→x<prodN D n→∃ y:Nat,b=(y:Int)∧y<prodN D n∧msrTo D (placeL D n y) n<msrTo D (placeL D n x) n:=by
  intro a b hab
  induction hab with
  | one hx =>
   intro x hax hxn
   subst hax
   unfold rowN at hx
   rw [Int.toNat_natCast] at hx
   exact told_less hR hE (hT x hxn) hx
  | more hx _ ih =>
   intro x hax hxn
   subst hax
   unfold rowN at hx
   rw [Int.toNat_natCast] at hx
   obtain ⟨y,h1,h2,h3⟩:=told_less hR hE (hT x hxn) hx
   obtain ⟨z,h4,h5,h6⟩:=ih y h1 h2
   exact ⟨z,h4,h5,by omega⟩
 obtain ⟨y,h1,-,h3⟩:=key hr i rfl (by omega)
 have:y=i:=by omega
 subst this
 omega
end
section
variable {D:Nat→Dm} {n:Nat}
def StpN (D:Nat→Dm) (n i j:Nat):Prop := ∃ b:Nat,byTo D (placeL D n i) n=(b:Int)∧∃ x∈mNd (D b) ((placeL D n i).getD b 0).toNat,(j:Int)=numI D ((placeL D n i).set b x) n
theorem stp_iff {i j:Nat} {T:List Int} (hT:ToldP D n (placeL D n i) T):StpN D n i j↔(j:Int)∈T:=(hT.2.2 _).symm
inductive Ndd (D:Nat→Dm) (n:Nat):Nat→Nat→Prop
 | refl (i:Nat):Ndd D n i i
 | step {i j k:Nat}:StpN D n i j→Ndd D n j k→Ndd D n i k
noncomputable def dirB (D:Nat→Dm) (n:Nat) (at':List Int) (i:Nat):Bool := @decide (∃ a:Nat,(a:Int)∈at'∧Ndd D n i a) (Classical.propDecidable _)
theorem dirB_iff {at':List Int} {i:Nat}:dirB D n at' i=true↔∃ a:Nat,(a:Int)∈at'∧Ndd D n i a:=by unfold dirB;exact @decide_eq_true_iff _ (Classical.propDecidable _)
noncomputable def drtL (D:Nat→Dm) (n:Nat) (at':List Int):List Int:=selTo (dirB D n at') (prodN D n)
end
end Go.Proofs.YtfgegmpoejilnaaGreatDoor
namespace Go.Proofs.YtfgegmpoejilnaaGreatDoor
open Go.ChangeShapes Go.WideShapes Go.ChangeAt Go.RowKit
set_option maxRecDepth 20000
def NmV (w:World) (A:Option Addr) (c:Nat) (N:List ByteArray):Prop:=N.length≤c∧N.length<4611686018427387904∧c≤9223372036854775807∧(N=[]∨∃ b o,A=some ⟨b,o,none⟩∧b<w.heap.size∧∀ j,j<N.length→w.cell? ⟨b,o+j,none⟩=some (.string (N.getD j noS)))
theorem NmV.later {w w':World} {A:Option Addr} {c:Nat} {N:List ByteArray} (h:NmV w A c N) (hB:Below w.heap.size w w'):NmV w' A c N:=by
 obtain ⟨h1,h2,h3,h4 | ⟨b,o,h4,h5,h6⟩⟩:=h
 ·exact ⟨h1,h2,h3,Or.inl h4⟩
 ·exact ⟨h1,h2,h3,Or.inr ⟨b,o,h4,Nat.lt_of_lt_of_le h5 hB.size,fun j hj=>(hB.cell (p:=⟨b,o+j,none⟩) h5).trans (h6 j hj)⟩⟩
set_option maxHeartbeats 4000000 in
theorem rkcheck_any (An:Option Addr) (cn:Nat) (N:List ByteArray) (Ac:Option Addr) (cc:Nat) (C:List (Int×Int)) (w:World) (hN:NmV w An cn N) (hC:CelV w Ac cc C) :
  Calls Tryz.prog 120 #[.slice An N.length cn,.slice Ac C.length cc] w fun e w'=>e=.returned (errV (ckErr N C))∧Below w.heap.size w w':=by
 by_cases hne:C.length=N.length
 case neg =>
  have hb:((C.length:Int) != (N.length:Int))=true:=by simp;omega
  rw [ck_shape hne,errV_some (by decide)]
  clear hne hN hC
  go_enter Tryz.func120,Tryz.ntmps120
  go_wp2_with fail
  go_ret
  exact ⟨rfl,Below.refl _ _⟩
 obtain ⟨-,hN2,-,hN4⟩:=hN
 obtain ⟨-,-,hC3⟩:=hC
 obtain ⟨n,hn⟩:∃ n,N.length=n:=⟨_,rfl⟩
 have HNL:Hid (N.length=n):=hn
 have HCL:Hid (C.length=n):=hne.trans hn
 rw [hne,hn]
 rw [hn] at hN2 
 by_cases h0:n=0
 ·subst h0
  rw [ck_good (N:=N) (C:=C) hne (fun j hj=>by have:=HCL.out;omega) (fun j _ hj=>by omega),errV_zero]
  clear hN4 hC3 hne hn hN2
  go_enter Tryz.func120,Tryz.ntmps120
  go_wp2_with fail
  refine wp_loop_rounds 1 ?_
  rw [rounds_succ]
  go_wp2_with fail
  refine wp_loop_rounds 1 ?_
  rw [rounds_succ]
  go_wp2_with fail
  go_ret
  exact ⟨rfl,Below.refl _ _⟩
 obtain ⟨b,o,rfl,hCA⟩:=hC3.resolve_left (fun e=>by rw [e] at hne;simp at hne;omega)
 obtain ⟨bn,on,rfl,hNb,hNA⟩:=hN4.resolve_left (fun e=>by rw [e] at hn;simp at hn;omega)
 have HC:Hid (CelAt w b o C):=hCA
 have HN:Hid (∀ j,j<N.length→w.cell? ⟨bn,on+j,none⟩=some (.string (N.getD j noS))):=hNA
 have hni:(n:Int)<4611686018427387904:=by omega
 have hn0:0<(n:Int):=by omega
 clear hne hn hCA hNA hN2
 go_enter Tryz.func120,Tryz.ntmps120
 go_wp2_with fail
 go_loopg [17] n (fun g s17 wr => ∃ (k:Nat),k≤n∧g=n-k∧s17=.int .i64 k∧(∀ j,j<k→goodB C j=false)∧Below w.heap.size w wr)
 case atStart=>exact ⟨0,Nat.zero_le _,rfl,rfl,fun j hj=>absurd hj (Nat.not_lt_zero j),Below.refl _ _⟩
 case round =>
  obtain ⟨k,hk,rfl,rfl,hbd,hBw⟩:=hrel
  have HBd:Hid (∀ j,j<k→goodB C j=false):=hbd
  have HW:Hid (Below w.heap.size w wr):=hBw
  have hbl:b<w.heap.size:=HC.out.1
  have hsz:=hBw.size
  clear hbd hBw
  by_cases hlt:k<n
  ·have hki:(k:Int)<(n:Int):=by omega
   obtain ⟨x0,x1⟩:=(HC.out.later HW.out).2 k (by rw [HCL.out];exact hlt)
   have hck:=check_any (C.getD k noC).1 (C.getD k noC).2
   obtain ⟨kk,hkk⟩:∃ kk,(C.getD k noC).1=kk:=⟨_,rfl⟩
   obtain ⟨nn,hnn⟩:∃ nn,(C.getD k noC).2=nn:=⟨_,rfl⟩
   have HG:Hid (goodB C k = !(good kk nn)):=by show _=_;unfold goodB;rw [hkk,hnn]
   rw [hkk] at x0 hck
   rw [hnn] at x1 hck
   clear hkk hnn
   cases hg:good kk nn
   ·rw [hg] at hck
    have HF:Hid (ckErr N C=1):=ck_cell (by rw [HCL.out,HNL.out]) (i:=k) (by rw [HCL.out];exact hlt) (by rw [HG.out,hg];rfl)
    rw [if_neg (by decide)] at hck
    clear hg
    go_wp2_with fail
    refine (hck _).mono ?_
    rintro e w1 ⟨rfl,hb1⟩
    have HB1:Hid (Below w.heap.size w w1):=onB HW.out (onB (by go_grown) hb1)
    clear hb1 hck
    go_wp2_with fail
    go_ret
    exact ⟨by rw [HF.out];rfl,HB1.out⟩
   ·rw [hg,if_pos rfl] at hck
    have HGd:Hid (goodB C k=false):=by show _=_;rw [HG.out,hg];rfl
    clear hg
    go_wp2_with fail
    refine (hck _).mono ?_
    rintro e w1 ⟨rfl,hb1⟩
    have HB1:Hid (Below w.heap.size w w1):=onB HW.out (onB (by go_grown) hb1)
    clear hb1 hck
    go_wp2_with fail
    go_roundg (n-(k+1))
    case measure=>omega
    case rel=>exact ⟨k+1,by omega,rfl,by go_num,fun j hj=>by rcases Nat.lt_succ_iff_lt_or_eq.1 hj with h | h;exact HBd.out j h;rw [h];exact HGd.out,HB1.out⟩
  ·have hke:k=n:=by omega
   subst hke
   have HAll:Hid (∀ j,j<C.length→goodB C j=false):=fun j hj=>HBd.out j (by have:=HCL.out;omega)
   go_wp2_with fail
   go_loopg [8] k (fun g s8 ws => ∃ (i:Nat),i<k∧g=k-i∧s8=.int .i64 ((i:Int)+1)∧(∀ j,1≤j→j<i+1→downS N j=false)∧Below w.heap.size w ws)
   case atStart=>exact ⟨0,by omega,rfl,rfl,fun j h1 h2=>by omega,HW.out⟩
   case round =>
    obtain ⟨i,hi,rfl,rfl,hbd,hBw⟩:=hrel
    have HDn:Hid (∀ j,1≤j→j<i+1→downS N j=false):=hbd
    have HV:Hid (Below w.heap.size w wr):=hBw
    clear hbd
    by_cases hlt2:i+1<k
    ·have hki:(i:Int)+1<(k:Int):=by omega
     have c1:=(hBw.cell (p:=⟨bn,on+(i+1),none⟩) hNb).trans (HN.out (i+1) (by rw [HNL.out];exact hlt2))
     have c0:=(hBw.cell (p:=⟨bn,on+i,none⟩) hNb).trans (HN.out i (by rw [HNL.out];omega))
     obtain ⟨x,hx⟩:∃ x,N.getD (i+1) noS=x:=⟨_,rfl⟩
     obtain ⟨y,hy⟩:∃ y,N.getD i noS=y:=⟨_,rfl⟩
     have HD:Hid (downS N (i+1)=(Op.bytesLess x.toList y.toList || x.toList == y.toList)):=by show _=_;unfold downS;rw [hx,Nat.add_sub_cancel,hy]
     rw [hx] at c1
     rw [hy] at c0
     have hsub:(i:Int)+1-1=(i:Int):=by omega
     have hto:((i:Int)+1).toNat=i+1:=by omega
     clear hx hy hBw
     cases ht:(Op.bytesLess x.toList y.toList || x.toList == y.toList)
     ·have HDF:Hid (downS N (i+1)=false):=by show _=_;rw [HD.out,ht]
      clear HD
      go_wp2_with fail
      go_quiet (fail)
      have HB2:Hid (Below w.heap.size w (wr.drewN nq)):=below_drewN HV.out _
      go_wp2_with fail
      go_roundg (k-(i+1))
      case measure=>omega
      case rel=>exact ⟨i+1,hlt2,rfl,by go_num,fun j h1 hj=>by rcases Nat.lt_succ_iff_lt_or_eq.1 hj with h | h;exact HDn.out j h1 h;rw [h];exact HDF.out,HB2.out⟩
     ·have HF:Hid (ckErr N C=7):=ck_down (by rw [HCL.out,HNL.out]) HAll.out (i:=i+1) (by omega) (by rw [HNL.out];exact hlt2) (by rw [HD.out,ht])
      clear HD
      go_wp2_with fail
      go_quiet (fail)
      have HB2:Hid (Below w.heap.size w (wr.drewN nq)):=below_drewN HV.out _
      go_wp2_with fail
      go_ret
      exact ⟨by rw [HF.out];rfl,HB2.out⟩
    ·have hie:k=i+1:=by omega
     have HF:Hid (ckErr N C=0):=ck_good (by rw [HCL.out,HNL.out]) HAll.out (fun j h1 hj=>HDn.out j h1 (by have:=HNL.out;omega))
     have hki : ¬ (i:Int)+1<(k:Int):=by omega
     clear hie
     go_wp2_with fail
     go_ret
     exact ⟨by rw [HF.out];rfl,HV.out⟩
end Go.Proofs.YtfgegmpoejilnaaGreatDoor
namespace Go.Proofs.YtfgegmpoejilnaaGreatDoor
open Go.ChangeShapes Go.WideShapes Go.ChangeAt Go.RowKit
def At (s:Nat) (k n:Int) (w:World):Prop:=s<w.heap.size∧w.cell? ⟨s,0,none⟩=some (.int .i64 k)∧w.cell? ⟨s,1,none⟩=some (.int .i64 n)
section
variable {D:Nat→Dm} {n:Nat}
theorem sol_clean (hR:AllR D n) (hE:(allErr D n).2.2=0) {inp inp':List Int→Int×Int} {m:Nat} (hin:∀ i:Nat,i<prodN D n→i≠m→inp (placeL D n i)=inp' (placeL D n i)):∀ (k i:Nat),i<prodN D n→msrTo D (placeL D n i) n<k→¬ Ndd D n i m→solV D n inp (placeL D n i)=solV D n inp' (placeL D n i):=by
 intro k
 induction k with
 | zero=>intro i _ h;omega
 | succ k ih =>
  intro i hi hk hn
  have hI:InO D n (placeL D n i):=placeL_in hE
  rcases by_in D (placeL D n i) n with h | ⟨b,hb,hbn⟩
  ·rw [sol_leaf _ (by omega),sol_leaf _ (by omega)]
   exact hin i hi fun e=>hn (e ▸ .refl _)
  ·rw [sol_by hR inp hI hb,sol_by hR inp' hI hb]
   have hp0:=hI.lo b hbn
   have hp1:=hI.hi b hbn
   have hrb:=hR b hbn
   obtain ⟨hd,hm,-,-⟩:=rErr_right hrb
   refine oneV_same hd (hm _ (by omega)) fun x hx=>?_
   have hxi:=mNd_in hx
   have hI2:=inO_set hI hbn hxi.1 hxi.2
   have hbd:=numI_bound hI2 (Nat.le_refl n)
   obtain ⟨j,hj⟩:∃ j:Nat,numI D ((placeL D n i).set b x) n=(j:Int):=⟨(numI D ((placeL D n i).set b x) n).toNat,by have:=hbd.1;omega⟩
   have hpn:=place_num hI2
   rw [hj,Int.toNat_natCast] at hpn
   have hrk:=rk_less hrb (i:=((placeL D n i).getD b 0).toNat) (by omega) hx
   rw [Int.toNat_of_nonneg hp0] at hrk
   have hms:=(msr_less (by rw [hI.len];exact hbn) hrk n).2 hbn
   rw [←hpn] at hms ⊢
   exact ih j (by have:=hbd.2.1;omega) (by omega) fun h=>hn (.step ⟨b,hb,x,hx,hj.symm⟩ h)
end
end Go.Proofs.YtfgegmpoejilnaaGreatDoor
