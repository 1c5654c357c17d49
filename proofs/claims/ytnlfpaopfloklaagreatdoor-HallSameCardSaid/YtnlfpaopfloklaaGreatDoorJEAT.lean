/-
  A formula that is right as a tree, on plain data: what Print writes is the text of its tree.
-/
import Derived.Lib.AppendZerosOnto
import Derived.Laws.AppendOwnNone
import Derived.Test.YtnlfpaopfloklaaGreatDoorJEAR
namespace Go.Proofs.YtnlfpaopfloklaaGreatDoor
def trF (l:List Nd):Nat→Nat→Tre
 | 0,_=>.num 0
 | f+1,i=>if (l.getD i noN).op=1 then .num (l.getD i noN).n else if (l.getD i noN).op=2 then .ref (l.getD i noN).name else .bin (l.getD i noN).op (trF l f (l.getD i noN).left.toNat) (trF l f (l.getD i noN).right.toNat)
def treeOf (l:List Nd) (i:Nat):Tre:=trF l (i+1) i
def RightL (l:List Nd):Prop := ∀ j,j<l.length→ndErr (l.getD j noN) j=0
theorem op_range {x:Nd} {i:Nat} (h:ndErr x i=0):1≤x.op∧x.op≤6:=by
 unfold ndErr at h
 split at h
 ·cases h
 ·omega
theorem trF_fuel {l:List Nd} (hl:RightL l):∀ (f g i:Nat),i<l.length→i<f→i<g→trF l f i=trF l g i
 | 0,_,_,_,h,_=>by omega
 | _+1,0,_,_,_,h=>by omega
 | f+1,g+1,i,hi,hf,hg=>by
  rw [trF,trF]
  by_cases h1:(l.getD i noN).op=1
  ·rw [if_pos h1,if_pos h1]
  rw [if_neg h1,if_neg h1]
  by_cases h2:(l.getD i noN).op=2
  ·rw [if_pos h2,if_pos h2]
  rw [if_neg h2,if_neg h2]
  have ho:=op_range (hl i hi)
  obtain ⟨a1,a2,a3,a4⟩:=nd_sides (hl i hi) (by omega)
  rw [trF_fuel hl f g _ (by omega) (by omega) (by omega),trF_fuel hl f g (l.getD i noN).right.toNat (by omega) (by omega) (by omega)]
section
variable {l:List Nd} {i:Nat}
theorem tree_num (h:(l.getD i noN).op=1):treeOf l i=.num (l.getD i noN).n:=by unfold treeOf;rw [trF,if_pos h]
theorem tree_ref (h:(l.getD i noN).op=2):treeOf l i=.ref (l.getD i noN).name:=by unfold treeOf;rw [trF,if_neg (by omega),if_pos h]
theorem tree_bin (hl:RightL l) (hi:i<l.length) (h:2<(l.getD i noN).op):treeOf l i=.bin (l.getD i noN).op (treeOf l (l.getD i noN).left.toNat) (treeOf l (l.getD i noN).right.toNat):=by
 obtain ⟨a1,a2,a3,a4⟩:=nd_sides (hl i hi) h
 unfold treeOf
 rw [trF,if_neg (by omega),if_neg (by omega),trF_fuel hl i _ _ (by omega) (by omega) (Nat.lt_succ_self _),trF_fuel hl i _ (l.getD i noN).right.toNat (by omega) (by omega) (Nat.lt_succ_self _)]
end
end Go.Proofs.YtnlfpaopfloklaaGreatDoor
namespace Go.Proofs.YtnlfpaopfloklaaGreatDoor
open Go.ChangeShapes Go.WideShapes Go.ChangeAt Go.RowKit Go.Lib
set_option maxRecDepth 20000
def Edited (M:Nat) (w:World) (g:Nat) (E:Int) (l:List En) (e:Ending) (w':World):Prop :=
 (∃ B c ys,e=.returned (.tuple #[.slice B ys.length c,errV E])∧((E≠0∧B=none∧c=0∧ys=[])∨(E=0∧∃ g',B=some ⟨g',0,none⟩∧g≤g'∧RowE w' g' c ys∧lE ys=l∧NewE M ys)))∧w.grownBy w' (some g)
theorem edit_set (D:Nat→Dm) (n:Nat) (l:List En) (p:List Int) (N:Int):editErr D n l ⟨p,N,false⟩=entOne D n ⟨p,N⟩:=by
 unfold editErr entOne
 rfl
set_option maxHeartbeats 8000000 in
theorem iset1_any {M:Nat} (A0:Option Addr) (cap n:Nat) (D:Nat→Dm) (A:Nat→Option Addr) (C:Nat→Nat) (g cg:Nat) (xs:List EnL) (Ap:Option Addr) (cp:Nat) (p:List Int) (N:Int) (w:World) (hM:DimsV w A0 cap n D A C) (hP:PlAt w Ap cp p) (hR:RowE w g cg xs) (hEs:Ens D n (lE xs)) (hMx:NewE M xs) (hMw:M≤w.heap.size) :
  Calls Tryz.prog 49 #[.agg #[.slice A0 n cap],.slice (some ⟨g,0,none⟩) xs.length cg,.agg #[.slice Ap p.length cp,.int .i64 N]] w fun e w'=>Edited M w g (editErr D n (lE xs) ⟨p,N,false⟩) (setL (lE xs) p N) e w':=by
 rw [edit_set]
 have hB0:=ownOE_below w A0 n cap Ap p.length cp N
 have h:=icheck1_any A0 cap n D A C Ap cp ⟨p,N⟩ (ownOE w A0 n cap Ap p.length cp N) hEs.right (hM.later hB0) (hP.later hB0)
 have HB0:Hid (Below w.heap.size w (ownOE w A0 n cap Ap p.length cp N)):=hB0
 have hS0:=ownOE_size w A0 n cap Ap p.length cp N
 have h00:=ownOE_0 w A0 n cap Ap p.length cp N
 have h01:=ownOE_1 w A0 n cap Ap p.length cp N
 have HP:Hid (PlAt w Ap cp p):=hP
 have HR:Hid (RowE w g cg xs):=hR
 have HEs:Hid (Ens D n (lE xs)):=hEs
 have hgw:g<w.heap.size:=hR.lt
 have hfew:=few_of hEs
 unfold Edited
 clear hM hP hB0 hR
 by_cases he:entOne D n ⟨p,N⟩=0
 ·obtain ⟨hI,-,-⟩:=entOne_right hEs.right he
  have HF:Hid (∀ w',Below w.heap.size w w'→Calls Tryz.prog 75 #[.slice (some ⟨g,0,none⟩) xs.length cg,.slice Ap p.length cp] w' fun e w''=>e=.returned (.tuple #[.int .i64 (cntE (lE xs) p:Nat),.bool (hasE (lE xs) p)])∧Below w'.heap.size w' w''):=fun w' hw'=>ifind_any _ _ xs Ap cp p w' hfew ((HR.out.later hw').ensV) HEs.out.rise (short_of HEs.out hI) (HP.out.later hw')
  have HCl:Hid (∀ w',Below w.heap.size w w'→Calls Tryz.prog 43 #[.slice Ap p.length cp] w' fun e w''=>(∃ A' c',e=.returned (.slice A' p.length c')∧PlTy w'' A' c' p∧NewA M A')∧Below w'.heap.size w' w''):=fun w' hw'=>(clone_new _ _ _ w' (inO_short hI) (HP.out.later hw')).mono fun _ _ ⟨⟨A',c',h1,h2,h3⟩,h4⟩=>⟨⟨A',c',h1,h2,h3.le (Nat.le_trans hMw hw'.size)⟩,h4⟩
  have hcl:=cnt_le (lE xs) p
  rw [lE_len] at hcl
  rw [he,errV_zero] at h ⊢
  clear he hI
  cases hh:hasE (lE xs) p
  ·-- nothing stood there
   have HIn:Hid (∀ (w3:World) (A':Option Addr) (c':Nat),Below w.heap.size w w3→PlTy w3 A' c' p∧NewA M A'→Calls Tryz.prog 77 #[.slice (some ⟨g,0,none⟩) xs.length cg,.int .i64 (cntE (lE xs) p:Nat),.slice (some ⟨w3.heap.size,0,none⟩) 1 1] (ownEn w3 A' p.length c' N 71) fun e w' => ∃ g' cap' ys,e=.returned (.slice (some ⟨g',0,none⟩) (xs.length+1) cap')∧ys.length=xs.length+1∧RowE w' g' cap' ys∧lE ys=setL (lE xs) p N∧NewE M ys∧g≤g'∧(ownEn w3 A' p.length c' N 71).grownBy w' (some g)):=fun w3 A' c' hw' hT=>by
    have hb:=ownEn_below w3 A' p.length c' N 71
    have h1:=insert_any g cg (cntE (lE xs) p) w3.heap.size xs ⟨⟨p,N⟩,A',c'⟩ (ownEn w3 A' p.length c' N 71) hfew hcl (by have:=hw'.size;omega) ((HR.out.later hw').later hb) (hT.1.later hb) (heap_alloc_new w3 _)
    refine h1.mono ?_
    rintro e w' ⟨g',cap',rfl,hRow,hgg,hgr⟩
    exact ⟨g',cap',_,rfl,by simp;omega,hRow,by rw [lE_ins,set_new hh],hMx.put hT.2,hgg,hgr⟩
   have HFF:Hid (∀ w',Below w.heap.size w w'→Calls Tryz.prog 75 #[.slice (some ⟨g,0,none⟩) xs.length cg,.slice Ap p.length cp] w' fun e w''=>e=.returned (.tuple #[.int .i64 (cntE (lE xs) p:Nat),.bool false])∧Below w'.heap.size w' w''):=fun w' hw'=>by have h1:=HF.out w' hw';rw [hh] at h1;exact h1
   clear HF hh
   generalize cntE (lE xs) p=i at HFF HIn hcl
   obtain ⟨m,hm⟩:∃ m,p.length=m:=⟨_,rfl⟩
   obtain ⟨nx,hnx⟩:∃ nx,xs.length=nx:=⟨_,rfl⟩
   rw [hm] at h HB0 hS0 h00 h01 HCl HFF HIn ⊢
   rw [hnx] at HFF HIn hfew hcl ⊢
   clear hm hnx
   go_enter Tryz.func49,Tryz.ntmps49
   go_wp2_with fail
   refine h.mono ?_
   rintro e w1 ⟨rfl,hb1⟩
   have hB1:Below w.heap.size w w1:=onB HB0.out hb1
   have HB1:Hid (Below w.heap.size w w1):=hB1
   have c0:w1.cell? ⟨w.heap.size+1,0,none⟩=some (.slice Ap m cp):=(hb1.cell (p:=⟨w.heap.size+1,0,none⟩) (by show w.heap.size+1<_;omega)).trans h00
   have c1:w1.cell? ⟨w.heap.size+1,1,none⟩=some (.int .i64 N):=(hb1.cell (p:=⟨w.heap.size+1,1,none⟩) (by show w.heap.size+1<_;omega)).trans h01
   have hz1:w.heap.size+1<w1.heap.size:=by have:=hb1.size;omega
   have h2:=HFF.out w1 hB1
   clear hb1 h hB1 h00 h01 hS0
   go_wp2_with fail
   refine h2.mono ?_
   rintro e w2 ⟨rfl,hb2⟩
   have HB2:Hid (Below w.heap.size w w2):=onB HB1.out hb2
   have d0:w2.cell? ⟨w.heap.size+1,0,none⟩=some (.slice Ap m cp):=(hb2.cell (p:=⟨w.heap.size+1,0,none⟩) hz1).trans c0
   have d1:w2.cell? ⟨w.heap.size+1,1,none⟩=some (.int .i64 N):=(hb2.cell (p:=⟨w.heap.size+1,1,none⟩) hz1).trans c1
   have HBox:Hid (w.heap.size+1<w2.heap.size∧w.heap.size+1≠g∧w2.cell? ⟨w.heap.size+1,0,none⟩=some (.slice Ap m cp)∧w2.cell? ⟨w.heap.size+1,1,none⟩=some (.int .i64 N)):=⟨Nat.lt_of_lt_of_le hz1 hb2.size,by omega,d0,d1⟩
   clear hb2 c0 c1 h2 d0 d1
   go_wp2_with fail
   go_region_held3 (fun w'=>w2.grownBy w' (some g)∧w'.cell? ⟨w.heap.size+1,0,none⟩=some (.slice Ap m cp)∧w'.cell? ⟨w.heap.size+1,1,none⟩=some (.int .i64 N))
    ((refine keepG HBox.out ?_;(repeat (first | exact grown_refl _ _ | assumption | refine grown_drew ?_ | refine grown_set ?_ _ _ | refine grown_new ?_ _));done))
    (first | (go_at_call 43;refine (HCl.out _ (onB HB2.out (by go_grown))).mono ?_;rintro e w3 ⟨⟨A',c',rfl,hPT,hNw⟩,hb3⟩;have hN3:=onB (W0:=w2) (by go_grown) hb3;have hG3:w2.grownBy w3 (some g):=grown_below hN3;have HB3:Hid (Below w2.heap.size w2 w3):=hN3;have HPT:Hid (PlTy w3 A' c' p∧NewA M A'):=⟨hPT,hNw⟩;clear hb3 hN3 hPT hNw) | (go_at_call 77;refine (HIn.out w3 A' c' (onB HB2.out HB3.out) HPT.out).mono ?_;rintro e w4 ⟨g',cap',ys,rfl,hyl,hRow,hle,hnw,hgg,hgr⟩;have hG4:w2.grownBy w4 (some g):=grown_trans (grown_trans hG3 (grown_below (ownEn_below ..))) hgr;have HRow:Hid (RowE w4 g' cap' ys):=hRow;have HLE:Hid (lE ys=setL (lE xs) p N∧NewE M ys):=⟨hle,hnw⟩;have HYL:Hid (ys.length=nx+1):=hyl;clear hRow hle hgr hyl hnw))
   go_wp2_with fail
   go_ret2
   exact ⟨⟨some ⟨g',0,none⟩,cap',ys,by rw [HYL.out];rfl,Or.inr ⟨by trivial,g',rfl,hgg,HRow.out,HLE.out⟩⟩,grown_trans (grown_below HB2.out) hG4⟩
  ·-- something stood there
   obtain ⟨hso,hil,-⟩:=set_old hh N
   have HSN:Hid (∀ w',Below w.heap.size w w'→RowE (w'.setCell ⟨g,cntE (lE xs) p*2+1,none⟩ (.int .i64 N)) g cg (xs.set (cntE (lE xs) p) ⟨⟨(xs.getD (cntE (lE xs) p) noL).e.pl,N⟩,(xs.getD (cntE (lE xs) p) noL).A,(xs.getD (cntE (lE xs) p) noL).c⟩)∧w'.grownBy (w'.setCell ⟨g,cntE (lE xs) p*2+1,none⟩ (.int .i64 N)) (some g)):=fun w' hw'=>(HR.out.later hw').setN (by rw [lE_len] at hil;exact hil) N
   have HLE:Hid (lE (xs.set (cntE (lE xs) p) ⟨⟨(xs.getD (cntE (lE xs) p) noL).e.pl,N⟩,(xs.getD (cntE (lE xs) p) noL).A,(xs.getD (cntE (lE xs) p) noL).c⟩)=setL (lE xs) p N∧NewE M (xs.set (cntE (lE xs) p) ⟨⟨(xs.getD (cntE (lE xs) p) noL).e.pl,N⟩,(xs.getD (cntE (lE xs) p) noL).A,(xs.getD (cntE (lE xs) p) noL).c⟩)):=⟨by rw [lE_set,hso,lE_at],hMx.set (by rw [lE_len] at hil;exact hil) _ _⟩
   have HFF:Hid (∀ w',Below w.heap.size w w'→Calls Tryz.prog 75 #[.slice (some ⟨g,0,none⟩) xs.length cg,.slice Ap p.length cp] w' fun e w''=>e=.returned (.tuple #[.int .i64 (cntE (lE xs) p:Nat),.bool true])∧Below w'.heap.size w' w''):=fun w' hw'=>by have h1:=HF.out w' hw';rw [hh] at h1;exact h1
   have HYL:Hid ((xs.set (cntE (lE xs) p) ⟨⟨(xs.getD (cntE (lE xs) p) noL).e.pl,N⟩,(xs.getD (cntE (lE xs) p) noL).A,(xs.getD (cntE (lE xs) p) noL).c⟩).length=xs.length):=List.length_set
   rw [lE_len] at hil
   clear HF hh hso
   generalize xs.set (cntE (lE xs) p) ⟨⟨(xs.getD (cntE (lE xs) p) noL).e.pl,N⟩,(xs.getD (cntE (lE xs) p) noL).A,(xs.getD (cntE (lE xs) p) noL).c⟩=ys at HSN HLE HYL
   generalize cntE (lE xs) p=i at HFF HSN hcl hil
   obtain ⟨m,hm⟩:∃ m,p.length=m:=⟨_,rfl⟩
   obtain ⟨nx,hnx⟩:∃ nx,xs.length=nx:=⟨_,rfl⟩
   rw [hm] at h HB0 hS0 h00 h01 HCl HFF ⊢
   rw [hnx] at HFF hfew hcl hil HYL ⊢
   have hil':(i:Int)<(nx:Int):=by omega
   have hcg:nx≤cg:=by rw [←hnx];exact HR.out.2.1
   clear hm hnx HCl
   go_enter Tryz.func49,Tryz.ntmps49
   go_wp2_with fail
   refine h.mono ?_
   rintro e w1 ⟨rfl,hb1⟩
   have hB1:Below w.heap.size w w1:=onB HB0.out hb1
   have HB1:Hid (Below w.heap.size w w1):=hB1
   have c0:w1.cell? ⟨w.heap.size+1,0,none⟩=some (.slice Ap m cp):=(hb1.cell (p:=⟨w.heap.size+1,0,none⟩) (by show w.heap.size+1<_;omega)).trans h00
   have c1:w1.cell? ⟨w.heap.size+1,1,none⟩=some (.int .i64 N):=(hb1.cell (p:=⟨w.heap.size+1,1,none⟩) (by show w.heap.size+1<_;omega)).trans h01
   have hz1:w.heap.size+1<w1.heap.size:=by have:=hb1.size;omega
   have h2:=HFF.out w1 hB1
   clear hb1 h hB1 h00 h01 hS0
   go_wp2_with fail
   refine h2.mono ?_
   rintro e w2 ⟨rfl,hb2⟩
   have hB2:Below w.heap.size w w2:=onB HB1.out hb2
   have HB2:Hid (Below w.heap.size w w2):=hB2
   have d1:w2.cell? ⟨w.heap.size+1,1,none⟩=some (.int .i64 N):=(hb2.cell (p:=⟨w.heap.size+1,1,none⟩) hz1).trans c1
   obtain ⟨u,hu⟩:=Option.isSome_iff_exists.1 ((HR.out.later hB2).full (j:=i*2+1) (by omega))
   have hf:=(HR.out.later hB2).frozen (i*2+1)
   clear hb2 c0 c1 h2 hB2
   go_wp2_with fail
   go_ret2
   obtain ⟨r1,r2⟩:=HSN.out w2 HB2.out
   exact ⟨⟨some ⟨g,0,none⟩,cg,ys,by rw [HYL.out];rfl,Or.inr ⟨by trivial,g,rfl,Nat.le_refl _,r1,HLE.out⟩⟩,grown_trans (grown_below HB2.out) r2⟩
 ·have HV:Hid (errV (entOne D n ⟨p,N⟩)=.iface 75 (.int .i64 (entOne D n ⟨p,N⟩))):=errV_some he
  rw [errV_some he] at h
  have HE:Hid (entOne D n ⟨p,N⟩≠0):=he
  generalize entOne D n ⟨p,N⟩=E at h HV HE
  generalize p.length=m at h HB0
  generalize xs.length=nx
  clear he hS0 h00 h01 hfew
  go_enter Tryz.func49,Tryz.ntmps49
  go_wp2_with fail
  refine h.mono ?_
  rintro e w1 ⟨rfl,hb1⟩
  have HB1:Hid (Below w.heap.size w w1):=onB HB0.out hb1
  clear hb1
  go_wp2_with fail
  go_ret2
  rw [HV.out]
  exact ⟨⟨none,0,[],rfl,Or.inl ⟨HE.out,rfl,rfl,rfl⟩⟩,grown_below HB1.out⟩
theorem edit_clr {D:Nat→Dm} {n:Nat} {l:List En} (hR:(allErr D n).2.2=0) (p:List Int) (N:Int):editErr D n l ⟨p,N,true⟩=if placeErr D n p≠0 then placeErr D n p else if hasE l p=true then 0 else 5:=by
 rw [pe1 hR]
 unfold editErr
 rfl
theorem clr_in {l:List En} {p:List Int} (h:hasE l p=true):cntE l p<l.length:=(set_old h 0).2.1
set_option maxHeartbeats 8000000 in
theorem without_any {M:Nat} (A0:Option Addr) (cap n:Nat) (D:Nat→Dm) (A:Nat→Option Addr) (C:Nat→Nat) (g cg:Nat) (xs:List EnL) (Ap:Option Addr) (cp:Nat) (p:List Int) (N:Int) (w:World) (hM:DimsV w A0 cap n D A C) (hP:PlAt w Ap cp p) (hR:RowE w g cg xs) (hEs:Ens D n (lE xs)) (hMx:NewE M xs) :
  Calls Tryz.prog 48 #[.agg #[.slice A0 n cap],.slice (some ⟨g,0,none⟩) xs.length cg,.slice Ap p.length cp] w fun e w'=>Edited M w g (editErr D n (lE xs) ⟨p,N,true⟩) (clrL (lE xs) p) e w':=by
 have hV:=edit_clr (l:=lE xs) hEs.right p N
 have hB0:=ownOut_below w A0 n cap 24
 have h:=pcheck_any A0 cap n D A C Ap cp p (ownOut w A0 n cap 24) (hM.later hB0) (hP.later hB0)
 have HB0:Hid (Below w.heap.size w (ownOut w A0 n cap 24)):=hB0
 have HP:Hid (PlAt w Ap cp p):=hP
 have HR:Hid (RowE w g cg xs):=hR
 have HEs:Hid (Ens D n (lE xs)):=hEs
 have hfew:=few_of hEs
 unfold Edited
 clear hM hP hB0 hR
 by_cases hp:placeErr D n p=0
 ·rw [if_neg (by simpa using hp)] at hV
  have hI:=inO_of hp
  have HF:Hid (∀ w',Below w.heap.size w w'→Calls Tryz.prog 75 #[.slice (some ⟨g,0,none⟩) xs.length cg,.slice Ap p.length cp] w' fun e w''=>e=.returned (.tuple #[.int .i64 (cntE (lE xs) p:Nat),.bool (hasE (lE xs) p)])∧Below w'.heap.size w' w''):=fun w' hw'=>ifind_any _ _ xs Ap cp p w' hfew ((HR.out.later hw').ensV) HEs.out.rise (short_of HEs.out hI) (HP.out.later hw')
  rw [hp,errV_zero] at h
  clear hp hI
  cases hh:hasE (lE xs) p
  ·rw [hh,if_neg (by simp)] at hV
   have HV:Hid (errV (editErr D n (lE xs) ⟨p,N,true⟩)=.iface 75 (.int .i64 5)∧editErr D n (lE xs) ⟨p,N,true⟩≠0):=by rw [hV];exact ⟨rfl,by decide⟩
   have HFF:Hid (∀ w',Below w.heap.size w w'→Calls Tryz.prog 75 #[.slice (some ⟨g,0,none⟩) xs.length cg,.slice Ap p.length cp] w' fun e w''=>e=.returned (.tuple #[.int .i64 (cntE (lE xs) p:Nat),.bool false])∧Below w'.heap.size w' w''):=fun w' hw'=>by have h1:=HF.out w' hw';rw [hh] at h1;exact h1
   clear HF hh hV
   generalize cntE (lE xs) p=i at HFF
   generalize editErr D n (lE xs) ⟨p,N,true⟩=E at HV
   obtain ⟨m,hm⟩:∃ m,p.length=m:=⟨_,rfl⟩
   obtain ⟨nx,hnx⟩:∃ nx,xs.length=nx:=⟨_,rfl⟩
   rw [hm] at h HFF ⊢
   rw [hnx] at HFF hfew ⊢
   clear hm hnx
   go_enter Tryz.func48,Tryz.ntmps48
   go_wp2_with fail
   refine h.mono ?_
   rintro e w1 ⟨rfl,hb1⟩
   have hB1:Below w.heap.size w w1:=onB HB0.out hb1
   have HB1:Hid (Below w.heap.size w w1):=hB1
   have h2:=HFF.out w1 hB1
   clear hb1 h hB1
   go_wp2_with fail
   refine h2.mono ?_
   rintro e w2 ⟨rfl,hb2⟩
   have HB2:Hid (Below w.heap.size w w2):=onB HB1.out hb2
   clear hb2 h2
   go_wp2_with fail
   go_ret2
   rw [HV.out.1]
   exact ⟨⟨none,0,[],rfl,Or.inl ⟨HV.out.2,rfl,rfl,rfl⟩⟩,grown_below HB2.out⟩
  ·rw [hh,if_pos rfl] at hV
   have hil:=clr_in hh
   rw [lE_len] at hil
   have HDel:Hid (∀ w',Below w.heap.size w w'→Calls Tryz.prog 76 #[.slice (some ⟨g,0,none⟩) xs.length cg,.int .i64 (cntE (lE xs) p:Nat),.int .i64 ((cntE (lE xs) p:Int)+1)] w' fun e w''=>e=.returned (.slice (some ⟨g,0,none⟩) (xs.length-1) cg)∧RowE w'' g cg (xs.take (cntE (lE xs) p) ++ xs.drop (cntE (lE xs) p+1))∧w'.grownBy w'' (some g)):=fun w' hw'=>delete_any g cg (cntE (lE xs) p) xs w' hfew hil (HR.out.later hw')
   have HLE:Hid (lE (xs.take (cntE (lE xs) p) ++ xs.drop (cntE (lE xs) p+1))=clrL (lE xs) p∧NewE M (xs.take (cntE (lE xs) p) ++ xs.drop (cntE (lE xs) p+1))):=⟨by unfold clrL;rw [lE_append,lE_take,lE_drop],hMx.cut⟩
   have HYL:Hid ((xs.take (cntE (lE xs) p) ++ xs.drop (cntE (lE xs) p+1)).length=xs.length-1):=by show _=_;simp;omega
   have HFF:Hid (∀ w',Below w.heap.size w w'→Calls Tryz.prog 75 #[.slice (some ⟨g,0,none⟩) xs.length cg,.slice Ap p.length cp] w' fun e w''=>e=.returned (.tuple #[.int .i64 (cntE (lE xs) p:Nat),.bool true])∧Below w'.heap.size w' w''):=fun w' hw'=>by have h1:=HF.out w' hw';rw [hh] at h1;exact h1
   rw [hV,errV_zero]
   clear HF hh hV
   generalize hys:xs.take (cntE (lE xs) p) ++ xs.drop (cntE (lE xs) p+1)=ys at HDel HLE HYL
   clear hys
   generalize cntE (lE xs) p=i at HFF HDel hil
   obtain ⟨m,hm⟩:∃ m,p.length=m:=⟨_,rfl⟩
   obtain ⟨nx,hnx⟩:∃ nx,xs.length=nx:=⟨_,rfl⟩
   rw [hm] at h HFF ⊢
   rw [hnx] at HFF HDel hfew hil HYL ⊢
   have hil':(i:Int)<(nx:Int):=by omega
   clear hm hnx
   go_enter Tryz.func48,Tryz.ntmps48
   go_wp2_with fail
   refine h.mono ?_
   rintro e w1 ⟨rfl,hb1⟩
   have hB1:Below w.heap.size w w1:=onB HB0.out hb1
   have HB1:Hid (Below w.heap.size w w1):=hB1
   have h2:=HFF.out w1 hB1
   clear hb1 h hB1
   go_wp2_with fail
   refine h2.mono ?_
   rintro e w2 ⟨rfl,hb2⟩
   have hB2:Below w.heap.size w w2:=onB HB1.out hb2
   have HB2:Hid (Below w.heap.size w w2):=hB2
   have h3:=HDel.out w2 hB2
   clear hb2 h2 hB2
   go_wp2_with fail
   refine h3.mono ?_
   rintro e w3 ⟨rfl,hRow,hgr⟩
   have HRow:Hid (RowE w3 g cg ys):=hRow
   have HG:Hid (w2.grownBy w3 (some g)):=hgr
   clear hRow hgr h3
   go_wp2_with fail
   go_ret2
   exact ⟨⟨some ⟨g,0,none⟩,cg,ys,by rw [HYL.out];rfl,Or.inr ⟨by trivial,g,rfl,Nat.le_refl _,HRow.out,HLE.out⟩⟩,grown_trans (grown_below HB2.out) HG.out⟩
 ·rw [if_pos (by simpa using hp)] at hV
  have HV:Hid (errV (editErr D n (lE xs) ⟨p,N,true⟩)=.iface 75 (.int .i64 (placeErr D n p))∧editErr D n (lE xs) ⟨p,N,true⟩≠0):=by rw [hV];exact ⟨errV_some hp,hp⟩
  rw [errV_some hp] at h
  clear hp hV
  generalize placeErr D n p=F at h HV
  generalize editErr D n (lE xs) ⟨p,N,true⟩=E at HV
  generalize p.length=m at h
  generalize xs.length=nx
  clear hfew
  go_enter Tryz.func48,Tryz.ntmps48
  go_wp2_with fail
  refine h.mono ?_
  rintro e w1 ⟨rfl,hb1⟩
  have HB1:Hid (Below w.heap.size w w1):=onB HB0.out hb1
  clear hb1
  go_wp2_with fail
  go_ret2
  rw [HV.out.1]
  exact ⟨⟨none,0,[],rfl,Or.inl ⟨HV.out.2,rfl,rfl,rfl⟩⟩,grown_below HB1.out⟩
theorem fresh_of {D:Nat→Dm} {n:Nat} {xs:List EnL} (hEs:Ens D n (lE xs)):∀ k,k<xs.length→(xs.getD k noL).e.pl.length≤4:=fun k hk=>by
 have h1:(xs.getD k noL).e∈lE xs:=List.mem_map.2 ⟨_,enl_mem hk,rfl⟩
 exact inO_short (hEs.each _ h1).1
theorem len_eq {xs ys:List EnL} (h:lE ys=lE xs):ys.length=xs.length:=by rw [←lE_len,h,lE_len]
end Go.Proofs.YtnlfpaopfloklaaGreatDoor
namespace Go.Proofs.YtnlfpaopfloklaaGreatDoor
open Go Go.ChangeShapes Go.WideShapes Go.ChangeAt Go.RowKit
set_option maxRecDepth 20000
structure PL where
 p:List Int
 A:Option Addr
 c:Nat
def noP:PL:=⟨[],none,0⟩
def lP (xs:List PL):List (List Int):=xs.map PL.p
def cellsP (xs:List PL):List Value:=xs.map fun x=>.slice x.A x.p.length x.c
theorem cellsP_append (a b:List PL):cellsP (a ++ b)=cellsP a ++ cellsP b:=by simp [cellsP]
theorem Tryz.infoPla:(Tryz.prog.info? 39).map (fun i=>(i.zero,i.size,i.bytes))=some (some (.slice none 0 0),1,24):=by kernel_rfl
theorem map_take {X:List Int} {h:List Int} {j:Nat} (hj:j<X.length):(X.take (j+1)).map (fun x=>h ++ [x])=(X.take j).map (fun x=>h ++ [x]) ++ [h ++ [X.getD j 0]]:=by
 rw [List.take_succ_eq_append_getElem hj,List.map_append,List.getD_eq_getElem?_getD,List.getElem?_eq_getElem hj]
 rfl
end Go.Proofs.YtnlfpaopfloklaaGreatDoor
namespace Go.Proofs.YtnlfpaopfloklaaGreatDoor
open Go.ChangeShapes Go.WideShapes Go.ChangeAt Go.RowKit
set_option maxRecDepth 20000
def ValB (w:World) (g n T:Nat) (f:Nat→Value):Prop:=w.heap[g]?=some (.cells ((List.range n).map f).toArray T (0,0))
theorem ValB.lt {w:World} {g n T:Nat} {f:Nat→Value} (h:ValB w g n T f):g<w.heap.size:=(Array.getElem?_eq_some_iff.1 h).1
theorem ValB.cell {w:World} {g n T:Nat} {f:Nat→Value} (h:ValB w g n T f) {j:Nat} (hj:j<n):w.cell? ⟨g,j,none⟩=some (f j):=by
 rw [Lib.cell_of_heap h]
 simp [hj]
theorem ValB.frozen {w:World} {g n T:Nat} {f:Nat→Value} (h:ValB w g n T f) (j:Nat):w.frozen? ⟨g,j,none⟩=false:=Lib.frozen_of_heap h j
theorem ValB.same {w w':World} {g n T:Nat} {f:Nat→Value} (h:ValB w g n T f) (hb:w'.heap[g]?=w.heap[g]?):ValB w' g n T f:=hb.trans h
theorem ValB.set {w:World} {g n T:Nat} {f f':Nat→Value} {v:Value} (h:ValB w g n T f) {m:Nat} (hf:∀ j,j<n→f' j=if j=m then v else f j):ValB (w.setCell ⟨g,m,none⟩ v) g n T f':=by
 unfold ValB at *
 simp only [World.setCell,Array.getElem?_modify,if_true,h,Option.map_some,Option.some.injEq,Obj.cells.injEq,and_true,Option.isSome_none,Bool.false_eq_true,if_false]
 apply Array.ext_getElem?
 intro j
 rw [Array.getElem?_setIfInBounds]
 by_cases hj:j<n
 ·by_cases e:m=j
  ·rw [if_pos e,if_pos (by simp;omega)]
   simp [hj,hf j hj,e]
  ·have e':j≠m:=fun x=>e x.symm
   rw [if_neg e]
   simp only [List.getElem?_toArray,List.getElem?_map,List.getElem?_range hj,Option.map_some,hf j hj,if_neg e']
 ·by_cases e:m=j
  ·rw [if_pos e,if_neg (by simp;omega),Array.getElem?_eq_none (by simp;omega)]
  ·rw [if_neg e,Array.getElem?_eq_none (by simp;omega),Array.getElem?_eq_none (by simp;omega)]
theorem ValB.made (w:World) (n T:Nat) (z:Value):ValB (w.alloc (.cells (madeCells #[z] n) T)) w.heap.size n T fun _=>z:=by
 unfold ValB
 have e:madeCells #[z] n=((List.range n).map fun _=>z).toArray:=by
  apply Array.ext
  ·simp [madeCells]
  ·intro i h1 h2
   simp [madeCells,Nat.mod_one]
 rw [e]
 exact heap_alloc_new w _
theorem ValB.off {w:World} {g n T b:Nat} {f:Nat→Value} {cs:Array Value} {t:Nat} {fr:Nat×Nat} (h:ValB w g n T f) (hb:w.heap[b]?=some (.cells cs t fr)) (ht:t≠T):b≠g:=fun e=>by
 rw [e,h] at hb
 simp only [Option.some.injEq,Obj.cells.injEq] at hb
 exact ht hb.2.1.symm
theorem row_ne_int':(3:Nat)≠38:=by decide
theorem own_grown {w w':World} {base e size n:Nat} {v:Value} {xs:List Value} {r:Option Nat} (h:w.ownsRow base e size v n xs) (hG:w.grownBy w' r) (hr:∀ b,v.ownBlock=some b→r≠some b):w'.ownsRow base e size v n xs:=by
 refine ⟨h.1,?_⟩
 rcases h.2 with h0 | ⟨g,cap,cur,rfl,h2,h3,h4⟩
 ·exact Or.inl h0
 ·exact Or.inr ⟨g,cap,cur,rfl,h2,(hG.block g (Array.getElem?_eq_some_iff.1 h3).1 (fun e=>hr g rfl e.symm)).trans h3,h4⟩
theorem own_blk {w:World} {base e size n b:Nat} {v:Value} {xs:List Value} (h:w.ownsRow base e size v n xs) (hb:v.ownBlock=some b):base≤b∧b<w.heap.size∧∃ cur,w.heap[b]?=some (.cells cur e (0,0)):=by
 rcases h.2 with ⟨rfl,-⟩ | ⟨g,cap,cur,rfl,h2,h3,h4⟩
 ·cases hb
 ·cases hb
  exact ⟨h2,(Array.getElem?_eq_some_iff.1 h3).1,cur,h3⟩
theorem own_setc {w:World} {base e size n g j:Nat} {v x:Value} {xs:List Value} (h:w.ownsRow base e size v n xs) (hg:v.ownBlock≠some g):(w.setCell ⟨g,j,none⟩ x).ownsRow base e size v n xs:=by
 refine ⟨h.1,?_⟩
 rcases h.2 with h0 | ⟨g',cap,cur,rfl,h2,h3,h4⟩
 ·exact Or.inl h0
 ·exact Or.inr ⟨g',cap,cur,rfl,h2,by rw [setCell_off _ _ _ _ _ (fun e=>hg (by rw [←e];rfl))];exact h3,h4⟩
theorem IntT.one {w w':World} {A:Option Addr} {c:Nat} {L:List Int} (h:IntT w A c L) (hb:∀ a,A=some a→w'.heap[a.block]?=w.heap[a.block]?):IntT w' A c L:=by
 obtain ⟨h1,h0,h2 | ⟨b,cs,fr,rfl,h3,h4⟩⟩:=h
 ·exact ⟨h1,h0,Or.inl h2⟩
 ·have e:=hb _ rfl
  exact ⟨h1,h0,Or.inr ⟨b,cs,fr,rfl,e.trans h3,fun j hj=>(World.cell?_of_block (a:=⟨b,j,none⟩) e).trans (h4 j hj)⟩⟩
theorem Tryz.infoMemH:(Tryz.prog.info? 27).map (fun i=>(i.zero,i.size,i.bytes))=some (some (.agg #[.string ⟨#[]⟩,.int .i64 0,.int .i64 0,.string ⟨#[]⟩]),4,48):=by kernel_rfl
theorem Tryz.infoDimH:(Tryz.prog.info? 30).map (fun i=>(i.zero,i.size,i.bytes))=some (some (.agg #[.string ⟨#[]⟩,.int .i64 0,.slice none 0 0]),3,48):=by kernel_rfl
def dcV (D:Nat→Dm) (A:Nat→Option Addr) (C:Nat→Nat) (j:Nat):Value:=if j % 3=0 then .string (D (j / 3)).name else if j % 3=1 then .int .i64 (D (j / 3)).solve else .slice (A (j / 3)) (D (j / 3)).n (C (j / 3))
def mcV (M:Nat→Mem) (j:Nat):Value:=if j % 4=0 then .string (M (j / 4)).name else if j % 4=1 then .int .i64 (M (j / 4)).parent else if j % 4=2 then .int .i64 (M (j / 4)).sign else .string (M (j / 4)).formula
def rowF (f:Nat→Value) (n:Nat):List Value:=(List.range n).map f
theorem rowF_len (f:Nat→Value) (n:Nat):(rowF f n).length=n:=by simp [rowF]
theorem rowF_at {f:Nat→Value} {n j:Nat} {u:Value} (h:(rowF f n)[j]?=some u):j<n∧u=f j:=by
 have hj:j<n:=by have:=(List.getElem?_eq_some_iff.1 h).1;rwa [rowF_len] at this
 simp [rowF,List.getElem?_range hj] at h
 exact ⟨hj,h.symm⟩
theorem rowF_get (f:Nat→Value) {n j:Nat} (h:j<n):(rowF f n)[j]?=some (f j):=by simp [rowF,List.getElem?_range h]
theorem dcV_one (D:Nat→Dm) (A:Nat→Option Addr) (C:Nat→Nat) (n:Nat):∀ u∈rowF (dcV D A C) n,u.oneCell'=true:=fun u hu=>by
 unfold rowF at hu
 obtain ⟨j,-,rfl⟩:=List.mem_map.1 hu
 unfold dcV
 split
 ·rfl
 ·split <;> rfl
theorem mcV_one (M:Nat→Mem) (n:Nat):∀ u∈rowF (mcV M) n,u.oneCell'=true:=fun u hu=>by
 unfold rowF at hu
 obtain ⟨j,-,rfl⟩:=List.mem_map.1 hu
 unfold mcV
 split
 ·rfl
 ·split
  ·rfl
  ·split <;> rfl
theorem DimsAt.dc {w:World} {b o n:Nat} {D:Nat→Dm} {A:Nat→Option Addr} {C:Nat→Nat} (h:DimsAt w b o n D A C) {j:Nat} (hj:j<n*3):w.cell? ⟨b,o+j,none⟩=some (dcV D A C j):=by
 obtain ⟨h1,h2,h3,-⟩:=h.2 (j / 3) (by omega)
 unfold dcV
 split
 ·rename_i e;rw [show o+j=o+j / 3*3 by omega];exact h1
 ·split
  ·rename_i e;rw [show o+j=o+j / 3*3+1 by omega];exact h2
  ·rw [show o+j=o+j / 3*3+2 by omega];exact h3
theorem MemsAt.mc {w:World} {b o n:Nat} {M:Nat→Mem} (h:MemsAt w b o n M) {j:Nat} (hj:j<n*4):w.cell? ⟨b,o+j,none⟩=some (mcV M j):=by
 obtain ⟨h1,h2,h3,h4⟩:=h.2 (j / 4) (by omega)
 unfold mcV
 split
 ·rw [show o+j=o+j / 4*4 by omega];exact h1
 ·split
  ·rw [show o+j=o+j / 4*4+1 by omega];exact h2
  ·split
   ·rw [show o+j=o+j / 4*4+2 by omega];exact h3
   ·rw [show o+j=o+j / 4*4+3 by omega];exact h4
def MemO (w:World) (g n:Nat) (M:Nat→Mem):Prop := ∃ cur fr,w.heap[g]?=some (.cells cur 27 fr)∧∀ j,j<n*4→cur[j]?=some (mcV M j)
theorem MemO.lt {w:World} {g n:Nat} {M:Nat→Mem} (h:MemO w g n M):g<w.heap.size:=by
 obtain ⟨cur,fr,h1,-⟩:=h
 exact (Array.getElem?_eq_some_iff.1 h1).1
theorem MemO.same {w w':World} {g n:Nat} {M:Nat→Mem} (h:MemO w g n M) (hb:w'.heap[g]?=w.heap[g]?):MemO w' g n M:=by
 obtain ⟨cur,fr,h1,h2⟩:=h
 exact ⟨cur,fr,hb.trans h1,h2⟩
theorem MemO.mems {w:World} {g n:Nat} {M:Nat→Mem} (h:MemO w g n M):MemsAt w g 0 n M:=by
 refine ⟨h.lt,fun i hi=>?_⟩
 obtain ⟨cur,fr,h1,h2⟩:=h
 have e:∀ k,k<4→w.cell? ⟨g,0+i*4+k,none⟩=some (mcV M (i*4+k)):=fun k hk=>by
  rw [Lib.cell_of_heap h1,Nat.zero_add]
  exact h2 _ (by omega)
 refine ⟨(e 0 (by omega)).trans ?_,(e 1 (by omega)).trans ?_,(e 2 (by omega)).trans ?_,(e 3 (by omega)).trans ?_⟩
 ·unfold mcV;rw [if_pos (by omega),show (i*4+0) / 4=i by omega]
 ·unfold mcV;rw [if_neg (by omega),if_pos (by omega),show (i*4+1) / 4=i by omega]
 ·unfold mcV;rw [if_neg (by omega),if_neg (by omega),if_pos (by omega),show (i*4+2) / 4=i by omega]
 ·unfold mcV;rw [if_neg (by omega),if_neg (by omega),if_neg (by omega),show (i*4+3) / 4=i by omega]
theorem set_tyD {w:World} {g k T:Nat} {cs:Array Value} {fr:Nat×Nat} {v:Value} (h:w.heap[g]?=some (.cells cs T fr)):(w.setCell ⟨g,k,none⟩ v).heap[g]?=some (.cells (cs.setIfInBounds k v) T fr):=by
 rw [Sort.setCell_eq]
 unfold Sort.mapBlock
 simp only [Array.getElem?_modify,if_true,h,Option.map_some]
 rfl
def DimO (w:World) (g n:Nat) (f:Nat→Value):Prop := ∃ cur,w.heap[g]?=some (.cells cur 30 (0,0))∧∀ j,j<n*3→cur[j]?=some (f j)
theorem DimO.lt {w:World} {g n:Nat} {f:Nat→Value} (h:DimO w g n f):g<w.heap.size:=by
 obtain ⟨cur,h1,-⟩:=h
 exact (Array.getElem?_eq_some_iff.1 h1).1
theorem DimO.same {w w':World} {g n:Nat} {f:Nat→Value} (h:DimO w g n f) (hb:w'.heap[g]?=w.heap[g]?):DimO w' g n f:=by
 obtain ⟨cur,h1,h2⟩:=h
 exact ⟨cur,hb.trans h1,h2⟩
theorem DimO.later {w w':World} {g n:Nat} {f:Nat→Value} (h:DimO w g n f) (hB:Below w.heap.size w w'):DimO w' g n f:=h.same (hB.block g h.lt)
theorem DimO.cell {w:World} {g n:Nat} {f:Nat→Value} (h:DimO w g n f) {j:Nat} (hj:j<n*3):w.cell? ⟨g,j,none⟩=some (f j):=by
 obtain ⟨cur,h1,h2⟩:=h
 rw [Lib.cell_of_heap h1]
 exact h2 j hj
theorem DimO.frozen {w:World} {g n:Nat} {f:Nat→Value} (h:DimO w g n f) (j:Nat):w.frozen? ⟨g,j,none⟩=false:=by
 obtain ⟨cur,h1,-⟩:=h
 exact Lib.frozen_of_heap h1 j
theorem DimO.set {w:World} {g n:Nat} {f:Nat→Value} (h:DimO w g n f) {x:Nat} (hx:x<n*3) (v:Value):DimO (w.setCell ⟨g,x,none⟩ v) g n (fun j=>if j=x then v else f j):=by
 obtain ⟨cur,h1,h2⟩:=h
 refine ⟨cur.setIfInBounds x v,set_tyD h1,fun j hj=>?_⟩
 have hc:=h2 x hx
 dsimp only
 by_cases e:j=x
 ·subst e
  rw [if_pos rfl,Array.getElem?_setIfInBounds_self,if_pos (Array.getElem?_eq_some_iff.1 hc).1]
 ·rw [if_neg e,Array.getElem?_setIfInBounds_ne (fun h=>e h.symm)]
  exact h2 j hj
def DimsO (w:World) (N g n:Nat) (D:Nat→Dm) (G C:Nat→Nat):Prop:=N≤g∧DimO w g n (dcV D (fun i=>some ⟨G i,0,none⟩) C)∧∀ i,i<n→N≤G i∧(D i).n≤C i∧MemO w (G i) (D i).n (D i).mem
theorem DimsO.dims {w:World} {N g n:Nat} {D:Nat→Dm} {G C:Nat→Nat} (h:DimsO w N g n D G C):DimsAt w g 0 n D (fun i=>some ⟨G i,0,none⟩) C:=by
 refine ⟨h.2.1.lt,fun i hi=>?_⟩
 have e:∀ k,k<3→w.cell? ⟨g,0+i*3+k,none⟩=some (dcV D (fun i=>some ⟨G i,0,none⟩) C (i*3+k)):=fun k hk=>by
  rw [Nat.zero_add]
  exact h.2.1.cell (by omega)
 obtain ⟨-,h2,h3⟩:=h.2.2 i hi
 refine ⟨(e 0 (by omega)).trans ?_,(e 1 (by omega)).trans ?_,(e 2 (by omega)).trans ?_,h2,Or.inr ⟨G i,0,rfl,h3.mems⟩⟩
 ·unfold dcV;rw [if_pos (by omega),show (i*3+0) / 3=i by omega]
 ·unfold dcV;rw [if_neg (by omega),if_pos (by omega),show (i*3+1) / 3=i by omega]
 ·unfold dcV;rw [if_neg (by omega),if_neg (by omega),show (i*3+2) / 3=i by omega]
theorem rowF_mc (M:Nat→Mem) (n:Nat):rowF (mcV M) (n*4)=cellsMb M n:=by
 refine List.ext_getElem? fun j=>?_
 by_cases hj:j<n*4
 ·rw [rowF_get _ hj]
  obtain ⟨x0,x1,x2,x3⟩:=cellsMb_at M n (j / 4) (by omega)
  unfold mcV
  split
  ·rw [show (cellsMb M n)[j]?=(cellsMb M n)[j / 4*4]? from congrArg (fun t=>(cellsMb M n)[t]?) (by omega)];exact x0.symm
  ·split
   ·rw [show (cellsMb M n)[j]?=(cellsMb M n)[j / 4*4+1]? from congrArg (fun t=>(cellsMb M n)[t]?) (by omega)];exact x1.symm
   ·split
    ·rw [show (cellsMb M n)[j]?=(cellsMb M n)[j / 4*4+2]? from congrArg (fun t=>(cellsMb M n)[t]?) (by omega)];exact x2.symm
    ·rw [show (cellsMb M n)[j]?=(cellsMb M n)[j / 4*4+3]? from congrArg (fun t=>(cellsMb M n)[t]?) (by omega)];exact x3.symm
 ·rw [List.getElem?_eq_none (by rw [rowF_len];omega),List.getElem?_eq_none (by rw [cellsMb_len];omega)]
theorem rowF_dc (D:Nat→Dm) (A:Nat→Option Addr) (C:Nat→Nat) (n:Nat):rowF (dcV D A C) (n*3)=cellsDo D A C n:=by
 refine List.ext_getElem? fun j=>?_
 by_cases hj:j<n*3
 ·rw [rowF_get _ hj]
  obtain ⟨x0,x1,x2⟩:=cellsDo_at D A C n (j / 3) (by omega)
  unfold dcV
  split
  ·rw [show (cellsDo D A C n)[j]?=(cellsDo D A C n)[j / 3*3]? from congrArg (fun t=>(cellsDo D A C n)[t]?) (by omega)];exact x0.symm
  ·split
   ·rw [show (cellsDo D A C n)[j]?=(cellsDo D A C n)[j / 3*3+1]? from congrArg (fun t=>(cellsDo D A C n)[t]?) (by omega)];exact x1.symm
   ·rw [show (cellsDo D A C n)[j]?=(cellsDo D A C n)[j / 3*3+2]? from congrArg (fun t=>(cellsDo D A C n)[t]?) (by omega)];exact x2.symm
 ·rw [List.getElem?_eq_none (by rw [rowF_len];omega),List.getElem?_eq_none (by rw [cellsDo_len];omega)]
set_option maxHeartbeats 2000000 in
theorem mclone_own (b o c n:Nat) (M:Nat→Mem) (w:World) (hn0:0<n) (hn:n≤12) (hL:MemsAt w b o n M):Calls Tryz.prog 24 #[.slice (some ⟨b,o,none⟩) n c] w fun e w'=>(∃ g c',e=.returned (.slice (some ⟨g,0,none⟩) n c')∧w'.ownsRow w.heap.size 27 4 (.slice (some ⟨g,0,none⟩) n c') n (cellsMb M n))∧Below w.heap.size w w':=by
 have hq:∀ (w:World) (a:Option Addr) (n c n' c':Nat),(binOp .eql 28 (.slice a n c) (.slice none n' c')).run Tryz.prog w=.ok (.bool a.isNone) w:=fun w a n c n' c'=>Lib.run_eql_slice_nil w _ _ a n c n' c' Tryz.underlying28
 obtain ⟨i0,hi0,hz0,hz1,hz2⟩:=info_parts Tryz.infoMemH
 have HC:Hid (∀ j u,(rowF (mcV M) (n*4))[j]?=some u→w.cell? ((⟨b,o,none⟩:Addr).add j)=some u):=fun j u hj=>by
  obtain ⟨h1,rfl⟩:=rowF_at hj
  rw [plain_add]
  exact hL.mc h1
 have HF:Hid (∀ (w':World) (v:Value),w'.ownsRow w.heap.size 27 4 v n (rowF (mcV M) (n*4))→∃ g c',v=.slice (some ⟨g,0,none⟩) n c'∧w'.ownsRow w.heap.size 27 4 (.slice (some ⟨g,0,none⟩) n c') n (cellsMb M n)):=fun w' v h=>by
  rw [rowF_mc] at h
  rcases h.2 with ⟨rfl,h0⟩ | ⟨g,cap,cur,rfl,_⟩
  ·omega
  ·exact ⟨g,cap,rfl,h⟩
 have hl:(rowF (mcV M) (n*4)).length=n*4:=rowF_len _ _
 have h1:=mcV_one M (n*4)
 generalize rowF (mcV M) (n*4)=R at HC HF hl h1
 clear hL
 go_enter Tryz.func24,Tryz.ntmps24
 go_wp2_with (at_builtin;refine wpList_append_own _ rfl _ _ 28 rfl w.heap.size 27 i0 (.agg #[.string ⟨#[]⟩,.int .i64 0,.int .i64 0,.string ⟨#[]⟩]) 4 48 Tryz.underlying28 hi0 hz0 hz1 hz2 rfl (by decide) _ _ _ rfl (World.ownsRow_made w #[] 0 (Nat.le_refl _) (Nat.zero_le _) (by simp)) ⟨b,o,none⟩ n c R rfl ?qc1 ?qc2 ?qc3 ?qc4 ?qc5 ?qc6 ?_)
 case qc1=>exact hl
 case qc2=>exact fun j u hj=>Lib.cell?_alloc_some _ (HC.out j u hj)
 case qc3=>exact h1
 case qc4=>simp only [maxLen];omega
 case qc5=>omega
 case qc6=>simp
 intro v' w1 hown hgrow hnil
 obtain ⟨g,c',rfl,hg⟩:=HF.out _ _ (by simpa using hown)
 have HT:=hid_of hg
 have HB:Hid (Below w.heap.size w w1):=((Below.refl _ w).alloc (Nat.le_refl _) _).grown hgrow (by simp) (by intro k hk;simp [Value.ownBlock] at hk;omega)
 clear hown hgrow hnil hg
 go_wp2_with fail
 go_ret
 exact ⟨⟨g,c',rfl,HT.out⟩,HB.out⟩
set_option maxHeartbeats 2000000 in
theorem dclone_own (b o c n:Nat) (D:Nat→Dm) (A:Nat→Option Addr) (C:Nat→Nat) (w:World) (hn0:0<n) (hn:n≤4) (hL:DimsAt w b o n D A C):Calls Tryz.prog 22 #[.slice (some ⟨b,o,none⟩) n c] w fun e w'=>(∃ g c',e=.returned (.slice (some ⟨g,0,none⟩) n c')∧w'.ownsRow w.heap.size 30 3 (.slice (some ⟨g,0,none⟩) n c') n (cellsDo D A C n))∧Below w.heap.size w w':=by
 have hq:∀ (w:World) (a:Option Addr) (n c n' c':Nat),(binOp .eql 22 (.slice a n c) (.slice none n' c')).run Tryz.prog w=.ok (.bool a.isNone) w:=fun w a n c n' c'=>Lib.run_eql_slice_nil w _ _ a n c n' c' Tryz.underlying22
 obtain ⟨i0,hi0,hz0,hz1,hz2⟩:=info_parts Tryz.infoDimH
 have HC:Hid (∀ j u,(rowF (dcV D A C) (n*3))[j]?=some u→w.cell? ((⟨b,o,none⟩:Addr).add j)=some u):=fun j u hj=>by
  obtain ⟨h1,rfl⟩:=rowF_at hj
  rw [plain_add]
  exact hL.dc h1
 have HF:Hid (∀ (w':World) (v:Value),w'.ownsRow w.heap.size 30 3 v n (rowF (dcV D A C) (n*3))→∃ g c',v=.slice (some ⟨g,0,none⟩) n c'∧w'.ownsRow w.heap.size 30 3 (.slice (some ⟨g,0,none⟩) n c') n (cellsDo D A C n)):=fun w' v h=>by
  rw [rowF_dc] at h
  rcases h.2 with ⟨rfl,h0⟩ | ⟨g,cap,cur,rfl,_⟩
  ·omega
  ·exact ⟨g,cap,rfl,h⟩
 have hl:(rowF (dcV D A C) (n*3)).length=n*3:=rowF_len _ _
 have h1:=dcV_one D A C (n*3)
 generalize rowF (dcV D A C) (n*3)=R at HC HF hl h1
 clear hL
 go_enter Tryz.func22,Tryz.ntmps22
 go_wp2_with (at_builtin;refine wpList_append_own _ rfl _ _ 22 rfl w.heap.size 30 i0 (.agg #[.string ⟨#[]⟩,.int .i64 0,.slice none 0 0]) 3 48 Tryz.underlying22 hi0 hz0 hz1 hz2 rfl (by decide) _ _ _ rfl (World.ownsRow_made w #[] 0 (Nat.le_refl _) (Nat.zero_le _) (by simp)) ⟨b,o,none⟩ n c R rfl ?qc1 ?qc2 ?qc3 ?qc4 ?qc5 ?qc6 ?_)
 case qc1=>exact hl
 case qc2=>exact fun j u hj=>Lib.cell?_alloc_some _ (HC.out j u hj)
 case qc3=>exact h1
 case qc4=>simp only [maxLen];omega
 case qc5=>omega
 case qc6=>simp
 intro v' w1 hown hgrow hnil
 obtain ⟨g,c',rfl,hg⟩:=HF.out _ _ (by simpa using hown)
 have HT:=hid_of hg
 have HB:Hid (Below w.heap.size w w1):=((Below.refl _ w).alloc (Nat.le_refl _) _).grown hgrow (by simp) (by intro k hk;simp [Value.ownBlock] at hk;omega)
 clear hown hgrow hnil hg
 go_wp2_with fail
 go_ret
 exact ⟨⟨g,c',rfl,HT.out⟩,HB.out⟩
/-! rows of a call's own: what stays, what is stored -/
theorem ow_keep {w w':World} {B e size n:Nat} {v:Value} {xs:List Value} (h:w.ownsRow B e size v n xs) (hk:∀ b cs,B≤b→w.heap[b]?=some (.cells cs e (0,0))→w'.heap[b]?=w.heap[b]?):w'.ownsRow B e size v n xs:=by
 refine ⟨h.1,?_⟩
 rcases h.2 with h4 | ⟨g,cap,cur,h4,hb,hg,h5⟩
 ·exact Or.inl h4
 ·exact Or.inr ⟨g,cap,cur,h4,hb,(hk g cur hb hg).trans hg,h5⟩
theorem ow_base {w:World} {B B' e size n:Nat} {v:Value} {xs:List Value} (h:w.ownsRow B e size v n xs) (hB:B'≤B):w.ownsRow B' e size v n xs:=by
 refine ⟨h.1,?_⟩
 rcases h.2 with h4 | ⟨g,cap,cur,h4,hb,hg,h5⟩
 ·exact Or.inl h4
 ·exact Or.inr ⟨g,cap,cur,h4,Nat.le_trans hB hb,hg,h5⟩
theorem ow_same {w:World} {B e size n g cap j:Nat} {xs:List Value} {u:Value} (h:w.ownsRow B e size (.slice (some ⟨g,0,none⟩) n cap) n xs) (hu:xs[j]?=some u):(w.setCell ⟨g,j,none⟩ u).ownsRow B e size (.slice (some ⟨g,0,none⟩) n cap) n xs:=by
 have h1:=(h.stored j u).1
 rwa [show xs.set j u=xs from by
  refine List.ext_getElem? fun k=>?_
  rw [List.getElem?_set]
  split
  ·rename_i e;subst e;rw [hu];simp [(List.getElem?_eq_some_iff.1 hu).1]
  ·rfl] at h1
theorem ow_off {w:World} {B e size n g j:Nat} {v u:Value} {xs:List Value} (h:w.ownsRow B e size v n xs) (hne:v.ownBlock≠some g):(w.setCell ⟨g,j,none⟩ u).ownsRow B e size v n xs:=by
 refine ⟨h.1,?_⟩
 rcases h.2 with h4 | ⟨g',cap,cur,rfl,hb,hg,h5⟩
 ·exact Or.inl h4
 ·exact Or.inr ⟨g',cap,cur,rfl,hb,(setCell_off _ _ _ _ _ fun e=>hne (by rw [e];rfl)).trans hg,h5⟩
theorem ow_blk {w:World} {B e size n g cap:Nat} {xs:List Value} (h:w.ownsRow B e size (.slice (some ⟨g,0,none⟩) n cap) n xs):B≤g∧g<w.heap.size∧n≤cap∧cap≤maxLen∧∃ cur,w.heap[g]?=some (.cells cur e (0,0)):=by
 rcases h.2 with ⟨h',_⟩ | ⟨g',cap',cur,h',hb,hg,hnc,hcm,_⟩
 ·cases h'
 ·cases h'
  exact ⟨hb,(Array.getElem?_eq_some_iff.1 hg).1,hnc,hcm,cur,hg⟩
structure OwD (w:World) (B g cd n:Nat) (D:Nat→Dm) (G C:Nat→Nat):Prop where
 dims:w.ownsRow B 30 3 (.slice (some ⟨g,0,none⟩) n cd) n (cellsDo D (fun i=>some ⟨G i,0,none⟩) C n)
 mems:∀ i,i<n→w.ownsRow B 27 4 (.slice (some ⟨G i,0,none⟩) (D i).n (C i)) (D i).n (cellsMb (D i).mem (D i).n)
 apart:∀ i j,i<n→j<n→i≠j→G i≠G j
theorem OwD.keep {w w':World} {B g cd n:Nat} {D:Nat→Dm} {G C:Nat→Nat} (h:OwD w B g cd n D G C) (hk:∀ b cs e,B≤b→w.heap[b]?=some (.cells cs e (0,0))→e=30∨e=27→w'.heap[b]?=w.heap[b]?):OwD w' B g cd n D G C :=
 ⟨ow_keep h.dims fun b cs hb hg=>hk b cs _ hb hg (Or.inl rfl),fun i hi=>ow_keep (h.mems i hi) fun b cs hb hg=>hk b cs _ hb hg (Or.inr rfl),h.apart⟩
theorem OwD.later {w w':World} {B g cd n:Nat} {D:Nat→Dm} {G C:Nat→Nat} (h:OwD w B g cd n D G C) (hB:Below w.heap.size w w'):OwD w' B g cd n D G C :=
 h.keep fun b _ _ _ hg _=>hB.block b (Array.getElem?_eq_some_iff.1 hg).1
def FrW (w wr:World) (g cg k n:Nat) (D:Nat→Dm) (A:Nat→Option Addr) (C:Nat→Nat):Prop := ∃ G C':Nat→Nat,wr.ownsRow w.heap.size 30 3 (.slice (some ⟨g,0,none⟩) n cg) n (cellsDo D (fun i=>if i<k then some ⟨G i,0,none⟩ else A i) (fun i=>if i<k then C' i else C i) n)∧(∀ i,i<k→wr.ownsRow w.heap.size 27 4 (.slice (some ⟨G i,0,none⟩) (D i).n (C' i)) (D i).n (cellsMb (D i).mem (D i).n))∧∀ i j,i<k→j<k→i≠j→G i≠G j
theorem FrW.later {w wr w':World} {g cg k n:Nat} {D:Nat→Dm} {A:Nat→Option Addr} {C:Nat→Nat} (h:FrW w wr g cg k n D A C) (hB:Below wr.heap.size wr w'):FrW w w' g cg k n D A C:=by
 obtain ⟨G,C',h1,h2,h3⟩:=h
 exact ⟨G,C',own_later h1 hB,fun i hi=>own_later (h2 i hi) hB,h3⟩
theorem FrW.row {w wr:World} {g cg k n:Nat} {D:Nat→Dm} {A:Nat→Option Addr} {C:Nat→Nat} (h:FrW w wr g cg k n D A C) (hk:k<n):w.heap.size≤g∧g<wr.heap.size∧n≤cg∧wr.cell? ⟨g,k*3,none⟩=some (.string (D k).name)∧wr.cell? ⟨g,k*3+1,none⟩=some (.int .i64 (D k).solve)∧wr.cell? ⟨g,k*3+2,none⟩=some (.slice (A k) (D k).n (C k))∧∀ j,wr.frozen? ⟨g,j,none⟩=false:=by
 obtain ⟨G,C',h1,-,-⟩:=h
 obtain ⟨b1,b2,b3,-,-⟩:=ow_blk h1
 obtain ⟨x0,x1,x2⟩:=cellsDo_at D (fun i=>if i<k then some ⟨G i,0,none⟩ else A i) (fun i=>if i<k then C' i else C i) n k hk
 simp only [Nat.lt_irrefl,if_false] at x2
 exact ⟨b1,b2,b3,by rw [h1.cellAt _ (by omega)];exact x0,by rw [h1.cellAt _ (by omega)];exact x1,by rw [h1.cellAt _ (by omega)];exact x2,fun j=>h1.frozenAt j⟩
theorem FrW.name {w wr:World} {g cg k n:Nat} {D:Nat→Dm} {A:Nat→Option Addr} {C:Nat→Nat} (h:FrW w wr g cg k n D A C) (hk:k<n):FrW w (wr.setCell ⟨g,k*3,none⟩ (.string (D k).name)) g cg k n D A C:=by
 obtain ⟨G,C',h1,h2,h3⟩:=h
 obtain ⟨-,-,-,-,cur,hg⟩:=ow_blk h1
 exact ⟨G,C',ow_same h1 (cellsDo_at D _ _ n k hk).1,fun i hi=>ow_off (h2 i hi) (own_ne (h2 i hi) hg (by decide)),h3⟩
theorem FrW.put {w wy wr:World} {g cg k n gm cm:Nat} {D:Nat→Dm} {A:Nat→Option Addr} {C:Nat→Nat} (h:FrW w wy g cg k n D A C) (hk:k<n) (hB:Below wy.heap.size wy wr) (hww:w.heap.size≤wy.heap.size) (hm:wr.ownsRow wy.heap.size 27 4 (.slice (some ⟨gm,0,none⟩) (D k).n cm) (D k).n (cellsMb (D k).mem (D k).n)):FrW w (wr.setCell ⟨g,k*3+2,none⟩ (.slice (some ⟨gm,0,none⟩) (D k).n cm)) g cg (k+1) n D A C:=by
 obtain ⟨G,C',h1,h2,h3⟩:=h
 have g1:=own_later h1 hB
 obtain ⟨-,-,-,-,cur,hg⟩:=ow_blk g1
 have hgm:=(ow_blk hm).1
 have hlt:∀ i,i<k→G i<wy.heap.size:=fun i hi=>(ow_blk (h2 i hi)).2.1
 refine ⟨fun i=>if i=k then gm else G i,fun i=>if i=k then cm else C' i,?_,fun i hi=>?_,fun i j hi hj hne=>?_⟩
 ·have h4:=(g1.stored (k*3+2) (.slice (some ⟨gm,0,none⟩) (D k).n cm)).1
  rwa [show (cellsDo D (fun i=>if i<k then some ⟨G i,0,none⟩ else A i) (fun i=>if i<k then C' i else C i) n).set (k*3+2) (.slice (some ⟨gm,0,none⟩) (D k).n cm)=cellsDo D (fun i=>if i<k+1 then some ⟨if i=k then gm else G i,0,none⟩ else A i) (fun i=>if i<k+1 then (if i=k then cm else C' i) else C i) n from by
   refine List.ext_getElem? fun j=>?_
   rw [List.getElem?_set]
   by_cases hj:j<n*3
   ·obtain ⟨x0,x1,x2⟩:=cellsDo_at D (fun i=>if i<k then some ⟨G i,0,none⟩ else A i) (fun i=>if i<k then C' i else C i) n (j / 3) (by omega)
    obtain ⟨y0,y1,y2⟩:=cellsDo_at D (fun i=>if i<k+1 then some ⟨if i=k then gm else G i,0,none⟩ else A i) (fun i=>if i<k+1 then (if i=k then cm else C' i) else C i) n (j / 3) (by omega)
    rcases (by omega:j % 3=0∨j % 3=1∨j % 3=2) with e | e | e
    ·rw [if_neg (by omega),show j=j / 3*3 by omega,x0,y0]
    ·rw [if_neg (by omega),show j=j / 3*3+1 by omega,x1,y1]
    ·rw [show j=j / 3*3+2 by omega,x2,y2]
     by_cases e2:j / 3=k
     ·rw [if_pos (by omega),if_pos (by rw [cellsDo_len];omega),if_pos (by omega),if_pos e2,if_pos (by omega),if_pos e2,e2]
     ·rw [if_neg (by omega),if_neg e2,if_neg e2]
      by_cases e3:j / 3<k
      ·rw [if_pos e3,if_pos e3,if_pos (by omega),if_pos (by omega)]
      ·rw [if_neg e3,if_neg e3,if_neg (by omega),if_neg (by omega)]
   ·rw [if_neg (by omega),List.getElem?_eq_none (by rw [cellsDo_len];omega),List.getElem?_eq_none (by rw [cellsDo_len];omega)]] at h4
 ·dsimp only
  by_cases e:i=k
  ·subst e
   rw [if_pos rfl,if_pos rfl]
   exact ow_base (ow_off hm (own_ne hm hg (by decide))) hww
  ·rw [if_neg e,if_neg e]
   have h5:=own_later (h2 i (by omega)) hB
   exact ow_off h5 (own_ne h5 hg (by decide))
 ·dsimp only
  by_cases e1:i=k
  ·rw [if_pos e1,if_neg (by omega)]
   have:=hlt j (by omega)
   omega
  ·rw [if_neg e1]
   by_cases e2:j=k
   ·rw [if_pos e2]
    have:=hlt i (by omega)
    omega
   ·rw [if_neg e2]
    exact h3 i j (by omega) (by omega) hne
theorem FrW.all {w wr:World} {g cg n:Nat} {D:Nat→Dm} {A:Nat→Option Addr} {C:Nat→Nat} (h:FrW w wr g cg n n D A C):∃ G C',OwD wr w.heap.size g cg n D G C':=by
 obtain ⟨G,C',h1,h2,h3⟩:=h
 refine ⟨G,C',?_,h2,h3⟩
 rwa [cellsDo_same (A':=fun i=>some ⟨G i,0,none⟩) (C':=C') n fun i hi=>⟨if_pos hi,if_pos hi⟩] at h1
end Go.Proofs.YtnlfpaopfloklaaGreatDoor
