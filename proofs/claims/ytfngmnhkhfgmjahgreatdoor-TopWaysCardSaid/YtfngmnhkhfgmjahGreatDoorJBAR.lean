/-
  The parts of a member, as Parts of package tree answers, in a row of the call's own.
-/
import Derived.WalkSpells
import Derived.WalkLawsBesides
import Derived.Test.YtfngmnhkhfgmjahGreatDoorJBAP
namespace Go.Proofs.YtfngmnhkhfgmjahGreatDoor
open Go.ChangeShapes Go.WideShapes Go.ChangeAt Go.RowKit
set_option maxRecDepth 20000
theorem own_low {w:World} {b b' e size n:Nat} {v:Value} {xs:List Value} (h:w.ownsRow b e size v n xs) (hb:b'≤b):w.ownsRow b' e size v n xs:=by
 refine ⟨h.1,?_⟩
 rcases h.2 with h0 | ⟨g,cap,cur,h1,h2,h3⟩
 ·exact Or.inl h0
 ·exact Or.inr ⟨g,cap,cur,h1,Nat.le_trans hb h2,h3⟩
set_option maxHeartbeats 2000000 in
theorem places_own (fn q r:Nat) (he:EntersO fn) (A:Option Addr) (n cap:Nat) (p:Nat→Bool) (w:World) (hn:n≤12) (hp:AskP fn q r w n p):Calls Tryz.prog 172 #[.slice A n cap,.func (.func fn) #[] #[.pointer (some ⟨q,0,none⟩),.pointer (some ⟨r,0,none⟩)]] w fun e w'=>(∃ v,e=.returned v∧w'.ownsRow w.heap.size 3 1 v (selTo p n).length (mapI (selTo p n)))∧Below w.heap.size w w':=by
 obtain ⟨i0,hi0,hz0,hz1,hz2⟩:=info_parts Tryz.infoInt
 have HP:Hid (AskP fn q r w n p):=hp
 have hn':(n:Int)≤12:=by omega
 clear hp
 unfold EntersO at he
 go_enter Tryz.func172,Tryz.ntmps172
 go_wp2_with fail
 go_loopg [5,9] n (fun g s5 s9 wr => ∃ (k:Nat),k≤n∧g=n-k∧s9=.int .i64 k∧wr.ownsRow w.heap.size 3 1 s5 (selTo p k).length (mapI (selTo p k))∧Below w.heap.size w wr)
 case atStart=>exact ⟨0,Nat.zero_le _,rfl,rfl,World.ownsRow_nil _ _ _ _,Below.refl _ _⟩
 case round =>
  obtain ⟨k,hk,rfl,rfl,hown,hBw⟩:=hrel
  have HW:Hid (Below w.heap.size w wr):=hBw
  have HO:Hid (wr.ownsRow w.heap.size 3 1 _ (selTo p k).length (mapI (selTo p k))):=hown
  by_cases hlt:k<n
  ·have hki:(k:Int)<(n:Int):=by omega
   have hbd:=HP.out k wr hlt hBw
   clear hBw hown
   cases hb:p k
   ·rw [hb] at hbd
    have HK:Hid (p k=false):=hb
    clear hb
    go_wp2_with fail
    refine hbd.mono ?_
    rintro e w1 ⟨rfl,hb1⟩
    go_wp2_with fail
    go_roundg (n-(k+1))
    case measure=>omega
    case rel=>exact ⟨k+1,by omega,rfl,by go_num,by rw [selTo_miss HK.out];exact own_later HO.out hb1,onB HW.out hb1⟩
   ·rw [hb] at hbd
    have HK:Hid (p k=true):=hb
    have hlen:=selTo_len p k
    clear hb
    go_wp2_with fail
    refine hbd.mono ?_
    rintro e w1 ⟨rfl,hb1⟩
    have hown:=own_later HO.out hb1
    have hB1:=onB HW.out hb1
    have hsz:=hB1.size
    have HB1:Hid (Below w.heap.size w w1):=hB1
    clear hb1 hB1
    go_wp2_with (at_builtin;refine wpList_append_own _ rfl _ _ 22 rfl w.heap.size 3 i0 (.int .i64 0) 1 8 Tryz.underlying22 hi0 hz0 hz1 hz2 rfl (by decide) _ _ _ rfl (hown.alloc _) ⟨w1.heap.size,0,none⟩ 1 1 [.int .i64 k] rfl rfl one_cell one_one (by unfold maxLen;omega) (by omega) (by simp;omega) ?_)
    intro v' w2 hown' hgrow _
    have HB2:Hid (Below w.heap.size w w2):=grown_own HB1.out hown hgrow
    have HO2:Hid (w2.ownsRow w.heap.size 3 1 v' (selTo p (k+1)).length (mapI (selTo p (k+1)))):=by
     show World.ownsRow ..
     rw [selTo_hit HK.out,mapI_snoc,List.length_append];exact hown'
    clear hown' hgrow hown
    go_wp2_with fail
    go_roundg (n-(k+1))
    case measure=>omega
    case rel=>exact ⟨k+1,by omega,rfl,by go_num,HO2.out,HB2.out⟩
  ·have hke:k=n:=by omega
   subst hke
   clear hBw hown
   go_wp2_with fail
   go_ret
   exact ⟨⟨_,rfl,HO.out⟩,HW.out⟩
set_option maxHeartbeats 2000000 in
theorem parts_own (d:Dm) (A:Option Addr) (cap:Nat) (k:Nat) (w:World) (hd:(dimErr d).2=0) (hk:k<d.n) (hM:MemsV w A cap d.n d.mem):Calls Tryz.prog 146 #[dimV d A cap,.int .i64 k] w fun e w'=>(∃ v,e=.returned (.tuple #[v,.nilIface])∧w'.ownsRow w.heap.size 3 1 v (partsOf d.mem d.n k).length (mapI (partsOf d.mem d.n k)))∧Below w.heap.size w w':=by
 have hB0:=ownQ_below w d A cap k 63 3
 have hck:=tcheck_any d A cap _ 1 [(k:Int)] (ownQ w d A cap k 63 3) (hM.later hB0) (by simp) (ownQ_ints ..)
 have HB0:Hid (Below w.heap.size w (ownQ w d A cap k 63 3)):=hB0
 have HM:Hid (MemsV w A cap d.n d.mem):=hM
 unfold dimV at hck ⊢
 simp only [List.length_singleton] at hck
 clear hM hB0
 have he:treeErr d [(k:Int)]=0:=by rw [treeErr_one hd,if_neg (by omega)]
 ·rw [he,errV_zero] at hck
  obtain ⟨-,-,hd2,-⟩:=dimErr_right hd
  clear he hd
  go_enter Tryz.func146,Tryz.ntmps146
  go_wp2_with fail
  refine hck.mono ?_
  rintro e w1 ⟨rfl,hb1⟩
  have hB:Below w.heap.size w w1:=onB HB0.out hb1
  have hz:w.heap.size+1<w1.heap.size:=by have:=hb1.size;rw [ownQ_size] at this;omega
  have h2:w1.cell? ⟨w.heap.size,2,none⟩=some (.slice A d.n cap):=(hb1.cell (p:=⟨w.heap.size,2,none⟩) (by show w.heap.size<_;rw [ownQ_size];omega)).trans (ownQ_dim ..)
  have h3:w1.cell? ⟨w.heap.size+1,0,none⟩=some (.int .i64 k):=(hb1.cell (p:=⟨w.heap.size+1,0,none⟩) (by show w.heap.size+1<_;rw [ownQ_size];omega)).trans (ownQ_int ..)
  obtain ⟨hcap,h0 | ⟨b,o,rfl,hMs⟩⟩:=HM.out.later hB
  ·omega
  have hpl:=places_own 183 w.heap.size (w.heap.size+1) parts1_in (some ⟨b,o,none⟩) d.n cap (partB d.mem k) w1 hd2 (fun j w' hj hw'=>parts1_any b o d.n cap j w.heap.size (w.heap.size+1) d.mem k w' hj hd2 (hMs.later hw') ((hw'.cell (p:=⟨w.heap.size,2,none⟩) (by show w.heap.size<_;omega)).trans h2) ((hw'.cell (p:=⟨w.heap.size+1,0,none⟩) hz).trans h3))
  have HB:Hid (Below w.heap.size w w1):=hB
  clear hb1 hck hMs h3 hB
  go_wp2_with fail
  refine hpl.mono ?_
  rintro e w2 ⟨⟨v2,rfl,hO2⟩,hb2⟩
  have HO2:Hid (w2.ownsRow w1.heap.size 3 1 v2 (selTo (partB d.mem k) d.n).length (mapI (selTo (partB d.mem k) d.n))):=hO2
  have HB2:Hid (Below w.heap.size w w2):=onB HB.out hb2
  clear hO2 hb2 hpl
  go_wp2_with fail
  go_ret2
  exact ⟨⟨v2,rfl,own_low HO2.out HB.out.size⟩,HB2.out⟩
end Go.Proofs.YtfngmnhkhfgmjahGreatDoor
namespace Go.Proofs.YtfngmnhkhfgmjahGreatDoor
open Go.ChangeShapes Go.WideShapes Go.ChangeAt Go.RowKit Go.Lib
set_option maxRecDepth 20000
def Edited (M:Nat) (w:World) (g:Nat) (E:Int) (l:List En) (e:Ending) (w':World):Prop :=
 (∃ B c ys,e=.returned (.tuple #[.slice B ys.length c,errV E])∧((E≠0∧B=none∧c=0∧ys=[])∨(E=0∧∃ g',B=some ⟨g',0,none⟩∧g≤g'∧RowE w' g' c ys∧lE ys=l∧NewE M ys)))∧w.grownBy w' (some g)
theorem edit_set (D:Nat→Dm) (n:Nat) (l:List En) (p:List Int) (N:Int):editErr D n l ⟨p,N,false⟩=entOne D n ⟨p,N⟩:=by
 unfold editErr entOne
 rfl
set_option maxHeartbeats 8000000 in
theorem iset1_any {M:Nat} (A0:Option Addr) (cap n:Nat) (D:Nat→Dm) (A:Nat→Option Addr) (C:Nat→Nat) (g cg:Nat) (xs:List EnL) (Ap:Option Addr) (cp:Nat) (p:List Int) (N:Int) (w:World) (hM:DimsV w A0 cap n D A C) (hP:PlAt w Ap cp p) (hR:RowE w g cg xs) (hEs:Ens D n (lE xs)) (hMx:NewE M xs) (hMw:M≤w.heap.size) :
  Calls Tryz.prog 106 #[.agg #[.slice A0 n cap],.slice (some ⟨g,0,none⟩) xs.length cg,.agg #[.slice Ap p.length cp,.int .i64 N]] w fun e w'=>Edited M w g (editErr D n (lE xs) ⟨p,N,false⟩) (setL (lE xs) p N) e w':=by
 rw [edit_set]
 have hB0:=ownOE_below w A0 n cap Ap p.length cp N
 have h:=icheck1_any A0 cap n D A C Ap cp ⟨p,N⟩ (ownOE w A0 n cap Ap p.length cp N) hEs.right (hM.later hB0) (hP.later hB0)
 have HB0:Hid (Below w.heap.size w (ownOE w A0 n cap Ap p.length cp N)):=hB0
 have hS0:=ownOE_size w A0 n cap Ap p.length cp N
 have h00:=ownOE_0 w A0 n cap Ap p.length cp N
 have h01:=ownOE_1 w A0 n cap Ap p.length cp N
 have HP:Hid (PlAt w Ap cp p):=hP
 have HR:Hid (RowE w g cg xs):=hR
 have HEs:Hid (Ens D n (lE xs)):=hEs
 have hgw:g<w.heap.size:=hR.lt
 have hfew:=few_of hEs
 unfold Edited
 clear hM hP hB0 hR
 by_cases he:entOne D n ⟨p,N⟩=0
 ·obtain ⟨hI,-,-⟩:=entOne_right hEs.right he
  have HF:Hid (∀ w',Below w.heap.size w w'→Calls Tryz.prog 153 #[.slice (some ⟨g,0,none⟩) xs.length cg,.slice Ap p.length cp] w' fun e w''=>e=.returned (.tuple #[.int .i64 (cntE (lE xs) p:Nat),.bool (hasE (lE xs) p)])∧Below w'.heap.size w' w''):=fun w' hw'=>ifind_any _ _ xs Ap cp p w' hfew ((HR.out.later hw').ensV) HEs.out.rise (short_of HEs.out hI) (HP.out.later hw')
  have HCl:Hid (∀ w',Below w.heap.size w w'→Calls Tryz.prog 82 #[.slice Ap p.length cp] w' fun e w''=>(∃ A' c',e=.returned (.slice A' p.length c')∧PlTy w'' A' c' p∧NewA M A')∧Below w'.heap.size w' w''):=fun w' hw'=>(clone_new _ _ _ w' (inO_short hI) (HP.out.later hw')).mono fun _ _ ⟨⟨A',c',h1,h2,h3⟩,h4⟩=>⟨⟨A',c',h1,h2,h3.le (Nat.le_trans hMw hw'.size)⟩,h4⟩
  have hcl:=cnt_le (lE xs) p
  rw [lE_len] at hcl
  rw [he,errV_zero] at h ⊢
  clear he hI
  cases hh:hasE (lE xs) p
  ·-- nothing stood there
   have HIn:Hid (∀ (w3:World) (A':Option Addr) (c':Nat),Below w.heap.size w w3→PlTy w3 A' c' p∧NewA M A'→Calls Tryz.prog 155 #[.slice (some ⟨g,0,none⟩) xs.length cg,.int .i64 (cntE (lE xs) p:Nat),.slice (some ⟨w3.heap.size,0,none⟩) 1 1] (ownEn w3 A' p.length c' N 69) fun e w' => ∃ g' cap' ys,e=.returned (.slice (some ⟨g',0,none⟩) (xs.length+1) cap')∧ys.length=xs.length+1∧RowE w' g' cap' ys∧lE ys=setL (lE xs) p N∧NewE M ys∧g≤g'∧(ownEn w3 A' p.length c' N 69).grownBy w' (some g)):=fun w3 A' c' hw' hT=>by
    have hb:=ownEn_below w3 A' p.length c' N 69
    have h1:=insert_any g cg (cntE (lE xs) p) w3.heap.size xs ⟨⟨p,N⟩,A',c'⟩ (ownEn w3 A' p.length c' N 69) hfew hcl (by have:=hw'.size;omega) ((HR.out.later hw').later hb) (hT.1.later hb) (heap_alloc_new w3 _)
    refine h1.mono ?_
    rintro e w' ⟨g',cap',rfl,hRow,hgg,hgr⟩
    exact ⟨g',cap',_,rfl,by simp;omega,hRow,by rw [lE_ins,set_new hh],hMx.put hT.2,hgg,hgr⟩
   have HFF:Hid (∀ w',Below w.heap.size w w'→Calls Tryz.prog 153 #[.slice (some ⟨g,0,none⟩) xs.length cg,.slice Ap p.length cp] w' fun e w''=>e=.returned (.tuple #[.int .i64 (cntE (lE xs) p:Nat),.bool false])∧Below w'.heap.size w' w''):=fun w' hw'=>by have h1:=HF.out w' hw';rw [hh] at h1;exact h1
   clear HF hh
   generalize cntE (lE xs) p=i at HFF HIn hcl
   obtain ⟨m,hm⟩:∃ m,p.length=m:=⟨_,rfl⟩
   obtain ⟨nx,hnx⟩:∃ nx,xs.length=nx:=⟨_,rfl⟩
   rw [hm] at h HB0 hS0 h00 h01 HCl HFF HIn ⊢
   rw [hnx] at HFF HIn hfew hcl ⊢
   clear hm hnx
   go_enter Tryz.func106,Tryz.ntmps106
   go_wp2_with fail
   refine h.mono ?_
   rintro e w1 ⟨rfl,hb1⟩
   have hB1:Below w.heap.size w w1:=onB HB0.out hb1
   have HB1:Hid (Below w.heap.size w w1):=hB1
   have c0:w1.cell? ⟨w.heap.size+1,0,none⟩=some (.slice Ap m cp):=(hb1.cell (p:=⟨w.heap.size+1,0,none⟩) (by show w.heap.size+1<_;omega)).trans h00
   have c1:w1.cell? ⟨w.heap.size+1,1,none⟩=some (.int .i64 N):=(hb1.cell (p:=⟨w.heap.size+1,1,none⟩) (by show w.heap.size+1<_;omega)).trans h01
   have hz1:w.heap.size+1<w1.heap.size:=by have:=hb1.size;omega
   have h2:=HFF.out w1 hB1
   clear hb1 h hB1 h00 h01 hS0
   go_wp2_with fail
   refine h2.mono ?_
   rintro e w2 ⟨rfl,hb2⟩
   have HB2:Hid (Below w.heap.size w w2):=onB HB1.out hb2
   have d0:w2.cell? ⟨w.heap.size+1,0,none⟩=some (.slice Ap m cp):=(hb2.cell (p:=⟨w.heap.size+1,0,none⟩) hz1).trans c0
   have d1:w2.cell? ⟨w.heap.size+1,1,none⟩=some (.int .i64 N):=(hb2.cell (p:=⟨w.heap.size+1,1,none⟩) hz1).trans c1
   have HBox:Hid (w.heap.size+1<w2.heap.size∧w.heap.size+1≠g∧w2.cell? ⟨w.heap.size+1,0,none⟩=some (.slice Ap m cp)∧w2.cell? ⟨w.heap.size+1,1,none⟩=some (.int .i64 N)):=⟨Nat.lt_of_lt_of_le hz1 hb2.size,by omega,d0,d1⟩
   clear hb2 c0 c1 h2 d0 d1
   go_wp2_with fail
   go_region_held3 (fun w'=>w2.grownBy w' (some g)∧w'.cell? ⟨w.heap.size+1,0,none⟩=some (.slice Ap m cp)∧w'.cell? ⟨w.heap.size+1,1,none⟩=some (.int .i64 N))
    ((refine keepG HBox.out ?_;(repeat (first | exact grown_refl _ _ | assumption | refine grown_drew ?_ | refine grown_set ?_ _ _ | refine grown_new ?_ _));done))
    (first | (go_at_call 82;refine (HCl.out _ (onB HB2.out (by go_grown))).mono ?_;rintro e w3 ⟨⟨A',c',rfl,hPT,hNw⟩,hb3⟩;have hN3:=onB (W0:=w2) (by go_grown) hb3;have hG3:w2.grownBy w3 (some g):=grown_below hN3;have HB3:Hid (Below w2.heap.size w2 w3):=hN3;have HPT:Hid (PlTy w3 A' c' p∧NewA M A'):=⟨hPT,hNw⟩;clear hb3 hN3 hPT hNw) | (go_at_call 155;refine (HIn.out w3 A' c' (onB HB2.out HB3.out) HPT.out).mono ?_;rintro e w4 ⟨g',cap',ys,rfl,hyl,hRow,hle,hnw,hgg,hgr⟩;have hG4:w2.grownBy w4 (some g):=grown_trans (grown_trans hG3 (grown_below (ownEn_below ..))) hgr;have HRow:Hid (RowE w4 g' cap' ys):=hRow;have HLE:Hid (lE ys=setL (lE xs) p N∧NewE M ys):=⟨hle,hnw⟩;have HYL:Hid (ys.length=nx+1):=hyl;clear hRow hle hgr hyl hnw))
   go_wp2_with fail
   go_ret2
   exact ⟨⟨some ⟨g',0,none⟩,cap',ys,by rw [HYL.out];rfl,Or.inr ⟨by trivial,g',rfl,hgg,HRow.out,HLE.out⟩⟩,grown_trans (grown_below HB2.out) hG4⟩
  ·-- something stood there
   obtain ⟨hso,hil,-⟩:=set_old hh N
   have HSN:Hid (∀ w',Below w.heap.size w w'→RowE (w'.setCell ⟨g,cntE (lE xs) p*2+1,none⟩ (.int .i64 N)) g cg (xs.set (cntE (lE xs) p) ⟨⟨(xs.getD (cntE (lE xs) p) noL).e.pl,N⟩,(xs.getD (cntE (lE xs) p) noL).A,(xs.getD (cntE (lE xs) p) noL).c⟩)∧w'.grownBy (w'.setCell ⟨g,cntE (lE xs) p*2+1,none⟩ (.int .i64 N)) (some g)):=fun w' hw'=>(HR.out.later hw').setN (by rw [lE_len] at hil;exact hil) N
   have HLE:Hid (lE (xs.set (cntE (lE xs) p) ⟨⟨(xs.getD (cntE (lE xs) p) noL).e.pl,N⟩,(xs.getD (cntE (lE xs) p) noL).A,(xs.getD (cntE (lE xs) p) noL).c⟩)=setL (lE xs) p N∧NewE M (xs.set (cntE (lE xs) p) ⟨⟨(xs.getD (cntE (lE xs) p) noL).e.pl,N⟩,(xs.getD (cntE (lE xs) p) noL).A,(xs.getD (cntE (lE xs) p) noL).c⟩)):=⟨by rw [lE_set,hso,lE_at],hMx.set (by rw [lE_len] at hil;exact hil) _ _⟩
   have HFF:Hid (∀ w',Below w.heap.size w w'→Calls Tryz.prog 153 #[.slice (some ⟨g,0,none⟩) xs.length cg,.slice Ap p.length cp] w' fun e w''=>e=.returned (.tuple #[.int .i64 (cntE (lE xs) p:Nat),.bool true])∧Below w'.heap.size w' w''):=fun w' hw'=>by have h1:=HF.out w' hw';rw [hh] at h1;exact h1
   have HYL:Hid ((xs.set (cntE (lE xs) p) ⟨⟨(xs.getD (cntE (lE xs) p) noL).e.pl,N⟩,(xs.getD (cntE (lE xs) p) noL).A,(xs.getD (cntE (lE xs) p) noL).c⟩).length=xs.length):=List.length_set
   rw [lE_len] at hil
   clear HF hh hso
   generalize xs.set (cntE (lE xs) p) ⟨⟨(xs.getD (cntE (lE xs) p) noL).e.pl,N⟩,(xs.getD (cntE (lE xs) p) noL).A,(xs.getD (cntE (lE xs) p) noL).c⟩=ys at HSN HLE HYL
   generalize cntE (lE xs) p=i at HFF HSN hcl hil
   obtain ⟨m,hm⟩:∃ m,p.length=m:=⟨_,rfl⟩
   obtain ⟨nx,hnx⟩:∃ nx,xs.length=nx:=⟨_,rfl⟩
   rw [hm] at h HB0 hS0 h00 h01 HCl HFF ⊢
   rw [hnx] at HFF hfew hcl hil HYL ⊢
   have hil':(i:Int)<(nx:Int):=by omega
   have hcg:nx≤cg:=by rw [←hnx];exact HR.out.2.1
   clear hm hnx HCl
   go_enter Tryz.func106,Tryz.ntmps106
   go_wp2_with fail
   refine h.mono ?_
   rintro e w1 ⟨rfl,hb1⟩
   have hB1:Below w.heap.size w w1:=onB HB0.out hb1
   have HB1:Hid (Below w.heap.size w w1):=hB1
   have c0:w1.cell? ⟨w.heap.size+1,0,none⟩=some (.slice Ap m cp):=(hb1.cell (p:=⟨w.heap.size+1,0,none⟩) (by show w.heap.size+1<_;omega)).trans h00
   have c1:w1.cell? ⟨w.heap.size+1,1,none⟩=some (.int .i64 N):=(hb1.cell (p:=⟨w.heap.size+1,1,none⟩) (by show w.heap.size+1<_;omega)).trans h01
   have hz1:w.heap.size+1<w1.heap.size:=by have:=hb1.size;omega
   have h2:=HFF.out w1 hB1
   clear hb1 h hB1 h00 h01 hS0
   go_wp2_with fail
   refine h2.mono ?_
   rintro e w2 ⟨rfl,hb2⟩
   have hB2:Below w.heap.size w w2:=onB HB1.out hb2
   have HB2:Hid (Below w.heap.size w w2):=hB2
   have d1:w2.cell? ⟨w.heap.size+1,1,none⟩=some (.int .i64 N):=(hb2.cell (p:=⟨w.heap.size+1,1,none⟩) hz1).trans c1
   obtain ⟨u,hu⟩:=Option.isSome_iff_exists.1 ((HR.out.later hB2).full (j:=i*2+1) (by omega))
   have hf:=(HR.out.later hB2).frozen (i*2+1)
   clear hb2 c0 c1 h2 hB2
   go_wp2_with fail
   go_ret2
   obtain ⟨r1,r2⟩:=HSN.out w2 HB2.out
   exact ⟨⟨some ⟨g,0,none⟩,cg,ys,by rw [HYL.out];rfl,Or.inr ⟨by trivial,g,rfl,Nat.le_refl _,r1,HLE.out⟩⟩,grown_trans (grown_below HB2.out) r2⟩
 ·have HV:Hid (errV (entOne D n ⟨p,N⟩)=.iface 86 (.int .i64 (entOne D n ⟨p,N⟩))):=errV_some he
  rw [errV_some he] at h
  have HE:Hid (entOne D n ⟨p,N⟩≠0):=he
  generalize entOne D n ⟨p,N⟩=E at h HV HE
  generalize p.length=m at h HB0
  generalize xs.length=nx
  clear he hS0 h00 h01 hfew
  go_enter Tryz.func106,Tryz.ntmps106
  go_wp2_with fail
  refine h.mono ?_
  rintro e w1 ⟨rfl,hb1⟩
  have HB1:Hid (Below w.heap.size w w1):=onB HB0.out hb1
  clear hb1
  go_wp2_with fail
  go_ret2
  rw [HV.out]
  exact ⟨⟨none,0,[],rfl,Or.inl ⟨HE.out,rfl,rfl,rfl⟩⟩,grown_below HB1.out⟩
theorem edit_clr {D:Nat→Dm} {n:Nat} {l:List En} (hR:(allErr D n).2.2=0) (p:List Int) (N:Int):editErr D n l ⟨p,N,true⟩=if placeErr D n p≠0 then placeErr D n p else if hasE l p=true then 0 else 5:=by
 rw [pe1 hR]
 unfold editErr
 rfl
theorem clr_in {l:List En} {p:List Int} (h:hasE l p=true):cntE l p<l.length:=(set_old h 0).2.1
set_option maxHeartbeats 8000000 in
theorem without_any {M:Nat} (A0:Option Addr) (cap n:Nat) (D:Nat→Dm) (A:Nat→Option Addr) (C:Nat→Nat) (g cg:Nat) (xs:List EnL) (Ap:Option Addr) (cp:Nat) (p:List Int) (N:Int) (w:World) (hM:DimsV w A0 cap n D A C) (hP:PlAt w Ap cp p) (hR:RowE w g cg xs) (hEs:Ens D n (lE xs)) (hMx:NewE M xs) :
  Calls Tryz.prog 105 #[.agg #[.slice A0 n cap],.slice (some ⟨g,0,none⟩) xs.length cg,.slice Ap p.length cp] w fun e w'=>Edited M w g (editErr D n (lE xs) ⟨p,N,true⟩) (clrL (lE xs) p) e w':=by
 have hV:=edit_clr (l:=lE xs) hEs.right p N
 have hB0:=ownOut_below w A0 n cap 30
 have h:=pcheck_any A0 cap n D A C Ap cp p (ownOut w A0 n cap 30) (hM.later hB0) (hP.later hB0)
 have HB0:Hid (Below w.heap.size w (ownOut w A0 n cap 30)):=hB0
 have HP:Hid (PlAt w Ap cp p):=hP
 have HR:Hid (RowE w g cg xs):=hR
 have HEs:Hid (Ens D n (lE xs)):=hEs
 have hfew:=few_of hEs
 unfold Edited
 clear hM hP hB0 hR
 by_cases hp:placeErr D n p=0
 ·rw [if_neg (by simpa using hp)] at hV
  have hI:=inO_of hp
  have HF:Hid (∀ w',Below w.heap.size w w'→Calls Tryz.prog 153 #[.slice (some ⟨g,0,none⟩) xs.length cg,.slice Ap p.length cp] w' fun e w''=>e=.returned (.tuple #[.int .i64 (cntE (lE xs) p:Nat),.bool (hasE (lE xs) p)])∧Below w'.heap.size w' w''):=fun w' hw'=>ifind_any _ _ xs Ap cp p w' hfew ((HR.out.later hw').ensV) HEs.out.rise (short_of HEs.out hI) (HP.out.later hw')
  rw [hp,errV_zero] at h
  clear hp hI
  cases hh:hasE (lE xs) p
  ·rw [hh,if_neg (by simp)] at hV
   have HV:Hid (errV (editErr D n (lE xs) ⟨p,N,true⟩)=.iface 86 (.int .i64 5)∧editErr D n (lE xs) ⟨p,N,true⟩≠0):=by rw [hV];exact ⟨rfl,by decide⟩
   have HFF:Hid (∀ w',Below w.heap.size w w'→Calls Tryz.prog 153 #[.slice (some ⟨g,0,none⟩) xs.length cg,.slice Ap p.length cp] w' fun e w''=>e=.returned (.tuple #[.int .i64 (cntE (lE xs) p:Nat),.bool false])∧Below w'.heap.size w' w''):=fun w' hw'=>by have h1:=HF.out w' hw';rw [hh] at h1;exact h1
   clear HF hh hV
   generalize cntE (lE xs) p=i at HFF
   generalize editErr D n (lE xs) ⟨p,N,true⟩=E at HV
   obtain ⟨m,hm⟩:∃ m,p.length=m:=⟨_,rfl⟩
   obtain ⟨nx,hnx⟩:∃ nx,xs.length=nx:=⟨_,rfl⟩
   rw [hm] at h HFF ⊢
   rw [hnx] at HFF hfew ⊢
   clear hm hnx
   go_enter Tryz.func105,Tryz.ntmps105
   go_wp2_with fail
   refine h.mono ?_
   rintro e w1 ⟨rfl,hb1⟩
   have hB1:Below w.heap.size w w1:=onB HB0.out hb1
   have HB1:Hid (Below w.heap.size w w1):=hB1
   have h2:=HFF.out w1 hB1
   clear hb1 h hB1
   go_wp2_with fail
   refine h2.mono ?_
   rintro e w2 ⟨rfl,hb2⟩
   have HB2:Hid (Below w.heap.size w w2):=onB HB1.out hb2
   clear hb2 h2
   go_wp2_with fail
   go_ret2
   rw [HV.out.1]
   exact ⟨⟨none,0,[],rfl,Or.inl ⟨HV.out.2,rfl,rfl,rfl⟩⟩,grown_below HB2.out⟩
  ·rw [hh,if_pos rfl] at hV
   have hil:=clr_in hh
   rw [lE_len] at hil
   have HDel:Hid (∀ w',Below w.heap.size w w'→Calls Tryz.prog 154 #[.slice (some ⟨g,0,none⟩) xs.length cg,.int .i64 (cntE (lE xs) p:Nat),.int .i64 ((cntE (lE xs) p:Int)+1)] w' fun e w''=>e=.returned (.slice (some ⟨g,0,none⟩) (xs.length-1) cg)∧RowE w'' g cg (xs.take (cntE (lE xs) p) ++ xs.drop (cntE (lE xs) p+1))∧w'.grownBy w'' (some g)):=fun w' hw'=>delete_any g cg (cntE (lE xs) p) xs w' hfew hil (HR.out.later hw')
   have HLE:Hid (lE (xs.take (cntE (lE xs) p) ++ xs.drop (cntE (lE xs) p+1))=clrL (lE xs) p∧NewE M (xs.take (cntE (lE xs) p) ++ xs.drop (cntE (lE xs) p+1))):=⟨by unfold clrL;rw [lE_append,lE_take,lE_drop],hMx.cut⟩
   have HYL:Hid ((xs.take (cntE (lE xs) p) ++ xs.drop (cntE (lE xs) p+1)).length=xs.length-1):=by show _=_;simp;omega
   have HFF:Hid (∀ w',Below w.heap.size w w'→Calls Tryz.prog 153 #[.slice (some ⟨g,0,none⟩) xs.length cg,.slice Ap p.length cp] w' fun e w''=>e=.returned (.tuple #[.int .i64 (cntE (lE xs) p:Nat),.bool true])∧Below w'.heap.size w' w''):=fun w' hw'=>by have h1:=HF.out w' hw';rw [hh] at h1;exact h1
   rw [hV,errV_zero]
   clear HF hh hV
   generalize hys:xs.take (cntE (lE xs) p) ++ xs.drop (cntE (lE xs) p+1)=ys at HDel HLE HYL
   clear hys
   generalize cntE (lE xs) p=i at HFF HDel hil
   obtain ⟨m,hm⟩:∃ m,p.length=m:=⟨_,rfl⟩
   obtain ⟨nx,hnx⟩:∃ nx,xs.length=nx:=⟨_,rfl⟩
   rw [hm] at h HFF ⊢
   rw [hnx] at HFF HDel hfew hil HYL ⊢
   have hil':(i:Int)<(nx:Int):=by omega
   clear hm hnx
   go_enter Tryz.func105,Tryz.ntmps105
   go_wp2_with fail
   refine h.mono ?_
   rintro e w1 ⟨rfl,hb1⟩
   have hB1:Below w.heap.size w w1:=onB HB0.out hb1
   have HB1:Hid (Below w.heap.size w w1):=hB1
   have h2:=HFF.out w1 hB1
   clear hb1 h hB1
   go_wp2_with fail
   refine h2.mono ?_
   rintro e w2 ⟨rfl,hb2⟩
   have hB2:Below w.heap.size w w2:=onB HB1.out hb2
   have HB2:Hid (Below w.heap.size w w2):=hB2
   have h3:=HDel.out w2 hB2
   clear hb2 h2 hB2
   go_wp2_with fail
   refine h3.mono ?_
   rintro e w3 ⟨rfl,hRow,hgr⟩
   have HRow:Hid (RowE w3 g cg ys):=hRow
   have HG:Hid (w2.grownBy w3 (some g)):=hgr
   clear hRow hgr h3
   go_wp2_with fail
   go_ret2
   exact ⟨⟨some ⟨g,0,none⟩,cg,ys,by rw [HYL.out];rfl,Or.inr ⟨by trivial,g,rfl,Nat.le_refl _,HRow.out,HLE.out⟩⟩,grown_trans (grown_below HB2.out) HG.out⟩
 ·rw [if_pos (by simpa using hp)] at hV
  have HV:Hid (errV (editErr D n (lE xs) ⟨p,N,true⟩)=.iface 86 (.int .i64 (placeErr D n p))∧editErr D n (lE xs) ⟨p,N,true⟩≠0):=by rw [hV];exact ⟨errV_some hp,hp⟩
  rw [errV_some hp] at h
  clear hp hV
  generalize placeErr D n p=F at h HV
  generalize editErr D n (lE xs) ⟨p,N,true⟩=E at HV
  generalize p.length=m at h
  generalize xs.length=nx
  clear hfew
  go_enter Tryz.func105,Tryz.ntmps105
  go_wp2_with fail
  refine h.mono ?_
  rintro e w1 ⟨rfl,hb1⟩
  have HB1:Hid (Below w.heap.size w w1):=onB HB0.out hb1
  clear hb1
  go_wp2_with fail
  go_ret2
  rw [HV.out.1]
  exact ⟨⟨none,0,[],rfl,Or.inl ⟨HV.out.2,rfl,rfl,rfl⟩⟩,grown_below HB1.out⟩
theorem fresh_of {D:Nat→Dm} {n:Nat} {xs:List EnL} (hEs:Ens D n (lE xs)):∀ k,k<xs.length→(xs.getD k noL).e.pl.length≤4:=fun k hk=>by
 have h1:(xs.getD k noL).e∈lE xs:=List.mem_map.2 ⟨_,enl_mem hk,rfl⟩
 exact inO_short (hEs.each _ h1).1
theorem len_eq {xs ys:List EnL} (h:lE ys=lE xs):ys.length=xs.length:=by rw [←lE_len,h,lE_len]
end Go.Proofs.YtfngmnhkhfgmjahGreatDoor
namespace Go.Proofs.YtfngmnhkhfgmjahGreatDoor
open Go.ChangeShapes Go.WideShapes Go.ChangeAt Go.RowKit
set_option maxRecDepth 20000
def wrStep (D:Nat→Dm) (n:Nat) (L:List (Int×Int)) (e:En):List (Int×Int):=L.set (numI D e.pl n).toNat (1,e.n)
def wrV (D:Nat→Dm) (n:Nat) (l:List En):List (Int×Int):=l.foldl (wrStep D n) (List.replicate (prodN D n) (0,0))
theorem wrs_len (D:Nat→Dm) (n:Nat):∀ (l:List En) (L:List (Int×Int)),(l.foldl (wrStep D n) L).length=L.length
 | [],_=>rfl
 | e :: r,L=>by rw [List.foldl_cons,wrs_len D n r];unfold wrStep;rw [List.length_set]
theorem wrV_len (D:Nat→Dm) (n:Nat) (l:List En):(wrV D n l).length=prodN D n:=by unfold wrV;rw [wrs_len];simp
theorem take_wr (D:Nat→Dm) (n:Nat) (L:List (Int×Int)) (xs:List EnL) {k:Nat} (h:k<xs.length):((lE xs).take (k+1)).foldl (wrStep D n) L=wrStep D n (((lE xs).take k).foldl (wrStep D n) L) (xs.getD k noL).e:=by
 have hk:k<(lE xs).length:=by rw [lE_len];exact h
 rw [List.take_succ_eq_append_getElem hk,List.foldl_append]
 have e:(lE xs)[k]=(xs.getD k noL).e:=by rw [←lE_at,List.getD_eq_getElem?_getD,List.getElem?_eq_getElem hk];rfl
 rw [e]
 rfl
theorem goodC_num {x:Int} (h:numOk x=true):goodC (1,x):=by
 have hn : -1000000≤x∧x≤1000000:=by simpa [numOk] using h
 exact decide_eq_true (Or.inl ⟨rfl,by omega,by omega⟩)
theorem run_make_cells (n:Nat) (hn:n≤3000) (w:World):(Instr.makeSlice 53 (.int .i64 (n:Int)) (.int .i64 (n:Int))).run Tryz.prog w=.ok (.slice (some ⟨w.heap.size,0,none⟩) n n) (w.alloc (.cells (madeCells #[.int .i64 0,.int .i64 0] (n*2)) 40)):=by
 obtain ⟨i0,hi0,hz0,hz1,hz2⟩:=info_parts Tryz.infoCe
 have hr:=run_make (P:=Tryz.prog) w 53 40 i0 _ Tryz.underlying53 hi0 hz0 .i64 .i64 n n (by omega) (Int.le_refl _) (by rw [hz2];omega) (by omega)
 simp only [Int.toNat_natCast,hz1] at hr
 exact hr
theorem celB_made (w:World) (n:Nat):CelB (w.alloc (.cells (madeCells #[.int .i64 0,.int .i64 0] (n*2)) 40)) w.heap.size (List.replicate n (0,0)):=by
 refine ⟨_,heap_alloc_new w _,fun k hk=>?_⟩
 have hk':k<n:=by simpa using hk
 have e1:(List.replicate n ((0:Int),(0:Int))).getD k noC=(0,0):=by simp [List.getD,hk']
 rw [e1]
 constructor
 ·simp [madeCells,show k*2<n*2 by omega]
 ·simp [madeCells,show k*2+1<n*2 by omega,show (k*2+1) % 2=1 by omega]
def fcL (D:Nat→Dm) (n:Nat) (l:List En):List (Int×Int):=if entsErr D n l=0 then wrV D n l else []
theorem fc_ok {D:Nat→Dm} {n:Nat} {l:List En} (h:entsErr D n l=0):fcL D n l=wrV D n l:=by unfold fcL;rw [if_pos h]
theorem fc_bad {D:Nat→Dm} {n:Nat} {l:List En} (h:entsErr D n l≠0):fcL D n l=[]:=by unfold fcL;rw [if_neg h]
set_option maxHeartbeats 8000000 in
theorem fcells_any (A0:Option Addr) (cap n:Nat) (D:Nat→Dm) (A:Nat→Option Addr) (C:Nat→Nat) (AE:Option Addr) (ce:Nat) (xs:List EnL) (w:World) (hM:DimsV w A0 cap n D A C) (hE:EnsV w AE ce xs) :
  Calls Tryz.prog 48 #[.agg #[.slice A0 n cap],.slice AE xs.length ce] w fun e w'=>(∃ A' c',e=.returned (.tuple #[.slice A' (fcL D n (lE xs)).length c',errV (entsErr D n (lE xs))])∧CelV w' A' c' (fcL D n (lE xs)))∧Below w.heap.size w w':=by
 have hB0:=ownOut_below w A0 n cap 30
 have h:=icheck_any A0 cap n D A C AE ce xs (ownOut w A0 n cap 30) (hM.later hB0) (hE.later hB0)
 have HB0:Hid (Below w.heap.size w (ownOut w A0 n cap 30)):=hB0
 have HM:Hid (DimsV w A0 cap n D A C):=hM
 have HE:Hid (EnsV w AE ce xs):=hE
 clear hM hE hB0
 by_cases he:entsErr D n (lE xs)=0
 ·have hEs:=ens_of he
  have HEs:Hid (Ens D n (lE xs)):=hEs
  have hfew:xs.length≤3000:=by have:=hEs.few;rw [lE_len] at this;exact this
  have hR:=hEs.right
  have HR:Hid ((allErr D n).2.2=0):=hR
  obtain ⟨hn1,hn4,hp3,hd⟩:=allErr_some hR
  have HF:Hid (fcL D n (lE xs)=wrV D n (lE xs)∧errV (entsErr D n (lE xs))=.nilIface):=⟨fc_ok he,by rw [he];rfl⟩
  rw [he,errV_zero] at h
  have HBo:Hid (w.heap.size<(ownOut w A0 n cap 30).heap.size∧(ownOut w A0 n cap 30).cell? ⟨w.heap.size,0,none⟩=some (.slice A0 n cap)):=⟨by rw [ownOut_size];omega,ownOut_at ..⟩
  obtain ⟨N,hN⟩:∃ N,xs.length=N:=⟨_,rfl⟩
  have HN:Hid (xs.length=N):=hN
  rw [hN] at h hfew ⊢
  have hN':(N:Int)≤3000:=by omega
  obtain ⟨PN,hPN⟩:∃ PN,prodN D n=PN:=⟨_,rfl⟩
  have HPN:Hid (prodN D n=PN):=hPN
  rw [hPN] at hp3
  have hmk:=run_make_cells PN hp3
  have hPN':(PN:Int)≤3000:=by omega
  have HWE:Hid (((lE xs).take N).foldl (wrStep D n) (List.replicate PN (0,0))=wrV D n (lE xs)):=by show _=_;rw [List.take_of_length_le (by rw [lE_len,hN];exact Nat.le_refl _),←hPN];rfl
  clear he hEs hR hd hN hPN
  go_enter Tryz.func48,Tryz.ntmps48
  go_wp2_with fail
  refine h.mono ?_
  rintro e w1 ⟨rfl,hb1⟩
  have hB:Below w.heap.size w w1:=onB HB0.out hb1
  have HB:Hid (Below w.heap.size w w1):=hB
  have HBox:Hid (BoxN w1 w.heap.size (.slice A0 n cap)):=⟨Nat.lt_of_lt_of_le HBo.out.1 hb1.size,(hb1.cell (p:=⟨w.heap.size,0,none⟩) HBo.out.1).trans HBo.out.2⟩
  have c1:=HBox.out.2
  have hpc:=pcells_any A0 cap n D A C w1 (HM.out.later hB)
  have hcv:cellsV D n=(PN:Int):=by unfold cellsV;rw [if_pos HR.out,HPN.out]
  rw [HR.out,errV_zero,hcv] at hpc
  clear hb1 h hB hcv
  go_wp2_with fail
  refine hpc.mono ?_
  rintro e w2 ⟨rfl,hb2⟩
  have HB2:Hid (Below w.heap.size w w2):=onB HB.out hb2
  have HBox2:Hid (BoxN w2 w.heap.size (.slice A0 n cap)):=HBox.out.later hb2
  obtain ⟨v2,hv2⟩:∃ v,w2.alloc (.cells (madeCells #[.int .i64 0,.int .i64 0] (PN*2)) 40)=v:=⟨_,rfl⟩
  have hBv:Below w2.heap.size w2 v2:=by rw [←hv2];go_grown
  have HBv:Hid (Below w2.heap.size w2 v2):=hBv
  have HCv:Hid (CelB v2 w2.heap.size (List.replicate PN (0,0))):=by rw [←hv2];exact celB_made w2 PN
  have HBoxv:Hid (BoxN v2 w.heap.size (.slice A0 n cap)):=HBox2.out.later hBv
  have hwz:w.heap.size<w2.heap.size:=HBox2.out.1
  clear hpc hb2 c1 hBv
  go_wp2_with fail
  clear hmk hv2
  go_loopg [32] N (fun gg s32 wr => ∃ (k:Nat),k≤N∧gg=N-k∧s32=.int .i64 k∧Hid (CelB wr w2.heap.size (((lE xs).take k).foldl (wrStep D n) (List.replicate PN (0,0))))∧Hid (v2.grownBy wr (some w2.heap.size)))
  case atStart=>exact ⟨0,Nat.zero_le _,rfl,rfl,HCv,grown_refl v2 _⟩
  case round =>
   obtain ⟨k,hk,rfl,rfl,HC,HG⟩:=hrel
   have hB2r:Below w2.heap.size w2 wr:=HBv.out.grown HG.out HBv.out.size (fun j hj=>by cases hj;exact Nat.le_refl _)
   have HB2r:Hid (Below w2.heap.size w2 wr):=hB2r
   have HBr:Hid (Below w.heap.size w wr):=onB HB2.out hB2r
   by_cases hlt:k<N
   ·have hkx:k<xs.length:=by rw [HN.out];exact hlt
    have hki:(k:Int)<(N:Int):=by omega
    obtain ⟨-,-,h0 | ⟨bb,oo,rfl,hA⟩⟩:=HE.out.later HBr.out
    ·have:=HN.out;rw [h0] at this;simp at this;omega
    obtain ⟨c1,c2⟩:=hA.at hkx
    have hmem:(xs.getD k noL).e∈lE xs:=List.mem_map.2 ⟨_,enl_mem hkx,rfl⟩
    obtain ⟨hqI,-,hnum⟩:=HEs.out.each _ hmem
    have hnn : -1000000≤(xs.getD k noL).e.n∧(xs.getD k noL).e.n≤1000000:=by simpa [numOk] using hnum
    obtain ⟨hq1,hq2,-⟩:=numI_bound hqI (Nat.le_refl n)
    have hpl:=hA.pl hkx
    have HWr:=take_wr D n (List.replicate PN (0,0)) xs hkx
    unfold wrStep at HWr
    obtain ⟨X,hX⟩:∃ X:Nat,numI D (xs.getD k noL).e.pl n=X:=⟨(numI D (xs.getD k noL).e.pl n).toNat,by omega⟩
    have hnv:numV D n (xs.getD k noL).e.pl=(X:Int):=by unfold numV;rw [if_pos hqI.ok,hX]
    have hXN:X<PN:=by have:=HPN.out;omega
    have hNum:∀ w',Below wr.heap.size wr w'→_:=fun w' hw'=>pnumber_any A0 cap n D A C (xs.getD k noL).A (xs.getD k noL).c (xs.getD k noL).e.pl w' (HM.out.later (onB HBr.out hw')) (hpl.later hw')
    rw [hnv,hqI.ok,errV_zero] at hNum
    have HNum:Hid (∀ w',Below wr.heap.size wr w'→_):=hNum
    have hof:=fun w'=>of_any (xs.getD k noL).e.n w'
    rw [ofP_in (by omega) (by omega)] at hof
    rw [hX,show ((X:Int)).toNat=X by omega] at HWr
    have HWR:Hid _:=HWr
    obtain ⟨LL,hLL⟩:∃ LL,((lE xs).take k).foldl (wrStep D n) (List.replicate PN (0,0))=LL:=⟨_,rfl⟩
    have hLLn:LL.length=PN:=by rw [←hLL,wrs_len];simp
    have HCL:Hid (CelB wr w2.heap.size LL):=by rw [←hLL];exact HC.out
    have HNx:Hid (((lE xs).take (k+1)).foldl (wrStep D n) (List.replicate PN (0,0))=LL.set X (1,(xs.getD k noL).e.n)):=by
     show _=_
     rw [←hLL]
     exact HWR.out
    have HBxr:Hid (BoxN wr w.heap.size (.slice A0 n cap)):=boxn_other HBoxv.out (by omega) HG.out
    have hXL:X<LL.length:=by omega
    have HXL:Hid (X<LL.length):=hXL
    generalize (xs.getD k noL).A=A1 at c1 HNum
    generalize (xs.getD k noL).c=k1 at c1 HNum
    generalize (xs.getD k noL).e.n=num at c2 hnn hof HNx
    generalize (xs.getD k noL).e.pl.length=m1 at c1 HNum
    have hcr:=HBxr.out.2
    have hXi:(X:Int)<(PN:Int):=by omega
    obtain ⟨y,hy⟩:∃ y,wr.alloc (.cells #[.slice A1 m1 k1,.int .i64 num] 69)=y:=⟨_,rfl⟩
    have hBy:Below wr.heap.size wr y:=by rw [←hy];go_grown
    have HBy:Hid (Below wr.heap.size wr y):=hBy
    have HPy:Hid (y.heap[wr.heap.size]?=some (.cells #[.slice A1 m1 k1,.int .i64 num] 69 (0,0))):=by show _=_;rw [←hy];exact heap_alloc_new ..
    obtain ⟨p0,p1,-,-⟩:=pair_at HPy.out
    have hyo:=(HBxr.out.later hBy).2
    clear hB2r hA hmem hqI hnum hpl HWr hNum hnv hLL hLLn hX hq1 hq2 hBy hXL HWR
    go_wp2_with fail
    refine (HNum.out _ HBy.out).mono ?_
    rintro e w5 ⟨rfl,hb5⟩
    have HB5:Hid (Below y.heap.size y w5):=hb5
    have hwr:wr.heap.size<y.heap.size:=(Array.getElem?_eq_some_iff.1 HPy.out).1
    have hP5:w5.heap[wr.heap.size]?=some (.cells #[.slice A1 m1 k1,.int .i64 num] 69 (0,0)):=(hb5.block _ hwr).trans HPy.out
    obtain ⟨-,s1,-,-⟩:=pair_at hP5
    clear hb5 hP5 p0 p1 hyo
    go_wp2_with fail
    refine (hof _).mono ?_
    rintro e w6 ⟨rfl,hb6⟩
    have hB6:Below wr.heap.size wr w6:=onB (onB HBy.out HB5.out) hb6
    have HC6:Hid (CelB w6 w2.heap.size LL):=HCL.out.later hB6
    obtain ⟨g1,g2⟩:=HC6.out.at HXL.out
    have g3:=HC6.out.frozen (X*2)
    have g4:=HC6.out.frozen (X*2+1)
    have HC7:Hid (CelB ((w6.setCell ⟨w2.heap.size,X*2,none⟩ (.int .i64 1)).setCell ⟨w2.heap.size,X*2+1,none⟩ (.int .i64 num)) w2.heap.size (((lE xs).take (k+1)).foldl (wrStep D n) (List.replicate PN (0,0)))):=by show CelB _ _ _;rw [HNx.out];exact HC6.out.set HXL.out 1 num
    have HG7:Hid (v2.grownBy ((w6.setCell ⟨w2.heap.size,X*2,none⟩ (.int .i64 1)).setCell ⟨w2.heap.size,X*2+1,none⟩ (.int .i64 num)) (some w2.heap.size)):=cel_grown (grown_then HG.out hB6)
    clear hb6 hB6 hof s1
    go_wp2_with fail
    go_roundg (N-(k+1))
    case measure=>omega
    case rel=>exact ⟨k+1,by omega,rfl,by go_num,HC7,HG7⟩
   ·have hke:k=N:=by omega
    subst hke
    have HV:Hid (CelB wr w2.heap.size (wrV D n (lE xs))):=by rw [←HWE.out];exact HC.out
    have HVL:Hid ((wrV D n (lE xs)).length=PN):=by show _=_;rw [wrV_len];exact HPN.out
    clear hB2r
    go_wp2_with fail
    go_ret2
    rw [HF.out.1,HF.out.2,HVL.out]
    exact ⟨⟨_,PN,rfl,by rw [HVL.out];exact Nat.le_refl _,by omega,Or.inr ⟨_,0,rfl,HV.out.celAt⟩⟩,HBr.out⟩
 ·have HF:Hid (fcL D n (lE xs)=[]):=fc_bad he
  have HEr:Hid (errV (entsErr D n (lE xs))=.iface 86 (.int .i64 (entsErr D n (lE xs)))):=errV_some he
  rw [errV_some he] at h
  clear he
  generalize entsErr D n (lE xs)=ee at h HEr
  generalize xs.length=N at h
  go_enter Tryz.func48,Tryz.ntmps48
  go_wp2_with fail
  refine h.mono ?_
  rintro e w1 ⟨rfl,hb1⟩
  have HB:Hid (Below w.heap.size w w1):=onB HB0.out hb1
  clear hb1 h
  go_wp2_with fail
  go_ret2
  rw [HF.out,HEr.out]
  exact ⟨⟨none,0,rfl,CelV.nil _ _ _ (by decide)⟩,HB.out⟩
end Go.Proofs.YtfngmnhkhfgmjahGreatDoor
namespace Go.Proofs.YtfngmnhkhfgmjahGreatDoor
open Go Go.ChangeShapes Go.WideShapes Go.ChangeAt Go.RowKit
set_option maxRecDepth 20000
def rwL (D:Nat→Dm) (n:Nat) (l:List En) (m:Nat):List (Int×Int):=(List.range m).map fun x=>getE l (placeL D n x)
theorem rwL_len (D:Nat→Dm) (n:Nat) (l:List En) (m:Nat):(rwL D n l m).length=m:=by simp [rwL]
theorem wr_none {D:Nat→Dm} {n x:Nat}:∀ (l:List En) (L:List (Int×Int)),(∀ e∈l,InO D n e.pl)→L.length=prodN D n→(∀ e∈l,(numI D e.pl n).toNat≠x)→(l.foldl (wrStep D n) L).getD x (0,0)=L.getD x (0,0)
 | [],_,_,_,_=>rfl
 | e :: r,L,hi,hL,h=>by
  obtain ⟨h1,h2,-⟩:=numI_bound (hi e (List.mem_cons_self ..)) (Nat.le_refl n)
  rw [List.foldl_cons,wr_none r _ (fun y hy=>hi y (List.mem_cons_of_mem _ hy)) (by unfold wrStep;rw [List.length_set];exact hL) fun y hy=>h y (List.mem_cons_of_mem _ hy)]
  unfold wrStep
  have:=h e (List.mem_cons_self ..)
  simp [List.getD,List.getElem?_set_ne this]
theorem wr_some {D:Nat→Dm} {n:Nat} {e:En}:∀ (l:List En) (L:List (Int×Int)),(∀ y∈l,InO D n y.pl)→(l.Pairwise fun a b=>lessL a.pl b.pl=true)→L.length=prodN D n→e∈l→(l.foldl (wrStep D n) L).getD (numI D e.pl n).toNat (0,0)=(1,e.n)
 | [],_,_,_,_,h=>by cases h
 | y :: r,L,hi,hr,hL,h=>by
  have hr':=List.pairwise_cons.1 hr
  have hiy:=hi y (List.mem_cons_self ..)
  have hir:=fun z hz=>hi z (List.mem_cons_of_mem y hz)
  obtain ⟨h1,h2,-⟩:=numI_bound hiy (Nat.le_refl n)
  rw [List.foldl_cons]
  have hL':(wrStep D n L y).length=prodN D n:=by unfold wrStep;rw [List.length_set];exact hL
  rcases List.mem_cons.1 h with rfl | h
  ·rw [wr_none r _ hir hL' fun z hz=>by
    have h3:=less_num hiy (hir z hz) (hr'.1 z hz)
    obtain ⟨h4,-,-⟩:=numI_bound (hir z hz) (Nat.le_refl n)
    omega]
   unfold wrStep
   have:(numI D e.pl n).toNat<L.length:=by omega
   simp [List.getD,this]
  ·exact wr_some r _ hir hr'.2 hL' h
theorem wr_rwL {D:Nat→Dm} {n:Nat} {l:List En} (h:Ens D n l):wrV D n l=rwL D n l (prodN D n):=by
 apply List.ext_getElem (by rw [wrV_len,rwL_len])
 intro x h1 h2
 rw [wrV_len] at h1
 have e1:(wrV D n l).getD x (0,0)=getE l (placeL D n x):=by
  unfold wrV
  by_cases hx:∃ e,e∈l∧(numI D e.pl n).toNat=x
  ·obtain ⟨e,he,hn⟩:=hx
   have h3:=wr_some l (List.replicate (prodN D n) (0,0)) (fun y hy=>(h.each y hy).1) h.rise (by simp) he
   rw [hn] at h3
   rw [h3,←hn,place_num (h.each e he).1,get_mem h.rise he]
  ·rw [wr_none l _ (fun y hy=>(h.each y hy).1) (by simp) fun e he hn=>hx ⟨e,he,hn⟩]
   rw [(get_none h.rise fun e he e2=>hx ⟨e,he,by rw [e2,num_place h.right h1];omega⟩).1]
   simp [List.getD,h1]
 have h3:x<(wrV D n l).length:=by rw [wrV_len];exact h1
 rw [List.getD_eq_getElem?_getD,List.getElem?_eq_getElem h3] at e1
 simp only [Option.getD_some] at e1
 rw [e1]
 simp [rwL]
end Go.Proofs.YtfngmnhkhfgmjahGreatDoor
namespace Go.Proofs.YtfngmnhkhfgmjahGreatDoor
open Go.ChangeShapes Go.WideShapes Go.ChangeAt Go.RowKit
def At (s:Nat) (k n:Int) (w:World):Prop:=s<w.heap.size∧w.cell? ⟨s,0,none⟩=some (.int .i64 k)∧w.cell? ⟨s,1,none⟩=some (.int .i64 n)
end Go.Proofs.YtfngmnhkhfgmjahGreatDoor
