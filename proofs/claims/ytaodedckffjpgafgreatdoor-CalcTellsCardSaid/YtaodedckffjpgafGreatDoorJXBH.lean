/-
  The document's own look at a formula (tallyref2.Formula) tells what is wrong with it: none, too many nodes, the first node that is wrong, who is not used by just one.
-/
import Derived.Deep.RegionHeld
import Derived.Test.YtaodedckffjpgafGreatDoorJXBA
namespace Go.Proofs.YtaodedckffjpgafGreatDoor
open Go Go.ChangeShapes Go.WideShapes Go.ChangeAt Go.RowKit
set_option maxRecDepth 20000
def usedL (l:List Nd) (k:Nat):List Int:=(List.range l.length).map fun j=>(usedTo l k j:Int)
section
variable {l:List Nd} {k j a b:Nat}
theorem usedL_len:(usedL l k).length=l.length:=by simp [usedL]
theorem usedL_at (h:j<l.length):(usedL l k).getD j 0=(usedTo l k j:Int):=by simp [usedL,List.getD,h]
theorem usedTo_le (l:List Nd) (k j:Nat):usedTo l k j≤2*k:=by
 induction k with
 | zero=>simp [usedTo]
 | succ k ih =>
  have h:uses (l.getD k noN) j≤2:=by
   unfold uses
   split
   ·split <;> split <;> omega
   ·omega
  unfold usedTo
  omega
theorem usedL_zero:usedL l 0=List.replicate l.length 0:=by
 apply List.ext_getElem (by simp [usedL])
 intro j h1 h2
 simp [usedL,usedTo]
theorem usedL_same (h:(l.getD k noN).op≤2):usedL l (k+1)=usedL l k:=by
 have e:∀ j,usedTo l (k+1) j=usedTo l k j:=fun j=>by
  show usedTo l k j+uses (l.getD k noN) j=_
  rw [uses,if_neg (by omega)]
  rfl
 unfold usedL
 simp only [e]
theorem getD_set_ints {L:List Int} {a b:Nat} {x:Int} (h:a<L.length):(L.set a x).getD b 0=if a=b then x else L.getD b 0:=by
 rw [List.getD_eq_getElem?_getD,List.getD_eq_getElem?_getD,List.getElem?_set]
 by_cases e:a=b
 ·subst e;simp [h]
 ·simp [e]
theorem usedL_two (h:2<(l.getD k noN).op) (ha:(l.getD k noN).left=(a:Int)) (hb:(l.getD k noN).right=(b:Int)) (_hal:a<l.length) (hbl:b<l.length) :
  ((usedL l k).set a ((usedTo l k a:Int)+1)).set b ((if a=b then (usedTo l k a:Int)+1 else (usedTo l k b:Int))+1)=usedL l (k+1):=by
 apply List.ext_getElem (by simp [usedL])
 intro j h1 h2
 have e:(usedL l (k+1))[j]=((usedTo l k j+uses (l.getD k noN) j:Nat):Int):=by simp only [usedL,usedTo,List.getElem_map,List.getElem_range]
 have e2:∀ h,(usedL l k)[j]'h=(usedTo l k j:Int):=fun h=>by simp only [usedL,List.getElem_map,List.getElem_range]
 rw [e,uses,if_pos h,ha,hb,List.getElem_set,List.getElem_set,e2]
 by_cases hbj:b=j
 ·subst hbj
  by_cases hab:a=b
  ·subst hab
   simp
   omega
  ·have : ¬ (a:Int)=(b:Int):=by omega
   simp [hab,this]
 ·have h3 : ¬ (b:Int)=(j:Int):=by omega
  by_cases haj:a=j
  ·subst haj
   simp [hbj,h3]
  ·have h4 : ¬ (a:Int)=(j:Int):=by omega
   simp [hbj,haj,h3,h4]
end
set_option maxHeartbeats 8000000 in
theorem rform_any (A:Option Addr) (cap:Nat) (l:List Nd) (w:World) (hN:NdsV w A cap l) :
  Calls Tryz.prog 111 #[.slice A l.length cap] w fun e w'=>e=.returned (.int .i64 (formErr l))∧Below w.heap.size w w':=by
 by_cases c0:l.length=0
 ·have HR:Hid (formErr l=5):=form_none c0
  rw [c0]
  clear c0
  go_enter Tryz.func111,Tryz.ntmps111
  go_wp2_with fail
  go_ret
  exact ⟨by rw [HR.out];rfl,Below.refl _ _⟩
 obtain ⟨-,-,h0 | ⟨b,o,rfl,hAt⟩⟩:=hN
 ·rw [h0] at c0;exact absurd rfl c0
 have HAt:Hid (NdsAt w b o l):=hAt
 by_cases c1:30<l.length
 ·have HR:Hid (formErr l=4):=form_full c1
  have c1':(30:Int)<(l.length:Int):=by omega
  have c0':((l.length:Int) == 0)=false:=by rw [beq_eq_false_iff_ne];omega
  generalize l.length=N at c1' c0'
  clear hAt c0 c1
  go_enter Tryz.func111,Tryz.ntmps111
  go_wp2_with fail
  go_ret
  exact ⟨by rw [HR.out];rfl,Below.refl _ _⟩
 obtain ⟨N,hNe⟩:∃ N,l.length=N:=⟨_,rfl⟩
 have HN:Hid (l.length=N):=hNe
 rw [hNe] at c0 c1 ⊢
 have c0':((N:Int) == 0)=false:=by simp;omega
 have c1':(N:Int)≤30:=by omega
 have hN1:1≤N:=by omega
 have hmk:=run_make_row' (P:=Tryz.prog) 27 3 (.int .i64 0) 8 Tryz.underlying27 Tryz.infoIntP rfl .i64 .i64 N (by omega) (by omega)
 clear hAt hNe c0 c1
 go_enter Tryz.func111,Tryz.ntmps111
 go_wp2_with fail
 clear hmk
 go_loopg [4,5] N (fun g s4 s5 wr => ∃ (k:Nat),k≤N∧g=N-k∧s4=.int .i64 k∧IntB wr w.heap.size (usedL l k)∧(∀ j,j<k→badN l j=false)∧Below w.heap.size w wr)
 case atStart=>exact ⟨0,Nat.zero_le _,rfl,rfl,by rw [usedL_zero,HN.out];exact IntB.made w N,fun j hj=>absurd hj (Nat.not_lt_zero _),by go_grown⟩
 case round =>
  obtain ⟨k,hk,rfl,rfl,hI,hG,hBw⟩:=hrel
  have HI:Hid (IntB wr w.heap.size (usedL l k)):=hI
  have HG:Hid (∀ j,j<k→badN l j=false):=hG
  have HBw:Hid (Below w.heap.size w wr):=hBw
  by_cases hlt:k<N
  ·have hlt':(k:Int)<(N:Int):=by omega
   obtain ⟨x1,x2,x3,x4,x5⟩:=(HAt.out.later hBw).2 k (by rw [HN.out];exact hlt)
   have HF:Hid (∀ c:Int,ndErr (l.getD k noN) k=c→c≠0→formErr l=c):=fun c h1 h2=>by
    rw [form_bad (by rw [HN.out];omega) (by rw [HN.out];exact hlt) (decide_eq_true (by rw [h1];exact h2)) HG.out,h1]
   have HK:Hid (ndErr (l.getD k noN) k=0→∀ j,j<k+1→badN l j=false):=fun h j hj=>by
    rcases Nat.lt_or_ge j k with h1 | h1
    ·exact HG.out j h1
    ·rw [show j=k by omega];exact decide_eq_false (by rw [h];simp)
   have HU1:Hid ((l.getD k noN).op≤2→usedL l (k+1)=usedL l k):=usedL_same
   have HU2:Hid (∀ a b:Nat,2<(l.getD k noN).op→(l.getD k noN).left=(a:Int)→(l.getD k noN).right=(b:Int)→a<l.length→b<l.length→((usedL l k).set a ((usedTo l k a:Int)+1)).set b ((if a=b then (usedTo l k a:Int)+1 else (usedTo l k b:Int))+1)=usedL l (k+1)):=fun a b=>usedL_two
   generalize l.getD k noN=x at x1 x2 x3 x4 x5 HF HK HU1 HU2
   obtain ⟨op,n,nm,le,ri⟩:=x
   simp only at x1 x2 x3 x4 x5 HU1 HU2
   obtain ⟨W,hW⟩:∃ W,wr.alloc (.cells #[.int .i64 op,.int .i64 n,.string nm,.int .i64 le,.int .i64 ri] 181)=W:=⟨_,rfl⟩
   have y1:W.cell? ⟨wr.heap.size,0,none⟩=some (.int .i64 op):=by rw [←hW];simp
   have y2:W.cell? ⟨wr.heap.size,1,none⟩=some (.int .i64 n):=by rw [←hW];simp
   have y3:W.cell? ⟨wr.heap.size,2,none⟩=some (.string nm):=by rw [←hW];simp
   have y4:W.cell? ⟨wr.heap.size,3,none⟩=some (.int .i64 le):=by rw [←hW];simp
   have y5:W.cell? ⟨wr.heap.size,4,none⟩=some (.int .i64 ri):=by rw [←hW];simp
   have hbW:Below wr.heap.size wr W:=by rw [←hW];go_grown
   have HBW:Hid (Below w.heap.size w W):=onB hBw hbW
   have HIW:Hid (IntB W w.heap.size (usedL l k)):=hI.later hbW
   clear hI hG hBw hbW
   by_cases d1:op<1
   ·have HR:Hid (formErr l=1):=HF.out 1 (by unfold ndErr;dsimp only;(repeat' split) <;> omega) (by decide)
    go_wp2_with fail
    go_ret
    exact ⟨by rw [HR.out];rfl,HBW.out⟩
   by_cases d2:6<op
   ·have HR:Hid (formErr l=1):=HF.out 1 (by unfold ndErr;dsimp only;(repeat' split) <;> omega) (by decide)
    go_wp2_with fail
    go_ret
    exact ⟨by rw [HR.out];rfl,HBW.out⟩
   by_cases d3:op=1
   ·subst d3
    by_cases d4:n<0
    ·have HR:Hid (formErr l=1):=HF.out 1 (by unfold ndErr;dsimp only;(repeat' split) <;> omega) (by decide)
     go_wp2_with fail
     go_ret
     exact ⟨by rw [HR.out];rfl,HBW.out⟩
    by_cases d5:1000000<n
    ·have HR:Hid (formErr l=1):=HF.out 1 (by unfold ndErr;dsimp only;(repeat' split) <;> omega) (by decide)
     go_wp2_with fail
     go_ret
     exact ⟨by rw [HR.out];rfl,HBW.out⟩
    by_cases dm:nm.size≠0
    ·have HR:Hid (formErr l=3):=HF.out 3 (by unfold ndErr;dsimp only;(repeat' split) <;> omega) (by decide)
     have bm:nm.toList.isEmpty=false:=by rw [empty_same];simpa using dm
     clear dm
     go_wp2_with fail
     go_ret
     exact ⟨by rw [HR.out];rfl,HBW.out⟩
    have bm:nm.toList.isEmpty=true:=by rw [empty_same];simpa using dm
    have HM:Hid (nm.size=0):=by show _=_;omega
    clear dm
    by_cases dle:le≠0
    ·have HR:Hid (formErr l=3):=HF.out 3 (by have:=HM.out;unfold ndErr;dsimp only;(repeat' split) <;> omega) (by decide)
     have ble:(le != 0)=true:=by simpa using dle
     clear dle
     go_wp2_with fail
     go_ret
     exact ⟨by rw [HR.out];rfl,HBW.out⟩
    have Hle:Hid (le=0):=by show _=_;omega
    have ble:(le != 0)=false:=by have:=Hle.out;simpa using this
    clear dle
    by_cases dri:ri≠0
    ·have HR:Hid (formErr l=3):=HF.out 3 (by have:=Hle.out;have:=HM.out;unfold ndErr;dsimp only;(repeat' split) <;> omega) (by decide)
     have bri:(ri != 0)=true:=by simpa using dri
     clear dri
     go_wp2_with fail
     go_ret
     exact ⟨by rw [HR.out];rfl,HBW.out⟩
    have Hri:Hid (ri=0):=by show _=_;omega
    have bri:(ri != 0)=false:=by have:=Hri.out;simpa using this
    clear dri
    have HG1:Hid (∀ j,j<k+1→badN l j=false):=HK.out (by have:=Hle.out;have:=Hri.out;have:=HM.out;unfold ndErr;dsimp only;(repeat' split) <;> omega)
    have HU:Hid (usedL l (k+1)=usedL l k):=HU1.out (by decide)
    go_wp2_with fail
    go_roundg (N-(k+1))
    case measure=>omega
    case rel=>exact ⟨k+1,by omega,rfl,by go_num,by rw [HU.out];exact HIW.out,HG1.out,HBW.out⟩
   by_cases d6:op=2
   ·subst d6
    have hnm:=rname_any nm W
    by_cases d7:nameErr nm=0
    ·have HZ:Hid (nameErr nm=0):=d7
     rw [d7] at hnm
     clear d7
     by_cases dn:n≠0
     ·have HR:Hid (formErr l=3):=HF.out 3 (by have:=HZ.out;unfold ndErr;dsimp only;(repeat' split) <;> omega) (by decide)
      have bn:(n != 0)=true:=by simpa using dn
      clear dn
      go_wp2_with fail
      refine hnm.mono ?_
      rintro e w1 ⟨rfl,rfl⟩
      go_wp2_with fail
      go_ret
      exact ⟨by rw [HR.out];rfl,HBW.out⟩
     have Hn:Hid (n=0):=by show _=_;omega
     have bn:(n != 0)=false:=by have:=Hn.out;simpa using this
     clear dn
     by_cases dle:le≠0
     ·have HR:Hid (formErr l=3):=HF.out 3 (by have:=Hn.out;have:=HZ.out;unfold ndErr;dsimp only;(repeat' split) <;> omega) (by decide)
      have ble:(le != 0)=true:=by simpa using dle
      clear dle
      go_wp2_with fail
      refine hnm.mono ?_
      rintro e w1 ⟨rfl,rfl⟩
      go_wp2_with fail
      go_ret
      exact ⟨by rw [HR.out];rfl,HBW.out⟩
     have Hle:Hid (le=0):=by show _=_;omega
     have ble:(le != 0)=false:=by have:=Hle.out;simpa using this
     clear dle
     by_cases dri:ri≠0
     ·have HR:Hid (formErr l=3):=HF.out 3 (by have:=Hn.out;have:=Hle.out;have:=HZ.out;unfold ndErr;dsimp only;(repeat' split) <;> omega) (by decide)
      have bri:(ri != 0)=true:=by simpa using dri
      clear dri
      go_wp2_with fail
      refine hnm.mono ?_
      rintro e w1 ⟨rfl,rfl⟩
      go_wp2_with fail
      go_ret
      exact ⟨by rw [HR.out];rfl,HBW.out⟩
     have Hri:Hid (ri=0):=by show _=_;omega
     have bri:(ri != 0)=false:=by have:=Hri.out;simpa using this
     clear dri
     have HG1:Hid (∀ j,j<k+1→badN l j=false):=HK.out (by have:=Hn.out;have:=Hle.out;have:=Hri.out;have:=HZ.out;unfold ndErr;dsimp only;(repeat' split) <;> omega)
     have HU:Hid (usedL l (k+1)=usedL l k):=HU1.out (by decide)
     go_wp2_with fail
     refine hnm.mono ?_
     rintro e w1 ⟨rfl,rfl⟩
     go_wp2_with fail
     go_roundg (N-(k+1))
     case measure=>omega
     case rel=>exact ⟨k+1,by omega,rfl,by go_num,by rw [HU.out];exact HIW.out,HG1.out,HBW.out⟩
    ·have HR:Hid (formErr l=2):=HF.out 2 (by unfold ndErr;dsimp only;(repeat' split) <;> omega) (by decide)
     rw [nameErr_two d7] at hnm
     clear d7
     go_wp2_with fail
     refine hnm.mono ?_
     rintro e w1 ⟨rfl,rfl⟩
     go_wp2_with fail
     go_ret
     exact ⟨by rw [HR.out];rfl,HBW.out⟩
   have o1:(op == 1)=false:=by simpa using d3
   have o2:(op == 2)=false:=by simpa using d6
   have HO:Hid (¬ op=1∧¬ op=2):=⟨d3,d6⟩
   clear d3 d6
   by_cases d8:le<0
   ·have HR:Hid (formErr l=1):=HF.out 1 (by have:=HO.out;unfold ndErr;dsimp only;(repeat' split) <;> omega) (by decide)
    go_wp2_with fail
    go_ret
    exact ⟨by rw [HR.out];rfl,HBW.out⟩
   by_cases d9:(k:Int)≤le
   ·have HR:Hid (formErr l=1):=HF.out 1 (by have:=HO.out;unfold ndErr;dsimp only;(repeat' split) <;> omega) (by decide)
    go_wp2_with fail
    go_ret
    exact ⟨by rw [HR.out];rfl,HBW.out⟩
   by_cases d10:ri<0
   ·have HR:Hid (formErr l=1):=HF.out 1 (by have:=HO.out;unfold ndErr;dsimp only;(repeat' split) <;> omega) (by decide)
    go_wp2_with fail
    go_ret
    exact ⟨by rw [HR.out];rfl,HBW.out⟩
   by_cases d11:(k:Int)≤ri
   ·have HR:Hid (formErr l=1):=HF.out 1 (by have:=HO.out;unfold ndErr;dsimp only;(repeat' split) <;> omega) (by decide)
    go_wp2_with fail
    go_ret
    exact ⟨by rw [HR.out];rfl,HBW.out⟩
   by_cases dn:n≠0
   ·have HR:Hid (formErr l=3):=HF.out 3 (by have:=HO.out;unfold ndErr;dsimp only;(repeat' split) <;> omega) (by decide)
    have bn:(n != 0)=true:=by simpa using dn
    clear dn
    go_wp2_with fail
    go_ret
    exact ⟨by rw [HR.out];rfl,HBW.out⟩
   have Hn:Hid (n=0):=by show _=_;omega
   have bn:(n != 0)=false:=by have:=Hn.out;simpa using this
   clear dn
   by_cases dm:nm.size≠0
   ·have HR:Hid (formErr l=3):=HF.out 3 (by have:=Hn.out;have:=HO.out;unfold ndErr;dsimp only;(repeat' split) <;> omega) (by decide)
    have bm:nm.toList.isEmpty=false:=by rw [empty_same];simpa using dm
    clear dm
    go_wp2_with fail
    go_ret
    exact ⟨by rw [HR.out];rfl,HBW.out⟩
   have bm:nm.toList.isEmpty=true:=by rw [empty_same];simpa using dm
   have HM:Hid (nm.size=0):=by show _=_;omega
   clear dm
   have HG1:Hid (∀ j,j<k+1→badN l j=false):=HK.out (by have:=HO.out;have:=HM.out;have:=Hn.out;unfold ndErr;dsimp only;(repeat' split) <;> omega)
   obtain ⟨a,rfl⟩:∃ a:Nat,le=(a:Int):=⟨le.toNat,by omega⟩
   obtain ⟨b',rfl⟩:∃ b':Nat,ri=(b':Int):=⟨ri.toNat,by omega⟩
   have ha:a<N:=by omega
   have hb:b'<N:=by omega
   have HU:=HU2.out a b' (by have:=HO.out;omega) rfl rfl (by rw [HN.out];exact ha) (by rw [HN.out];exact hb)
   have HUh:Hid (((usedL l k).set a ((usedTo l k a:Int)+1)).set b' ((if a=b' then (usedTo l k a:Int)+1 else (usedTo l k b':Int))+1)=usedL l (k+1)):=HU
   have e1:=HIW.out.cell (j:=a) (by rw [usedL_len,HN.out];exact ha)
   rw [usedL_at (by rw [HN.out];exact ha)] at e1
   have f1:=HIW.out.frozen a
   have HI2:=HIW.out.set a ((usedTo l k a:Int)+1)
   have e2:=HI2.cell (j:=b') (by rw [List.length_set,usedL_len,HN.out];exact hb)
   rw [getD_set_ints (by rw [usedL_len,HN.out];exact ha),usedL_at (by rw [HN.out];exact hb)] at e2
   have f2:=HI2.frozen b'
   have HI3:Hid (IntB ((W.setCell ⟨w.heap.size,a,none⟩ (.int .i64 ((usedTo l k a:Int)+1))).setCell ⟨w.heap.size,b',none⟩ (.int .i64 ((if a=b' then (usedTo l k a:Int)+1 else (usedTo l k b':Int))+1))) w.heap.size (usedL l (k+1))):=by
    have h:=HI2.set b' ((if a=b' then (usedTo l k a:Int)+1 else (usedTo l k b':Int))+1)
    rw [HU] at h
    exact h
   have ua:=usedTo_le l k a
   have ub:=usedTo_le l k b'
   generalize usedTo l k a=ua' at *
   generalize usedTo l k b'=ub' at *
   obtain ⟨v,hv⟩:∃ v:Nat,(if a=b' then (ua':Int)+1 else (ub':Int))=(v:Int):=⟨if a=b' then ua'+1 else ub',by split <;> simp⟩
   have hv1:(v:Int)≤100:=by rw [←hv];split <;> omega
   have hu1:(ua':Int)≤100:=by omega
   rw [hv] at e2 HI3
   have hak:(a:Int)<(N:Int):=by omega
   have hbk:(b':Int)<(N:Int):=by omega
   have hak':(a:Int)<(k:Int):=by omega
   have hbk':(b':Int)<(k:Int):=by omega
   have hne:w.heap.size<wr.heap.size:=HI.out.lt
   have HBV:Hid (Below w.heap.size w (W.setCell ⟨w.heap.size,a,none⟩ (.int .i64 ((ua':Int)+1)))):=HBW.out.setCell (by show w.heap.size≤w.heap.size;omega) _
   have y6:(W.setCell ⟨w.heap.size,a,none⟩ (.int .i64 ((ua':Int)+1))).cell? ⟨wr.heap.size,4,none⟩=some (.int .i64 (b':Int)):=by
    rw [World.cell?_setCell_far _ _ _ _ (by show w.heap.size≠wr.heap.size;omega)]
    exact y5
   obtain ⟨V,hV⟩:∃ V,W.setCell ⟨w.heap.size,a,none⟩ (.int .i64 ((ua':Int)+1))=V:=⟨_,rfl⟩
   rw [hV] at e2 f2 HI3 HBV y6
   clear HU HUh HI2 hv ua ub d9 d11 ha hb hne
   go_wp2_with fail
   go_roundg (N-(k+1))
   case measure=>omega
   case rel=>exact ⟨k+1,by omega,rfl,by go_num,HI3.out,HG1.out,HBV.out.setCell (by show w.heap.size≤w.heap.size;omega) _⟩
  ·obtain rfl:k=N:=by omega
   have hlt' : ¬ (k:Int)<(k:Int):=by omega
   clear hI hG hBw
   go_wp2_with fail
   go_loopg [6] k (fun g s6 wt => ∃ (j:Nat),j≤k-1∧g=k-j∧s6=.int .i64 j∧wt=wr∧(∀ i,i<j→oddN l i=false))
   case atStart=>exact ⟨0,Nat.zero_le _,rfl,rfl,rfl,fun i hi=>absurd hi (Nat.not_lt_zero _)⟩
   case round =>
    obtain ⟨j,hj,rfl,rfl,rfl,hO⟩:=hrel
    have HO:Hid (∀ i,i<j→oddN l i=false):=hO
    clear hO
    by_cases hjl:j<k-1
    ·have hj1:(j:Int)<(k:Int)-1:=by omega
     have hj2:(j:Int)<(k:Int):=by omega
     have e1:=HI.out.cell (j:=j) (by rw [usedL_len,HN.out];omega)
     rw [usedL_at (by rw [HN.out];omega)] at e1
     by_cases hu:usedTo l k j=1
     ·have HO1:Hid (∀ i,i<j+1→oddN l i=false):=fun i hi=>by
       rcases Nat.lt_or_ge i j with h1 | h1
       ·exact HO.out i h1
       ·rw [show i=j by omega];exact decide_eq_false (by rw [HN.out,hu];simp)
      rw [hu] at e1
      clear hu
      go_wp2_with fail
      go_roundg (k-(j+1))
      case measure=>omega
      case rel=>exact ⟨j+1,by omega,rfl,by go_num,rfl,HO1.out⟩
     ·have HR:Hid (formErr l=3):=form_odd (by rw [HN.out];omega) (by rw [HN.out];omega) (by rw [HN.out];exact HG.out) (i:=j) (by rw [HN.out];exact hjl) (decide_eq_true (by rw [HN.out];exact hu))
      have hu':(((usedTo l k j:Nat):Int) == 1)=false:=by simp;omega
      generalize usedTo l k j=u at e1 hu'
      clear hu
      go_wp2_with fail
      go_ret
      exact ⟨by rw [HR.out];rfl,HBw.out⟩
    ·have HR:Hid (formErr l=0):=form_good (by rw [HN.out];omega) (by rw [HN.out];omega) (by rw [HN.out];exact HG.out) (fun i hi=>HO.out i (by rw [HN.out] at hi;omega))
     have hj1 : ¬ (j:Int)<(k:Int)-1:=by omega
     go_wp2_with fail
     go_ret
     exact ⟨by rw [HR.out];rfl,HBw.out⟩
end Go.Proofs.YtaodedckffjpgafGreatDoor
namespace Go.Proofs.YtaodedckffjpgafGreatDoor
open Go.ChangeShapes Go.WideShapes Go.ChangeAt Go.RowKit
set_option maxRecDepth 20000
set_option maxHeartbeats 2000000 in
theorem rless_any (A B:Option Addr) (ca cb:Nat) (a b:List Int) (w:World) (ha:a.length≤4) (hb:b.length≤4) (hA:PlAt w A ca a) (hB:PlAt w B cb b):Calls Tryz.prog 65 #[.slice A a.length ca,.slice B b.length cb] w fun e w'=>e=.returned (.bool (lessL a b))∧Below w.heap.size w w':=by
 have HA:Hid (PlAt w A ca a):=hA
 have HB:Hid (PlAt w B cb b):=hB
 have HN:Hid (∀ k,k<a.length→k<b.length→lessL (a.drop k) (b.drop k)=if a.getD k 0=b.getD k 0 then lessL (a.drop (k+1)) (b.drop (k+1)) else decide (a.getD k 0<b.getD k 0)):=fun k h1 h2=>lessL_in h1 h2
 have HL:Hid (∀ k,b.length≤k→lessL (a.drop k) (b.drop k)=false):=fun k h2=>lessL_long h2
 have HS:Hid (∀ k,a.length≤k→k<b.length→lessL (a.drop k) (b.drop k)=true):=fun k h1 h2=>lessL_short h1 h2
 obtain ⟨na,hna⟩:∃ na,a.length=na:=⟨_,rfl⟩
 obtain ⟨nb,hnb⟩:∃ nb,b.length=nb:=⟨_,rfl⟩
 have HNA:Hid (a.length=na):=hna
 have HNB:Hid (b.length=nb):=hnb
 rw [hna] at HN HS ha
 rw [hnb] at HN HL HS hb
 rw [hna,hnb]
 have ha':(na:Int)≤4:=by omega
 have hb':(nb:Int)≤4:=by omega
 clear hA hB hna hnb
 go_enter Tryz.func65,Tryz.ntmps65
 go_wp2_with fail
 go_loopg [5] na (fun g s5 wr => ∃ (k:Nat),k≤na∧k≤nb∧g=na-k∧s5=.int .i64 k∧Hid (lessL (a.drop k) (b.drop k)=lessL a b)∧Below w.heap.size w wr)
 case atStart=>exact ⟨0,Nat.zero_le _,Nat.zero_le _,rfl,rfl,(rfl:lessL (a.drop 0) (b.drop 0)=lessL a b),Below.refl _ _⟩
 case round =>
  obtain ⟨k,hk,hk2,rfl,rfl,HF,hBw⟩:=hrel
  have HBw:Hid (Below w.heap.size w wr):=hBw
  by_cases hlt:k<na
  ·have hki:(k:Int)<(na:Int):=by omega
   by_cases hlb:k<nb
   ·obtain ⟨hc,h0 | ⟨g1,o1,rfl,hbw,hcell⟩⟩:=HA.out.later hBw
    ·have:=HNA.out;rw [h0] at this;simp at this;omega
    obtain ⟨hc',h0 | ⟨g2,o2,rfl,hbw2,hcell2⟩⟩:=HB.out.later hBw
    ·have:=HNB.out;rw [h0] at this;simp at this;omega
    have x1:=hcell k (by rw [HNA.out];exact hlt)
    have x2:=hcell2 k (by rw [HNB.out];exact hlb)
    have hkb:(k:Int)<(nb:Int):=by omega
    have hst:=HN.out k hlt hlb
    generalize a.getD k 0=x at x1 hst
    generalize b.getD k 0=y at x2 hst
    clear hcell hcell2 hBw
    by_cases hxy:x=y
    ·have HR:Hid (lessL (a.drop (k+1)) (b.drop (k+1))=lessL a b):=by show _=_;rw [←HF.out,hst,if_pos hxy]
     subst hxy
     clear hst
     go_wp2_with fail
     go_quiet (fail)
     go_wp2_with fail
     go_roundg (na-(k+1))
     case measure=>omega
     case rel=>exact ⟨k+1,by omega,by omega,rfl,by go_num,HR,below_drewN HBw.out _⟩
    ·have HR:Hid (lessL a b=decide (x<y)):=by show _=_;rw [←HF.out,hst,if_neg hxy]
     clear hst
     go_wp2_with fail
     go_quiet (fail)
     go_wp2_with fail
     go_quiet (fail)
     go_wp2_with fail
     go_ret
     rw [HR.out]
     exact ⟨rfl,below_drewN (below_drewN HBw.out _) _⟩
   ·have HR:Hid (lessL a b=false):=by show _=_;rw [←HF.out,HL.out k (by omega)]
    have hkb:(nb:Int)≤(k:Int):=by omega
    have hnn:decide ((na:Int)<(nb:Int))=false:=decide_eq_false (by omega)
    have hnn':decide (na<nb)=false:=decide_eq_false (by omega)
    clear hBw
    go_wp2_with fail
    go_ret
    rw [HR.out]
    exact ⟨rfl,HBw.out⟩
  ·have hke:k=na:=by omega
   subst hke
   by_cases hlb:k<nb
   ·have HR:Hid (lessL a b=true):=by show _=_;rw [←HF.out,HS.out k (Nat.le_refl _) hlb]
    have hkb:(k:Int)<(nb:Int):=by omega
    clear hBw
    go_wp2_with fail
    go_ret
    rw [HR.out]
    exact ⟨rfl,HBw.out⟩
   ·have HR:Hid (lessL a b=false):=by show _=_;rw [←HF.out,HL.out k (by omega)]
    have hkb:(nb:Int)≤(k:Int):=by omega
    clear hBw
    go_wp2_with fail
    go_ret
    rw [HR.out]
    exact ⟨rfl,HBw.out⟩
set_option maxHeartbeats 4000000 in
theorem rfind_any (A:Option Addr) (cap:Nat) (xs:List EnL) (Ap:Option Addr) (cp:Nat) (p:List Int) (w:World) (hn:xs.length≤3000) (hE:EnsV w A cap xs) (hS:Short xs p) (hP:PlAt w Ap cp p) :
  Calls Tryz.prog 109 #[.slice A xs.length cap,.slice Ap p.length cp] w fun e w'=>e=.returned (.tuple #[.int .i64 (cntE (lE xs) p:Nat),.bool (hasE (lE xs) p)])∧Below w.heap.size w w':=by
 have HE:Hid (EnsV w A cap xs):=hE
 have HLs:Hid (∀ k w',k<xs.length→Below w.heap.size w w'→Calls Tryz.prog 65 #[.slice (xs.getD k noL).A (xs.getD k noL).e.pl.length (xs.getD k noL).c,.slice Ap p.length cp] w' fun e w''=>e=.returned (.bool (lessL (xs.getD k noL).e.pl p))∧Below w'.heap.size w' w''):=fun k w' hk hw'=>by
  obtain ⟨-,-,h0 | ⟨b,o,h0,hA⟩⟩:=hE.later hw'
  ·rw [h0] at hk;simp at hk
  ·exact rless_any _ _ _ _ _ _ w' (hS.1 k hk) hS.2 (hA.pl hk) (hP.later hw')
 have HLb:Hid (∀ k w',k<xs.length→Below w.heap.size w w'→Calls Tryz.prog 65 #[.slice Ap p.length cp,.slice (xs.getD k noL).A (xs.getD k noL).e.pl.length (xs.getD k noL).c] w' fun e w''=>e=.returned (.bool (lessL p (xs.getD k noL).e.pl))∧Below w'.heap.size w' w''):=fun k w' hk hw'=>by
  obtain ⟨-,-,h0 | ⟨b,o,h0,hA⟩⟩:=hE.later hw'
  ·rw [h0] at hk;simp at hk
  ·exact rless_any _ _ _ _ _ _ w' hS.2 (hS.1 k hk) (hP.later hw') (hA.pl hk)
 have HC:Hid (∀ i,i≤xs.length→(∀ t,t<i→lessL (xs.getD t noL).e.pl p=true)→(i<xs.length→lessL (xs.getD i noL).e.pl p=false)→cntE (lE xs) p=i):=fun i hi h1 h2=>cnt_at _ _ i (by rw [lE_len];exact hi) (fun t ht=>by rw [lE_at];exact h1 t ht) (fun h3=>by rw [lE_len] at h3;rw [lE_at];exact h2 h3)
 have HH:Hid (∀ i,cntE (lE xs) p=i→i<xs.length→hasE (lE xs) p = !lessL p (xs.getD i noL).e.pl):=fun i h1 h2=>by rw [←lE_at];exact (has_in h1 (by rw [lE_len];exact h2)).1
 have HH2:Hid (∀ i,cntE (lE xs) p=i→xs.length≤i→hasE (lE xs) p=false):=fun i h1 h2=>(has_out h1 (by rw [lE_len];exact h2)).1
 obtain ⟨n,hnn⟩:∃ n,xs.length=n:=⟨_,rfl⟩
 obtain ⟨np,hnp⟩:∃ np,p.length=np:=⟨_,rfl⟩
 have HN:Hid (xs.length=n):=hnn
 rw [hnn] at hn HLs HLb HC HH HH2 ⊢
 rw [hnp] at HLs HLb ⊢
 generalize cntE (lE xs) p=cnt at HC HH HH2
 generalize hasE (lE xs) p=has at HH HH2
 have hn':(n:Int)≤3000:=by omega
 clear hE hS hP hnn hnp
 go_enter Tryz.func109,Tryz.ntmps109
 go_wp2_with fail
 go_loopg [6] n (fun g s6 wr => ∃ (k:Nat),k≤n∧g=n-k∧s6=.int .i64 k∧Hid (∀ t,t<k→lessL (xs.getD t noL).e.pl p=true)∧Below w.heap.size w wr)
 case atStart=>exact ⟨0,Nat.zero_le _,rfl,rfl,fun t ht=>absurd ht (Nat.not_lt_zero _),Below.refl _ _⟩
 case round =>
  obtain ⟨k,hk,rfl,rfl,HLt,hBw⟩:=hrel
  have HBw:Hid (Below w.heap.size w wr):=hBw
  by_cases hlt:k<n
  ·obtain ⟨-,-,h0 | ⟨b,o,rfl,hA⟩⟩:=HE.out.later hBw
   ·have:=HN.out;rw [h0] at this;simp at this;omega
   obtain ⟨c1,-⟩:=hA.at (k:=k) (by rw [HN.out];exact hlt)
   have h1:=HLs.out k wr hlt hBw
   have HLk:Hid (∀ w',Below w.heap.size w w'→Calls Tryz.prog 65 #[.slice Ap np cp,.slice (xs.getD k noL).A (xs.getD k noL).e.pl.length (xs.getD k noL).c] w' fun e w''=>e=.returned (.bool (lessL p (xs.getD k noL).e.pl))∧Below w'.heap.size w' w''):=fun w' hw'=>HLb.out k w' hlt hw'
   have hki:(k:Int)<(n:Int):=by omega
   have hbb:=hA.1
   cases hl:lessL (xs.getD k noL).e.pl p
   ·have HCN:Hid (cnt=k):=HC.out k hk HLt.out (fun _=>hl)
    have HHI:Hid (has = !lessL p (xs.getD k noL).e.pl):=HH.out k HCN.out hlt
    rw [hl] at h1
    generalize lessL p (xs.getD k noL).e.pl=bk at HLk HHI
    generalize (xs.getD k noL).A=A1 at c1 h1 HLk
    generalize (xs.getD k noL).c=k1 at c1 h1 HLk
    generalize (xs.getD k noL).e.pl.length=m1 at c1 h1 HLk
    have hne:((k:Int) == (n:Int))=false:=by simp;omega
    clear hl hA hBw
    go_wp2_with fail
    refine h1.mono ?_
    rintro e w1 ⟨rfl,hb1⟩
    have hB1:Below w.heap.size w w1:=onB HBw.out hb1
    have HB1:Hid (Below w.heap.size w w1):=hB1
    have d1:w1.cell? ⟨b,o+k*2,none⟩=some (.slice A1 m1 k1):=(hb1.cell (p:=⟨b,o+k*2,none⟩) hbb).trans c1
    have h2:=HLk.out w1 hB1
    clear hb1 h1 c1 hB1
    go_wp2_with fail
    refine h2.mono ?_
    rintro e w2 ⟨rfl,hb2⟩
    have HB2:Hid (Below w.heap.size w w2):=onB HB1.out hb2
    clear hb2 h2 d1
    go_wp2_with fail
    go_ret2
    rw [HCN.out,HHI.out]
    exact ⟨rfl,HB2.out⟩
   ·have HT:Hid (∀ t,t<k+1→lessL (xs.getD t noL).e.pl p=true):=fun t ht=>by
     rcases Nat.lt_succ_iff_lt_or_eq.1 ht with h2 | rfl
     ·exact HLt.out t h2
     ·exact hl
    rw [hl] at h1
    generalize (xs.getD k noL).A=A1 at c1 h1
    generalize (xs.getD k noL).c=k1 at c1 h1
    generalize (xs.getD k noL).e.pl.length=m1 at c1 h1
    clear hl hA hBw HLk
    go_wp2_with fail
    refine h1.mono ?_
    rintro e w1 ⟨rfl,hb1⟩
    have HB1:Hid (Below w.heap.size w w1):=onB HBw.out hb1
    clear hb1 h1 c1
    go_wp2_with fail
    go_roundg (n-(k+1))
    case measure=>omega
    case rel=>exact ⟨k+1,by omega,rfl,by go_num,HT,HB1.out⟩
  ·have hke:k=n:=by omega
   subst hke
   have HCN:Hid (cnt=k):=HC.out k hk HLt.out (fun h=>absurd h (Nat.lt_irrefl _))
   have HHI:Hid (has=false):=HH2.out k HCN.out (Nat.le_refl _)
   go_wp2_with fail
   go_ret2
   rw [HCN.out,HHI.out]
   exact ⟨rfl,hBw⟩
end Go.Proofs.YtaodedckffjpgafGreatDoor
namespace Go.Proofs.YtaodedckffjpgafGreatDoor
open Go.ChangeShapes Go.WideShapes Go.ChangeAt Go.RowKit
def RefTo (f:Nat) (args:Array Value) (r:Int×Int):Prop := ∀ (w:World),Calls Tryz.prog f args w fun e w'=>e=.returned (.agg #[.int .i64 r.1,.int .i64 r.2])∧Below w.heap.size w w'
theorem bool2 {k:Int} (h : ¬ k=2):(k == 2)=false:=by simpa using h
theorem bool0 {k:Int} (h : ¬ k=0):(k == 0)=false:=by simpa using h
theorem rplus_made (ka na kb nb sg r:Int) (w:World) (q1:(ka == 2)=false) (q2:(kb == 2)=false) (q3:((ka == 0) && (kb == 0))=false) (hm:wrap64 (na+wrap64 (sg*nb))=r) :
  Calls Tryz.prog 73 #[.agg #[.int .i64 ka,.int .i64 na],.agg #[.int .i64 kb,.int .i64 nb],.int .i64 sg] w fun e w'=>e=.returned (.agg #[.int .i64 (ofP r).1,.int .i64 (ofP r).2])∧Below w.heap.size w w':=by
 subst hm
 have HR:=rof_any (wrap64 (na+wrap64 (sg*nb)))
 cases q4:(ka == 0)
 all_goals
  rw [q4] at q3
  try simp only [Bool.true_and,Bool.false_and] at q3
  go_enter Tryz.func73,Tryz.ntmps73
  go_wp2_with fail
  refine (HR _).mono ?_
  rintro e w1 ⟨rfl,hb⟩
  have hB:Below w.heap.size w w1:=Below.trans (by go_grown) (hb.mono (by simp;omega))
  obtain ⟨hc,hf⟩:=bcell hb
  have hz:=bsize hb
  simp at hz
  go_wp2_with fail
  refine bodyPost_ret (v:=.agg #[.int .i64 (ofP (wrap64 (na+wrap64 (sg*nb)))).1,.int .i64 (ofP (wrap64 (na+wrap64 (sg*nb)))).2]) (by simp [results,Tryz.results73,go_sem,hc]) rfl ⟨rfl,?_⟩
  go_grown
theorem rplus_fault (ka na kb nb sg:Int) (w:World) (h:ka=2∨kb=2):Calls Tryz.prog 73 #[.agg #[.int .i64 ka,.int .i64 na],.agg #[.int .i64 kb,.int .i64 nb],.int .i64 sg] w fun e w'=>e=.returned (.agg #[.int .i64 2,.int .i64 0])∧Below w.heap.size w w':=by
 by_cases h1:ka=2
 ·subst h1
  clear h
  go_enter Tryz.func73,Tryz.ntmps73
  go_wp2
  go_returns
  exact ⟨rfl,by go_grown⟩
 ·have q1:=bool2 h1
  have h2:kb=2:=by omega
  subst h2
  clear h h1
  go_enter Tryz.func73,Tryz.ntmps73
  go_wp2
  go_returns
  exact ⟨rfl,by go_grown⟩
theorem rplus_blank (na nb sg:Int) (w:World):Calls Tryz.prog 73 #[.agg #[.int .i64 0,.int .i64 na],.agg #[.int .i64 0,.int .i64 nb],.int .i64 sg] w fun e w'=>e=.returned (.agg #[.int .i64 0,.int .i64 0])∧Below w.heap.size w w':=by
 go_enter Tryz.func73,Tryz.ntmps73
 go_wp2
 go_returns
 exact ⟨rfl,by go_grown⟩
theorem rplus_any (ka na kb nb sg r:Int) (hr:wrap64 (na+wrap64 (sg*nb))=r):RefTo 73 #[.agg #[.int .i64 ka,.int .i64 na],.agg #[.int .i64 kb,.int .i64 nb],.int .i64 sg] (joinP (!(ka != 0 || kb != 0)) ka kb (ofP r)):=by
 intro w
 unfold joinP
 by_cases h2:ka=2∨kb=2
 ·rw [if_pos h2]
  exact rplus_fault ka na kb nb sg w h2
 ·rw [if_neg h2]
  by_cases h0:ka=0∧kb=0
  ·obtain ⟨rfl,rfl⟩:=h0
   exact rplus_blank na nb sg w
  ·rw [if_neg (by simp;omega)]
   exact rplus_made ka na kb nb sg r w (bool2 (by omega)) (bool2 (by omega)) (by simp;omega) hr
theorem rplus_plus (ka na kb nb:Int) (ha:good ka na=true) (hb:good kb nb=true):RefTo 73 #[.agg #[.int .i64 ka,.int .i64 na],.agg #[.int .i64 kb,.int .i64 nb],.int .i64 1] (plusP ka na kb nb):=by
 obtain ⟨a1,a2⟩:=good_bd ha
 obtain ⟨b1,b2⟩:=good_bd hb
 exact rplus_any ka na kb nb 1 (na+nb) (by unfold wrap64;omega)
theorem rplus_minus (ka na kb nb:Int) (ha:good ka na=true) (hb:good kb nb=true):RefTo 73 #[.agg #[.int .i64 ka,.int .i64 na],.agg #[.int .i64 kb,.int .i64 nb],.int .i64 (-1)] (minusP ka na kb nb):=by
 obtain ⟨a1,a2⟩:=good_bd ha
 obtain ⟨b1,b2⟩:=good_bd hb
 exact rplus_any ka na kb nb (-1) (na-nb) (by unfold wrap64;omega)
theorem rtimes_fault (ka na kb nb:Int) (w:World) (h:ka=2∨kb=2):Calls Tryz.prog 114 #[.agg #[.int .i64 ka,.int .i64 na],.agg #[.int .i64 kb,.int .i64 nb]] w fun e w'=>e=.returned (.agg #[.int .i64 2,.int .i64 0])∧Below w.heap.size w w':=by
 by_cases h1:ka=2
 ·subst h1
  clear h
  go_enter Tryz.func114,Tryz.ntmps114
  go_wp2
  go_returns
  exact ⟨rfl,by go_grown⟩
 ·have q1:=bool2 h1
  have h2:kb=2:=by omega
  subst h2
  clear h h1
  go_enter Tryz.func114,Tryz.ntmps114
  go_wp2
  go_returns
  exact ⟨rfl,by go_grown⟩
theorem rover_fault (ka na kb nb:Int) (w:World) (h:ka=2∨kb=2):Calls Tryz.prog 115 #[.agg #[.int .i64 ka,.int .i64 na],.agg #[.int .i64 kb,.int .i64 nb]] w fun e w'=>e=.returned (.agg #[.int .i64 2,.int .i64 0])∧Below w.heap.size w w':=by
 by_cases h1:ka=2
 ·subst h1
  clear h
  go_enter Tryz.func115,Tryz.ntmps115
  go_wp2
  go_returns
  exact ⟨rfl,by go_grown⟩
 ·have q1:=bool2 h1
  have h2:kb=2:=by omega
  subst h2
  clear h h1
  go_enter Tryz.func115,Tryz.ntmps115
  go_wp2
  go_returns
  exact ⟨rfl,by go_grown⟩
theorem rtimes_blank (ka na kb nb:Int) (w:World) (q1:(ka == 2)=false) (q2:(kb == 2)=false) (h:ka=0∨kb=0):Calls Tryz.prog 114 #[.agg #[.int .i64 ka,.int .i64 na],.agg #[.int .i64 kb,.int .i64 nb]] w fun e w'=>e=.returned (.agg #[.int .i64 0,.int .i64 0])∧Below w.heap.size w w':=by
 by_cases h1:ka=0
 ·subst h1
  clear h q1
  go_enter Tryz.func114,Tryz.ntmps114
  go_wp2
  go_returns
  exact ⟨rfl,by go_grown⟩
 ·have q3:=bool0 h1
  have h2:kb=0:=by omega
  subst h2
  clear h h1 q2
  go_enter Tryz.func114,Tryz.ntmps114
  go_wp2
  go_returns
  exact ⟨rfl,by go_grown⟩
theorem rover_blank (ka na kb nb:Int) (w:World) (q1:(ka == 2)=false) (q2:(kb == 2)=false) (h:ka=0∨kb=0):Calls Tryz.prog 115 #[.agg #[.int .i64 ka,.int .i64 na],.agg #[.int .i64 kb,.int .i64 nb]] w fun e w'=>e=.returned (.agg #[.int .i64 0,.int .i64 0])∧Below w.heap.size w w':=by
 by_cases h1:ka=0
 ·subst h1
  clear h q1
  go_enter Tryz.func115,Tryz.ntmps115
  go_wp2
  go_returns
  exact ⟨rfl,by go_grown⟩
 ·have q3:=bool0 h1
  have h2:kb=0:=by omega
  subst h2
  clear h h1 q2
  go_enter Tryz.func115,Tryz.ntmps115
  go_wp2
  go_returns
  exact ⟨rfl,by go_grown⟩
set_option maxHeartbeats 1000000 in
theorem rtimes_made (ka na kb nb:Int) (w:World) (q1:(ka == 2)=false) (q2:(kb == 2)=false) (q3:(ka == 0)=false) (q4:(kb == 0)=false) (a1 : -1000000000000≤na) (a2:na≤1000000000000) (b1 : -1000000000000≤nb) (b2:nb≤1000000000000) :
  Calls Tryz.prog 114 #[.agg #[.int .i64 ka,.int .i64 na],.agg #[.int .i64 kb,.int .i64 nb]] w fun e w'=>e=.returned (.agg #[.int .i64 (ofP (na*nb)).1,.int .i64 (ofP (na*nb)).2])∧Below w.heap.size w w':=by
 obtain ⟨ax0,ax1⟩:=ab_in a1 a2
 obtain ⟨ay0,ay1⟩:=ab_in b1 b2
 have hsx:=rsize_any na
 have hsy:=rsize_any nb
 by_cases hz0:na=0
 ·subst hz0
  have hx0:ab 0=0:=rfl
  rw [hx0] at hsx
  have ho:=rof_any (0*nb)
  rw [Int.zero_mul] at ho ⊢
  clear hx0 ax0 ax1
  go_enter Tryz.func114,Tryz.ntmps114
  go_wp2_with fail
  refine (hsx _ a1 a2).mono ?_
  rintro e w1 ⟨rfl,rfl⟩
  go_wp2_with fail
  refine (hsy _ b1 b2).mono ?_
  rintro e w1 ⟨rfl,rfl⟩
  go_wp2_with fail
  refine (ho _).mono ?_
  rintro e w1 ⟨rfl,hb⟩
  have hB:Below w.heap.size w w1:=Below.trans (by go_grown) (hb.mono (by simp;omega))
  obtain ⟨hc,hf⟩:=bcell hb
  have hz:=bsize hb
  simp at hz
  go_wp2_with fail
  refine bodyPost_ret (v:=.agg #[.int .i64 (ofP 0).1,.int .i64 (ofP 0).2]) (by simp [results,Tryz.results114,go_sem,hc]) rfl ⟨rfl,?_⟩
  go_grown
 ·have ap:=ab_pos hz0
  by_cases hg:1000000000000 / ab na<ab nb
  ·have hout:ofP (na*nb)=(2,0):=by
    refine ofP_out (ab_out (m:=1000000000000) ?_)
    rw [ab_mul,Int.mul_comm]
    exact (Int.ediv_lt_iff_lt_mul (by omega)).mp hg
   rw [hout]
   go_enter Tryz.func114,Tryz.ntmps114
   go_wp2_with fail
   refine (hsx _ a1 a2).mono ?_
   rintro e w1 ⟨rfl,rfl⟩
   go_wp2_with fail
   refine (hsy _ b1 b2).mono ?_
   rintro e w1 ⟨rfl,rfl⟩
   go_wp2
   go_returns
   exact ⟨rfl,by go_grown⟩
  ·have hin:ab (na*nb)≤1000000000000:=by
    rw [ab_mul,Int.mul_comm]
    exact Int.not_lt.mp (fun h=>hg ((Int.ediv_lt_iff_lt_mul (by omega)).mpr h))
   obtain ⟨hp1,hp2⟩:=ab_bd hin
   have ho:=rof_any (na*nb)
   clear hin
   go_enter Tryz.func114,Tryz.ntmps114
   go_wp2_with fail
   refine (hsx _ a1 a2).mono ?_
   rintro e w1 ⟨rfl,rfl⟩
   go_wp2_with fail
   refine (hsy _ b1 b2).mono ?_
   rintro e w1 ⟨rfl,rfl⟩
   go_wp2_with fail
   refine (ho _).mono ?_
   rintro e w1 ⟨rfl,hb⟩
   have hB:Below w.heap.size w w1:=Below.trans (by go_grown) (hb.mono (by simp;omega))
   obtain ⟨hc,hf⟩:=bcell hb
   have hz:=bsize hb
   simp at hz
   go_wp2_with fail
   refine bodyPost_ret (v:=.agg #[.int .i64 (ofP (na*nb)).1,.int .i64 (ofP (na*nb)).2]) (by simp [results,Tryz.results114,go_sem,hc]) rfl ⟨rfl,?_⟩
   go_grown
theorem rtimes_any (ka na kb nb:Int) (ha:good ka na=true) (hb:good kb nb=true):RefTo 114 #[.agg #[.int .i64 ka,.int .i64 na],.agg #[.int .i64 kb,.int .i64 nb]] (timesP ka na kb nb):=by
 obtain ⟨a1,a2⟩:=good_bd ha
 obtain ⟨b1,b2⟩:=good_bd hb
 intro w
 unfold timesP joinP
 by_cases h2:ka=2∨kb=2
 ·rw [if_pos h2]
  exact rtimes_fault ka na kb nb w h2
 ·rw [if_neg h2]
  by_cases h0:ka=0∨kb=0
  ·rw [if_pos (by simp;omega)]
   exact rtimes_blank ka na kb nb w (bool2 (by omega)) (bool2 (by omega)) h0
  ·rw [if_neg (by simp;omega)]
   exact rtimes_made ka na kb nb w (bool2 (by omega)) (bool2 (by omega)) (bool0 (by omega)) (bool0 (by omega)) a1 a2 b1 b2
theorem tdiv_ab (x y:Int):x.tdiv y=if (decide (x<0) != decide (y<0))=true then -(ab x / ab y) else ab x / ab y:=by
 unfold ab
 by_cases hx:x<0 <;> by_cases h:y<0
 ·rw [if_neg (by simp [hx,h]),if_pos hx,if_pos h]
  rw [←Int.tdiv_eq_ediv_of_nonneg (by omega),Int.neg_tdiv,Int.tdiv_neg,Int.neg_neg]
 ·rw [if_pos (by simp [hx,h]),if_pos hx,if_neg h]
  rw [←Int.tdiv_eq_ediv_of_nonneg (by omega),Int.neg_tdiv,Int.neg_neg]
 ·rw [if_pos (by simp [hx,h]),if_neg hx,if_pos h]
  rw [←Int.tdiv_eq_ediv_of_nonneg (by omega),Int.tdiv_neg,Int.neg_neg]
 ·rw [if_neg (by simp [hx,h]),if_neg hx,if_neg h]
  rw [←Int.tdiv_eq_ediv_of_nonneg (by omega)]
theorem rover_zero (ka na kb:Int) (w:World) (q1:(ka == 2)=false) (q2:(kb == 2)=false) (q3:(ka == 0)=false) (q4:(kb == 0)=false) :
  Calls Tryz.prog 115 #[.agg #[.int .i64 ka,.int .i64 na],.agg #[.int .i64 kb,.int .i64 0]] w fun e w'=>e=.returned (.agg #[.int .i64 2,.int .i64 0])∧Below w.heap.size w w':=by
 go_enter Tryz.func115,Tryz.ntmps115
 go_wp2
 go_returns
 exact ⟨rfl,by go_grown⟩
set_option maxHeartbeats 1000000 in
theorem rover_made (ka na kb nb:Int) (w:World) (q1:(ka == 2)=false) (q2:(kb == 2)=false) (q3:(ka == 0)=false) (q4:(kb == 0)=false) (a1 : -1000000000000≤na) (a2:na≤1000000000000) (b1 : -1000000000000≤nb) (b2:nb≤1000000000000) (h0:(nb == 0)=false) (hy : ¬ nb=0) :
  Calls Tryz.prog 115 #[.agg #[.int .i64 ka,.int .i64 na],.agg #[.int .i64 kb,.int .i64 nb]] w fun e w'=>e=.returned (.agg #[.int .i64 (ofP (na.tdiv nb)).1,.int .i64 (ofP (na.tdiv nb)).2])∧Below w.heap.size w w':=by
 obtain ⟨ax0,ax1⟩:=ab_in a1 a2
 obtain ⟨_,ay1⟩:=ab_in b1 b2
 have ay0:=ab_pos hy
 have hsx:=rsize_any na
 have hsy:=rsize_any nb
 have hq0:0≤ab na / ab nb:=Int.ediv_nonneg ax0 (by omega)
 have hq1:ab na / ab nb≤1000000000000:=Int.le_trans (Int.ediv_le_self _ ax0) ax1
 rw [tdiv_ab]
 by_cases hsg:(decide (na<0) != decide (nb<0))=true
 ·rw [if_pos hsg]
  have hs1:(decide (na<0) == decide (nb<0))=false:=by simpa using hsg
  clear hsg
  have ho:=rof_any (-(ab na / ab nb))
  go_enter Tryz.func115,Tryz.ntmps115
  go_wp2_with fail
  go_quiet (first | (go_at_call_of 152 na;exact Calls.quiet_of_same (hsx _ a1 a2)) | (go_at_call_of 152 nb;exact Calls.quiet_of_same (hsy _ b1 b2)))
  go_wp2_with fail
  refine (ho _).mono ?_
  rintro e w1 ⟨rfl,hb⟩
  have hB:Below w.heap.size w w1:=Below.trans (below_drewN (by go_grown) _) (hb.mono (by show _≤(World.alloc _ _).heap.size;simp;omega))
  obtain ⟨hc,hf⟩:=bcell hb
  have hz:=bsize hb
  simp at hz
  go_wp2_with fail
  refine bodyPost_ret (v:=.agg #[.int .i64 (ofP (-(ab na / ab nb))).1,.int .i64 (ofP (-(ab na / ab nb))).2]) (by simp [results,Tryz.results115,go_sem,hc]) rfl ⟨rfl,?_⟩
  go_grown
 ·rw [if_neg hsg]
  have hs1:(decide (na<0) == decide (nb<0))=true:=by simpa using hsg
  clear hsg
  have ho:=rof_any (ab na / ab nb)
  go_enter Tryz.func115,Tryz.ntmps115
  go_wp2_with fail
  go_quiet (first | (go_at_call_of 152 na;exact Calls.quiet_of_same (hsx _ a1 a2)) | (go_at_call_of 152 nb;exact Calls.quiet_of_same (hsy _ b1 b2)))
  go_wp2_with fail
  refine (ho _).mono ?_
  rintro e w1 ⟨rfl,hb⟩
  have hB:Below w.heap.size w w1:=Below.trans (below_drewN (by go_grown) _) (hb.mono (by show _≤(World.alloc _ _).heap.size;simp;omega))
  obtain ⟨hc,hf⟩:=bcell hb
  have hz:=bsize hb
  simp at hz
  go_wp2_with fail
  refine bodyPost_ret (v:=.agg #[.int .i64 (ofP (ab na / ab nb)).1,.int .i64 (ofP (ab na / ab nb)).2]) (by simp [results,Tryz.results115,go_sem,hc]) rfl ⟨rfl,?_⟩
  go_grown
theorem rover_any (ka na kb nb:Int) (ha:good ka na=true) (hb:good kb nb=true):RefTo 115 #[.agg #[.int .i64 ka,.int .i64 na],.agg #[.int .i64 kb,.int .i64 nb]] (overP ka na kb nb):=by
 obtain ⟨a1,a2⟩:=good_bd ha
 obtain ⟨b1,b2⟩:=good_bd hb
 intro w
 unfold overP joinP
 by_cases h2:ka=2∨kb=2
 ·rw [if_pos h2]
  exact rover_fault ka na kb nb w h2
 ·rw [if_neg h2]
  by_cases h0:ka=0∨kb=0
  ·rw [if_pos (by simp;omega)]
   exact rover_blank ka na kb nb w (bool2 (by omega)) (bool2 (by omega)) h0
  ·rw [if_neg (by simp;omega)]
   unfold quoP
   by_cases hy:nb=0
   ·subst hy
    rw [if_pos rfl]
    exact rover_zero ka na kb w (bool2 (by omega)) (bool2 (by omega)) (bool0 (by omega)) (bool0 (by omega))
   ·rw [if_neg hy]
    exact rover_made ka na kb nb w (bool2 (by omega)) (bool2 (by omega)) (bool0 (by omega)) (bool0 (by omega)) a1 a2 b1 b2 (bool0 hy) hy
end Go.Proofs.YtaodedckffjpgafGreatDoor
