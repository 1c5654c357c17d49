/-
  The document's own look at a formula (tallyref2.Formula) tells what is wrong with it: none, too many nodes, the first node that is wrong, who is not used by just one.
-/
import Derived.Deep.RegionHeld
import Derived.Deep.QuietTactic
import Derived.Test.YtenlladggdcfnaaGreatDoorJAAH
import Derived.Test.YtenlladggdcfnaaGreatDoorJABD
namespace Go.Proofs.YtenlladggdcfnaaGreatDoor
open Go Go.ChangeShapes Go.WideShapes Go.ChangeAt Go.RowKit
set_option maxRecDepth 20000
def usedL (l:List Nd) (k:Nat):List Int:=(List.range l.length).map fun j=>(usedTo l k j:Int)
section
variable {l:List Nd} {k j a b:Nat}
theorem usedL_len:(usedL l k).length=l.length:=by simp [usedL]
theorem usedL_at (h:j<l.length):(usedL l k).getD j 0=(usedTo l k j:Int):=by simp [usedL,List.getD,h]
theorem usedTo_le (l:List Nd) (k j:Nat):usedTo l k j≤2*k:=by
 induction k with
 | zero=>simp [usedTo]
 | succ k ih =>
  have h:uses (l.getD k noN) j≤2:=by
   unfold uses
   split
   ·split <;> split <;> omega
   ·omega
  unfold usedTo
  omega
theorem usedL_zero:usedL l 0=List.replicate l.length 0:=by
 apply List.ext_getElem (by simp [usedL])
 intro j h1 h2
 simp [usedL,usedTo]
theorem usedL_same (h:(l.getD k noN).op≤2):usedL l (k+1)=usedL l k:=by
 have e:∀ j,usedTo l (k+1) j=usedTo l k j:=fun j=>by
  show usedTo l k j+uses (l.getD k noN) j=_
  rw [uses,if_neg (by omega)]
  rfl
 unfold usedL
 simp only [e]
theorem getD_set_ints {L:List Int} {a b:Nat} {x:Int} (h:a<L.length):(L.set a x).getD b 0=if a=b then x else L.getD b 0:=by
 rw [List.getD_eq_getElem?_getD,List.getD_eq_getElem?_getD,List.getElem?_set]
 by_cases e:a=b
 ·subst e;simp [h]
 ·simp [e]
theorem usedL_two (h:2<(l.getD k noN).op) (ha:(l.getD k noN).left=(a:Int)) (hb:(l.getD k noN).right=(b:Int)) (_hal:a<l.length) (hbl:b<l.length) :
  ((usedL l k).set a ((usedTo l k a:Int)+1)).set b ((if a=b then (usedTo l k a:Int)+1 else (usedTo l k b:Int))+1)=usedL l (k+1):=by
 apply List.ext_getElem (by simp [usedL])
 intro j h1 h2
 have e:(usedL l (k+1))[j]=((usedTo l k j+uses (l.getD k noN) j:Nat):Int):=by simp only [usedL,usedTo,List.getElem_map,List.getElem_range]
 have e2:∀ h,(usedL l k)[j]'h=(usedTo l k j:Int):=fun h=>by simp only [usedL,List.getElem_map,List.getElem_range]
 rw [e,uses,if_pos h,ha,hb,List.getElem_set,List.getElem_set,e2]
 by_cases hbj:b=j
 ·subst hbj
  by_cases hab:a=b
  ·subst hab
   simp
   omega
  ·have : ¬ (a:Int)=(b:Int):=by omega
   simp [hab,this]
 ·have h3 : ¬ (b:Int)=(j:Int):=by omega
  by_cases haj:a=j
  ·subst haj
   simp [hbj,h3]
  ·have h4 : ¬ (a:Int)=(j:Int):=by omega
   simp [hbj,haj,h3,h4]
end
set_option maxHeartbeats 8000000 in
theorem rform_any (A:Option Addr) (cap:Nat) (l:List Nd) (w:World) (hN:NdsV w A cap l) :
  Calls Tryz.prog 131 #[.slice A l.length cap] w fun e w'=>e=.returned (.int .i64 (formErr l))∧Below w.heap.size w w':=by
 by_cases c0:l.length=0
 ·have HR:Hid (formErr l=5):=form_none c0
  rw [c0]
  clear c0
  go_enter Tryz.func131,Tryz.ntmps131
  go_wp2_with fail
  go_ret
  exact ⟨by rw [HR.out];rfl,Below.refl _ _⟩
 obtain ⟨-,-,h0 | ⟨b,o,rfl,hAt⟩⟩:=hN
 ·rw [h0] at c0;exact absurd rfl c0
 have HAt:Hid (NdsAt w b o l):=hAt
 by_cases c1:30<l.length
 ·have HR:Hid (formErr l=4):=form_full c1
  have c1':(30:Int)<(l.length:Int):=by omega
  have c0':((l.length:Int) == 0)=false:=by rw [beq_eq_false_iff_ne];omega
  generalize l.length=N at c1' c0'
  clear hAt c0 c1
  go_enter Tryz.func131,Tryz.ntmps131
  go_wp2_with fail
  go_ret
  exact ⟨by rw [HR.out];rfl,Below.refl _ _⟩
 obtain ⟨N,hNe⟩:∃ N,l.length=N:=⟨_,rfl⟩
 have HN:Hid (l.length=N):=hNe
 rw [hNe] at c0 c1 ⊢
 have c0':((N:Int) == 0)=false:=by simp;omega
 have c1':(N:Int)≤30:=by omega
 have hN1:1≤N:=by omega
 have hmk:=run_make_row' (P:=Tryz.prog) 22 3 (.int .i64 0) 8 Tryz.underlying22 Tryz.infoIntP rfl .i64 .i64 N (by omega) (by omega)
 clear hAt hNe c0 c1
 go_enter Tryz.func131,Tryz.ntmps131
 go_wp2_with fail
 clear hmk
 go_loopg [4,5] N (fun g s4 s5 wr => ∃ (k:Nat),k≤N∧g=N-k∧s4=.int .i64 k∧IntB wr w.heap.size (usedL l k)∧(∀ j,j<k→badN l j=false)∧Below w.heap.size w wr)
 case atStart=>exact ⟨0,Nat.zero_le _,rfl,rfl,by rw [usedL_zero,HN.out];exact IntB.made w N,fun j hj=>absurd hj (Nat.not_lt_zero _),by go_grown⟩
 case round =>
  obtain ⟨k,hk,rfl,rfl,hI,hG,hBw⟩:=hrel
  have HI:Hid (IntB wr w.heap.size (usedL l k)):=hI
  have HG:Hid (∀ j,j<k→badN l j=false):=hG
  have HBw:Hid (Below w.heap.size w wr):=hBw
  by_cases hlt:k<N
  ·have hlt':(k:Int)<(N:Int):=by omega
   obtain ⟨x1,x2,x3,x4,x5⟩:=(HAt.out.later hBw).2 k (by rw [HN.out];exact hlt)
   have HF:Hid (∀ c:Int,ndErr (l.getD k noN) k=c→c≠0→formErr l=c):=fun c h1 h2=>by
    rw [form_bad (by rw [HN.out];omega) (by rw [HN.out];exact hlt) (decide_eq_true (by rw [h1];exact h2)) HG.out,h1]
   have HK:Hid (ndErr (l.getD k noN) k=0→∀ j,j<k+1→badN l j=false):=fun h j hj=>by
    rcases Nat.lt_or_ge j k with h1 | h1
    ·exact HG.out j h1
    ·rw [show j=k by omega];exact decide_eq_false (by rw [h];simp)
   have HU1:Hid ((l.getD k noN).op≤2→usedL l (k+1)=usedL l k):=usedL_same
   have HU2:Hid (∀ a b:Nat,2<(l.getD k noN).op→(l.getD k noN).left=(a:Int)→(l.getD k noN).right=(b:Int)→a<l.length→b<l.length→((usedL l k).set a ((usedTo l k a:Int)+1)).set b ((if a=b then (usedTo l k a:Int)+1 else (usedTo l k b:Int))+1)=usedL l (k+1)):=fun a b=>usedL_two
   generalize l.getD k noN=x at x1 x2 x3 x4 x5 HF HK HU1 HU2
   obtain ⟨op,n,nm,le,ri⟩:=x
   simp only at x1 x2 x3 x4 x5 HU1 HU2
   obtain ⟨W,hW⟩:∃ W,wr.alloc (.cells #[.int .i64 op,.int .i64 n,.string nm,.int .i64 le,.int .i64 ri] 172)=W:=⟨_,rfl⟩
   have y1:W.cell? ⟨wr.heap.size,0,none⟩=some (.int .i64 op):=by rw [←hW];simp
   have y2:W.cell? ⟨wr.heap.size,1,none⟩=some (.int .i64 n):=by rw [←hW];simp
   have y3:W.cell? ⟨wr.heap.size,2,none⟩=some (.string nm):=by rw [←hW];simp
   have y4:W.cell? ⟨wr.heap.size,3,none⟩=some (.int .i64 le):=by rw [←hW];simp
   have y5:W.cell? ⟨wr.heap.size,4,none⟩=some (.int .i64 ri):=by rw [←hW];simp
   have hbW:Below wr.heap.size wr W:=by rw [←hW];go_grown
   have HBW:Hid (Below w.heap.size w W):=onB hBw hbW
   have HIW:Hid (IntB W w.heap.size (usedL l k)):=hI.later hbW
   clear hI hG hBw hbW
   by_cases d1:op<1
   ·have HR:Hid (formErr l=1):=HF.out 1 (by unfold ndErr;dsimp only;(repeat' split) <;> omega) (by decide)
    go_wp2_with fail
    go_ret
    exact ⟨by rw [HR.out];rfl,HBW.out⟩
   by_cases d2:6<op
   ·have HR:Hid (formErr l=1):=HF.out 1 (by unfold ndErr;dsimp only;(repeat' split) <;> omega) (by decide)
    go_wp2_with fail
    go_ret
    exact ⟨by rw [HR.out];rfl,HBW.out⟩
   by_cases d3:op=1
   ·subst d3
    by_cases d4:n<0
    ·have HR:Hid (formErr l=1):=HF.out 1 (by unfold ndErr;dsimp only;(repeat' split) <;> omega) (by decide)
     go_wp2_with fail
     go_ret
     exact ⟨by rw [HR.out];rfl,HBW.out⟩
    by_cases d5:1000000<n
    ·have HR:Hid (formErr l=1):=HF.out 1 (by unfold ndErr;dsimp only;(repeat' split) <;> omega) (by decide)
     go_wp2_with fail
     go_ret
     exact ⟨by rw [HR.out];rfl,HBW.out⟩
    by_cases dm:nm.size≠0
    ·have HR:Hid (formErr l=3):=HF.out 3 (by unfold ndErr;dsimp only;(repeat' split) <;> omega) (by decide)
     have bm:nm.toList.isEmpty=false:=by rw [empty_same];simpa using dm
     clear dm
     go_wp2_with fail
     go_ret
     exact ⟨by rw [HR.out];rfl,HBW.out⟩
    have bm:nm.toList.isEmpty=true:=by rw [empty_same];simpa using dm
    have HM:Hid (nm.size=0):=by show _=_;omega
    clear dm
    by_cases dle:le≠0
    ·have HR:Hid (formErr l=3):=HF.out 3 (by have:=HM.out;unfold ndErr;dsimp only;(repeat' split) <;> omega) (by decide)
     have ble:(le != 0)=true:=by simpa using dle
     clear dle
     go_wp2_with fail
     go_ret
     exact ⟨by rw [HR.out];rfl,HBW.out⟩
    have Hle:Hid (le=0):=by show _=_;omega
    have ble:(le != 0)=false:=by have:=Hle.out;simpa using this
    clear dle
    by_cases dri:ri≠0
    ·have HR:Hid (formErr l=3):=HF.out 3 (by have:=Hle.out;have:=HM.out;unfold ndErr;dsimp only;(repeat' split) <;> omega) (by decide)
     have bri:(ri != 0)=true:=by simpa using dri
     clear dri
     go_wp2_with fail
     go_ret
     exact ⟨by rw [HR.out];rfl,HBW.out⟩
    have Hri:Hid (ri=0):=by show _=_;omega
    have bri:(ri != 0)=false:=by have:=Hri.out;simpa using this
    clear dri
    have HG1:Hid (∀ j,j<k+1→badN l j=false):=HK.out (by have:=Hle.out;have:=Hri.out;have:=HM.out;unfold ndErr;dsimp only;(repeat' split) <;> omega)
    have HU:Hid (usedL l (k+1)=usedL l k):=HU1.out (by decide)
    go_wp2_with fail
    go_roundg (N-(k+1))
    case measure=>omega
    case rel=>exact ⟨k+1,by omega,rfl,by go_num,by rw [HU.out];exact HIW.out,HG1.out,HBW.out⟩
   by_cases d6:op=2
   ·subst d6
    have hnm:=rname_any nm W
    by_cases d7:nameErr nm=0
    ·have HZ:Hid (nameErr nm=0):=d7
     rw [d7] at hnm
     clear d7
     by_cases dn:n≠0
     ·have HR:Hid (formErr l=3):=HF.out 3 (by have:=HZ.out;unfold ndErr;dsimp only;(repeat' split) <;> omega) (by decide)
      have bn:(n != 0)=true:=by simpa using dn
      clear dn
      go_wp2_with fail
      refine hnm.mono ?_
      rintro e w1 ⟨rfl,rfl⟩
      go_wp2_with fail
      go_ret
      exact ⟨by rw [HR.out];rfl,HBW.out⟩
     have Hn:Hid (n=0):=by show _=_;omega
     have bn:(n != 0)=false:=by have:=Hn.out;simpa using this
     clear dn
     by_cases dle:le≠0
     ·have HR:Hid (formErr l=3):=HF.out 3 (by have:=Hn.out;have:=HZ.out;unfold ndErr;dsimp only;(repeat' split) <;> omega) (by decide)
      have ble:(le != 0)=true:=by simpa using dle
      clear dle
      go_wp2_with fail
      refine hnm.mono ?_
      rintro e w1 ⟨rfl,rfl⟩
      go_wp2_with fail
      go_ret
      exact ⟨by rw [HR.out];rfl,HBW.out⟩
     have Hle:Hid (le=0):=by show _=_;omega
     have ble:(le != 0)=false:=by have:=Hle.out;simpa using this
     clear dle
     by_cases dri:ri≠0
     ·have HR:Hid (formErr l=3):=HF.out 3 (by have:=Hn.out;have:=Hle.out;have:=HZ.out;unfold ndErr;dsimp only;(repeat' split) <;> omega) (by decide)
      have bri:(ri != 0)=true:=by simpa using dri
      clear dri
      go_wp2_with fail
      refine hnm.mono ?_
      rintro e w1 ⟨rfl,rfl⟩
      go_wp2_with fail
      go_ret
      exact ⟨by rw [HR.out];rfl,HBW.out⟩
     have Hri:Hid (ri=0):=by show _=_;omega
     have bri:(ri != 0)=false:=by have:=Hri.out;simpa using this
     clear dri
     have HG1:Hid (∀ j,j<k+1→badN l j=false):=HK.out (by have:=Hn.out;have:=Hle.out;have:=Hri.out;have:=HZ.out;unfold ndErr;dsimp only;(repeat' split) <;> omega)
     have HU:Hid (usedL l (k+1)=usedL l k):=HU1.out (by decide)
     go_wp2_with fail
     refine hnm.mono ?_
     rintro e w1 ⟨rfl,rfl⟩
     go_wp2_with fail
     go_roundg (N-(k+1))
     case measure=>omega
     case rel=>exact ⟨k+1,by omega,rfl,by go_num,by rw [HU.out];exact HIW.out,HG1.out,HBW.out⟩
    ·have HR:Hid (formErr l=2):=HF.out 2 (by unfold ndErr;dsimp only;(repeat' split) <;> omega) (by decide)
     rw [nameErr_two d7] at hnm
     clear d7
     go_wp2_with fail
     refine hnm.mono ?_
     rintro e w1 ⟨rfl,rfl⟩
     go_wp2_with fail
     go_ret
     exact ⟨by rw [HR.out];rfl,HBW.out⟩
   have o1:(op == 1)=false:=by simpa using d3
   have o2:(op == 2)=false:=by simpa using d6
   have HO:Hid (¬ op=1∧¬ op=2):=⟨d3,d6⟩
   clear d3 d6
   by_cases d8:le<0
   ·have HR:Hid (formErr l=1):=HF.out 1 (by have:=HO.out;unfold ndErr;dsimp only;(repeat' split) <;> omega) (by decide)
    go_wp2_with fail
    go_ret
    exact ⟨by rw [HR.out];rfl,HBW.out⟩
   by_cases d9:(k:Int)≤le
   ·have HR:Hid (formErr l=1):=HF.out 1 (by have:=HO.out;unfold ndErr;dsimp only;(repeat' split) <;> omega) (by decide)
    go_wp2_with fail
    go_ret
    exact ⟨by rw [HR.out];rfl,HBW.out⟩
   by_cases d10:ri<0
   ·have HR:Hid (formErr l=1):=HF.out 1 (by have:=HO.out;unfold ndErr;dsimp only;(repeat' split) <;> omega) (by decide)
    go_wp2_with fail
    go_ret
    exact ⟨by rw [HR.out];rfl,HBW.out⟩
   by_cases d11:(k:Int)≤ri
   ·have HR:Hid (formErr l=1):=HF.out 1 (by have:=HO.out;unfold ndErr;dsimp only;(repeat' split) <;> omega) (by decide)
    go_wp2_with fail
    go_ret
    exact ⟨by rw [HR.out];rfl,HBW.out⟩
   by_cases dn:n≠0
   ·have HR:Hid (formErr l=3):=HF.out 3 (by have:=HO.out;unfold ndErr;dsimp only;(repeat' split) <;> omega) (by decide)
    have bn:(n != 0)=true:=by simpa using dn
    clear dn
    go_wp2_with fail
    go_ret
    exact ⟨by rw [HR.out];rfl,HBW.out⟩
   have Hn:Hid (n=0):=by show _=_;omega
   have bn:(n != 0)=false:=by have:=Hn.out;simpa using this
   clear dn
   by_cases dm:nm.size≠0
   ·have HR:Hid (formErr l=3):=HF.out 3 (by have:=Hn.out;have:=HO.out;unfold ndErr;dsimp only;(repeat' split) <;> omega) (by decide)
    have bm:nm.toList.isEmpty=false:=by rw [empty_same];simpa using dm
    clear dm
    go_wp2_with fail
    go_ret
    exact ⟨by rw [HR.out];rfl,HBW.out⟩
   have bm:nm.toList.isEmpty=true:=by rw [empty_same];simpa using dm
   have HM:Hid (nm.size=0):=by show _=_;omega
   clear dm
   have HG1:Hid (∀ j,j<k+1→badN l j=false):=HK.out (by have:=HO.out;have:=HM.out;have:=Hn.out;unfold ndErr;dsimp only;(repeat' split) <;> omega)
   obtain ⟨a,rfl⟩:∃ a:Nat,le=(a:Int):=⟨le.toNat,by omega⟩
   obtain ⟨b',rfl⟩:∃ b':Nat,ri=(b':Int):=⟨ri.toNat,by omega⟩
   have ha:a<N:=by omega
   have hb:b'<N:=by omega
   have HU:=HU2.out a b' (by have:=HO.out;omega) rfl rfl (by rw [HN.out];exact ha) (by rw [HN.out];exact hb)
   have HUh:Hid (((usedL l k).set a ((usedTo l k a:Int)+1)).set b' ((if a=b' then (usedTo l k a:Int)+1 else (usedTo l k b':Int))+1)=usedL l (k+1)):=HU
   have e1:=HIW.out.cell (j:=a) (by rw [usedL_len,HN.out];exact ha)
   rw [usedL_at (by rw [HN.out];exact ha)] at e1
   have f1:=HIW.out.frozen a
   have HI2:=HIW.out.set a ((usedTo l k a:Int)+1)
   have e2:=HI2.cell (j:=b') (by rw [List.length_set,usedL_len,HN.out];exact hb)
   rw [getD_set_ints (by rw [usedL_len,HN.out];exact ha),usedL_at (by rw [HN.out];exact hb)] at e2
   have f2:=HI2.frozen b'
   have HI3:Hid (IntB ((W.setCell ⟨w.heap.size,a,none⟩ (.int .i64 ((usedTo l k a:Int)+1))).setCell ⟨w.heap.size,b',none⟩ (.int .i64 ((if a=b' then (usedTo l k a:Int)+1 else (usedTo l k b':Int))+1))) w.heap.size (usedL l (k+1))):=by
    have h:=HI2.set b' ((if a=b' then (usedTo l k a:Int)+1 else (usedTo l k b':Int))+1)
    rw [HU] at h
    exact h
   have ua:=usedTo_le l k a
   have ub:=usedTo_le l k b'
   generalize usedTo l k a=ua' at *
   generalize usedTo l k b'=ub' at *
   obtain ⟨v,hv⟩:∃ v:Nat,(if a=b' then (ua':Int)+1 else (ub':Int))=(v:Int):=⟨if a=b' then ua'+1 else ub',by split <;> simp⟩
   have hv1:(v:Int)≤100:=by rw [←hv];split <;> omega
   have hu1:(ua':Int)≤100:=by omega
   rw [hv] at e2 HI3
   have hak:(a:Int)<(N:Int):=by omega
   have hbk:(b':Int)<(N:Int):=by omega
   have hak':(a:Int)<(k:Int):=by omega
   have hbk':(b':Int)<(k:Int):=by omega
   have hne:w.heap.size<wr.heap.size:=HI.out.lt
   have HBV:Hid (Below w.heap.size w (W.setCell ⟨w.heap.size,a,none⟩ (.int .i64 ((ua':Int)+1)))):=HBW.out.setCell (by show w.heap.size≤w.heap.size;omega) _
   have y6:(W.setCell ⟨w.heap.size,a,none⟩ (.int .i64 ((ua':Int)+1))).cell? ⟨wr.heap.size,4,none⟩=some (.int .i64 (b':Int)):=by
    rw [World.cell?_setCell_far _ _ _ _ (by show w.heap.size≠wr.heap.size;omega)]
    exact y5
   obtain ⟨V,hV⟩:∃ V,W.setCell ⟨w.heap.size,a,none⟩ (.int .i64 ((ua':Int)+1))=V:=⟨_,rfl⟩
   rw [hV] at e2 f2 HI3 HBV y6
   clear HU HUh HI2 hv ua ub d9 d11 ha hb hne
   go_wp2_with fail
   go_roundg (N-(k+1))
   case measure=>omega
   case rel=>exact ⟨k+1,by omega,rfl,by go_num,HI3.out,HG1.out,HBV.out.setCell (by show w.heap.size≤w.heap.size;omega) _⟩
  ·obtain rfl:k=N:=by omega
   have hlt' : ¬ (k:Int)<(k:Int):=by omega
   clear hI hG hBw
   go_wp2_with fail
   go_loopg [6] k (fun g s6 wt => ∃ (j:Nat),j≤k-1∧g=k-j∧s6=.int .i64 j∧wt=wr∧(∀ i,i<j→oddN l i=false))
   case atStart=>exact ⟨0,Nat.zero_le _,rfl,rfl,rfl,fun i hi=>absurd hi (Nat.not_lt_zero _)⟩
   case round =>
    obtain ⟨j,hj,rfl,rfl,rfl,hO⟩:=hrel
    have HO:Hid (∀ i,i<j→oddN l i=false):=hO
    clear hO
    by_cases hjl:j<k-1
    ·have hj1:(j:Int)<(k:Int)-1:=by omega
     have hj2:(j:Int)<(k:Int):=by omega
     have e1:=HI.out.cell (j:=j) (by rw [usedL_len,HN.out];omega)
     rw [usedL_at (by rw [HN.out];omega)] at e1
     by_cases hu:usedTo l k j=1
     ·have HO1:Hid (∀ i,i<j+1→oddN l i=false):=fun i hi=>by
       rcases Nat.lt_or_ge i j with h1 | h1
       ·exact HO.out i h1
       ·rw [show i=j by omega];exact decide_eq_false (by rw [HN.out,hu];simp)
      rw [hu] at e1
      clear hu
      go_wp2_with fail
      go_roundg (k-(j+1))
      case measure=>omega
      case rel=>exact ⟨j+1,by omega,rfl,by go_num,rfl,HO1.out⟩
     ·have HR:Hid (formErr l=3):=form_odd (by rw [HN.out];omega) (by rw [HN.out];omega) (by rw [HN.out];exact HG.out) (i:=j) (by rw [HN.out];exact hjl) (decide_eq_true (by rw [HN.out];exact hu))
      have hu':(((usedTo l k j:Nat):Int) == 1)=false:=by simp;omega
      generalize usedTo l k j=u at e1 hu'
      clear hu
      go_wp2_with fail
      go_ret
      exact ⟨by rw [HR.out];rfl,HBw.out⟩
    ·have HR:Hid (formErr l=0):=form_good (by rw [HN.out];omega) (by rw [HN.out];omega) (by rw [HN.out];exact HG.out) (fun i hi=>HO.out i (by rw [HN.out] at hi;omega))
     have hj1 : ¬ (j:Int)<(k:Int)-1:=by omega
     go_wp2_with fail
     go_ret
     exact ⟨by rw [HR.out];rfl,HBw.out⟩
end Go.Proofs.YtenlladggdcfnaaGreatDoor
namespace Go.Proofs.YtenlladggdcfnaaGreatDoor
open Go.ChangeShapes Go.WideShapes Go.ChangeAt Go.RowKit
set_option maxRecDepth 20000
theorem clashD_hit {D:Nat→Dm} {k j:Nat} (hj:j<k) (h:same (D j).name (D k).name=true):clashD D k=true:=by
 unfold clashD
 exact decide_eq_true (findFrom_nonneg (q:=fun j=>same (D j).name (D k).name) hj h)
theorem clashD_none {D:Nat→Dm} {k:Nat} (h:findFrom (fun j=>same (D j).name (D k).name) k 0 = -1):clashD D k=false:=by
 unfold clashD
 rw [h]
 rfl
set_option maxHeartbeats 8000000 in
theorem routline_any (A0:Option Addr) (cap n:Nat) (D:Nat→Dm) (A:Nat→Option Addr) (C:Nat→Nat) (w:World) (hM:DimsV w A0 cap n D A C):Calls Tryz.prog 86 #[.agg #[.slice A0 n cap]] w fun e w'=>e=.returned (.tuple #[.int .i64 (allErr D n).1,.int .i64 (allErr D n).2.1,.int .i64 (allErr D n).2.2])∧Below w.heap.size w w':=by
 by_cases hn4:4<n
 ·have hn':4<(n:Int):=by omega
  have HR:Hid (allErr D n=(-1,-1,4)):=al0 hn4
  clear hn4 hM
  go_enter Tryz.func86,Tryz.ntmps86
  go_wp2_with fail
  refine bodyPost_ret (v:=.tuple #[.int .i64 (-1),.int .i64 (-1),.int .i64 4]) (by simp [results,Tryz.results86,go_sem]) rfl ⟨by rw [HR.out],?_⟩
  go_grown
 have hn':(n:Int)≤4:=by omega
 by_cases hn0:n=0
 ·have HR:Hid (allErr D n=(-1,-1,5)):=al1 hn0
  have hz:((n:Int) == 0)=true:=by simp [hn0]
  clear hn0 hM hn4
  go_enter Tryz.func86,Tryz.ntmps86
  go_wp2_with fail
  refine bodyPost_ret (v:=.tuple #[.int .i64 (-1),.int .i64 (-1),.int .i64 5]) (by simp [results,Tryz.results86,go_sem]) rfl ⟨by rw [HR.out],?_⟩
  go_grown
 have hz:((n:Int) == 0)=false:=by simp;omega
 obtain ⟨hcap,h0 | ⟨b,o,rfl,hMs⟩⟩:=hM
 ·omega
 have hcap':(n:Int)≤(cap:Int):=by omega
 have hB0:=ownOut_below w (some ⟨b,o,none⟩) n cap 25
 have hS:=ownOut_size w (some ⟨b,o,none⟩) n cap 25
 have hA:=ownOut_at w (some ⟨b,o,none⟩) n cap 25
 obtain ⟨W,hW⟩:∃ W,W=ownOut w (some ⟨b,o,none⟩) n cap 25:=⟨_,rfl⟩
 rw [←hW] at hB0 hS hA
 have HMs:Hid (DimsAt W b o n D A C):=hMs.later hB0
 have hsz:w.heap.size<W.heap.size:=by omega
 clear hMs
 have HW:Hid (W=ownOut w (some ⟨b,o,none⟩) n cap 25):=hW
 have HA:Hid (W.cell? ⟨w.heap.size,0,none⟩=some (.slice (some ⟨b,o,none⟩) n cap)):=hA
 have HB0:Hid (Below w.heap.size w W):=hB0
 clear hW hA hB0 hS
 go_enter Tryz.func86,Tryz.ntmps86
 go_wp2_with fail
 go_loopg [5] n (fun g s5 wr => ∃ (k:Nat),k≤n∧g=n-k∧s5=.int .i64 k∧scanD D (n-k) k=scanD D n 0∧Below W.heap.size W wr)
 case atStart=>exact ⟨0,Nat.zero_le _,rfl,rfl,rfl,by rw [HW.out];exact Below.refl _ _⟩
 case round =>
  obtain ⟨k,hk,rfl,rfl,hsc,hBw⟩:=hrel
  obtain ⟨wo,rfl⟩:∃ wo:World,wo=wr:=⟨_,rfl⟩
  have HBr:Hid (Below W.heap.size W wo):=hBw
  have HF:Hid (scanD D (n-k) k=scanD D n 0):=hsc
  have c0:wo.cell? ⟨w.heap.size,0,none⟩=some (.slice (some ⟨b,o,none⟩) n cap):=(hBw.cell (p:=⟨w.heap.size,0,none⟩) hsz).trans HA.out
  have hMr:=HMs.out.later hBw
  have hszr:w.heap.size<wo.heap.size:=Nat.lt_of_lt_of_le hsz hBw.size
  clear hsc hBw
  by_cases hlt:k<n
  ·obtain ⟨h0,h1,h2,h3⟩:=hMr.2 k hlt
   have hki:(k:Int)<(n:Int):=by omega
   have hsk:n-k=(n-(k+1))+1:=by omega
   have hck:=rdim_any (D k) (A k) (C k) wo h3
   unfold dimV at hck
   have HMr:Hid (DimsAt wo b o n D A C):=hMr
   clear h3 hMr
   by_cases he:(dimErr (D k)).2=0
   ·obtain ⟨e1,hd1,hd2,-⟩:=dimErr_right he
    rw [he,e1] at hck
    have HE:Hid ((dimErr (D k)).2=0):=he
    clear he e1
    go_wp2_with fail
    refine hck.mono ?_
    rintro e w1 ⟨rfl,hb1⟩
    have hz1:w.heap.size<w1.heap.size:=Nat.lt_of_lt_of_le hszr hb1.size
    have c1:w1.cell? ⟨w.heap.size,0,none⟩=some (.slice (some ⟨b,o,none⟩) n cap):=(hb1.cell (p:=⟨w.heap.size,0,none⟩) hszr).trans c0
    have HM1:Hid (DimsAt w1 b o n D A C):=HMr.out.later hb1
    have HB1:Hid (Below W.heap.size W w1):=onB HBr.out hb1
    clear hb1 hck c0 h0 h1 h2 HMr hd1 hd2
    go_wp2_with fail
    go_loopg [7,8] k (fun g s7 s8 wr => ∃ (j:Nat),j≤k∧g=k-j∧s8=.int .i64 j∧((s7=.int .i64 0∧findFrom (fun j=>same (D j).name (D k).name) (k-j) j=findFrom (fun j=>same (D j).name (D k).name) k 0)∨(s7=.int .i64 7∧clashD D k=true))∧Below w1.heap.size w1 wr)
    case atStart=>exact ⟨0,Nat.zero_le _,rfl,rfl,Or.inl ⟨rfl,rfl⟩,Below.refl _ _⟩
    case round =>
     obtain ⟨j,hj,rfl,rfl,hs,hBi⟩:=hrel
     have HBi:Hid (Below w1.heap.size w1 wr):=hBi
     have c2:wr.cell? ⟨w.heap.size,0,none⟩=some (.slice (some ⟨b,o,none⟩) n cap):=(hBi.cell (p:=⟨w.heap.size,0,none⟩) hz1).trans c1
     have hMi:=HM1.out.later hBi
     clear hBi
     rcases hs with ⟨rfl,hff⟩ | ⟨rfl,hcl⟩
     ·have HFF:Hid (findFrom (fun j=>same (D j).name (D k).name) (k-j) j=findFrom (fun j=>same (D j).name (D k).name) k 0):=hff
      clear hff
      by_cases hjk:j<k
      ·obtain ⟨a0,-,-,-⟩:=hMi.2 j (by omega)
       obtain ⟨b0,-,-,-⟩:=hMi.2 k hlt
       have hji:(j:Int)<(k:Int):=by omega
       have hjn:(j:Int)<(n:Int):=by omega
       have hsj:k-j=(k-(j+1))+1:=by omega
       clear hMi
       cases hq:((D j).name.toList == (D k).name.toList)
       ·have HQ:Hid ((fun j=>same (D j).name (D k).name) j=false):=hq
        go_wp2_with fail
        go_quiet (fail)
        go_wp2_with fail
        go_roundg (k-(j+1))
        case measure=>omega
        case rel=>exact ⟨j+1,by omega,rfl,by go_num,Or.inl ⟨rfl,by rw [←HFF.out,hsj,findFrom_miss _ HQ.out]⟩,onB HBi.out (below_drewN (Below.refl _ _) _)⟩
       ·have HQ:Hid (clashD D k=true):=clashD_hit hjk hq
        go_wp2_with fail
        go_quiet (fail)
        go_wp2_with fail
        go_roundg (k-(j+1))
        case measure=>omega
        case rel=>exact ⟨j+1,by omega,rfl,by go_num,Or.inr ⟨rfl,HQ.out⟩,onB HBi.out (below_drewN (Below.refl _ _) _)⟩
      ·have hje:j=k:=by omega
       have hji:(k:Int)≤(j:Int):=by omega
       have hcl:clashD D k=false:=clashD_none (by rw [←HFF.out,hje,Nat.sub_self];rfl)
       have HK:Hid (oneD D k=(-1,0)):=one2 HE.out hcl
       clear hMi hcl
       go_wp2_with fail
       go_roundg (n-(k+1))
       case measure=>omega
       case rel=>exact ⟨k+1,by omega,rfl,by go_num,by rw [←HF.out,hsk,scanD_ok _ (by rw [HK.out])],onB HB1.out HBi.out⟩
     ·have HK:Hid (oneD D k=(-1,7)):=one1 HE.out hcl
      clear hMi hcl
      have hsb:scanD D n 0=((k:Int),-1,7):=by rw [←HF.out,hsk,scanD_bad _ (by rw [HK.out];decide),HK.out]
      have HR:Hid (allErr D n=((k:Int),-1,7)):=by show _=_;rw [al2 (by omega) (by omega) (by rw [hsb];show (7:Int)≠0;decide),hsb]
      clear hsb
      by_cases hjk:(j:Int)<(k:Int)
      ·go_wp2_with fail
       refine bodyPost_ret (v:=.tuple #[.int .i64 k,.int .i64 (-1),.int .i64 7]) (by simp [results,Tryz.results86,go_sem]) rfl ⟨by rw [HR.out],?_⟩
       exact onB HB0.out (onB HB1.out HBi.out)
      ·go_wp2_with fail
       refine bodyPost_ret (v:=.tuple #[.int .i64 k,.int .i64 (-1),.int .i64 7]) (by simp [results,Tryz.results86,go_sem]) rfl ⟨by rw [HR.out],?_⟩
       exact onB HB0.out (onB HB1.out HBi.out)
   ·have HK:Hid (oneD D k=dimErr (D k)):=one0 he
    have HE:Hid ((dimErr (D k)).2≠0):=he
    have hsb:scanD D n 0=((k:Int),(dimErr (D k)).1,(dimErr (D k)).2):=by rw [←HF.out,hsk,scanD_bad _ (by rw [HK.out];exact he),HK.out]
    have HR:Hid (allErr D n=((k:Int),(dimErr (D k)).1,(dimErr (D k)).2)):=by show _=_;rw [al2 (by omega) (by omega) (by rw [hsb];exact he),hsb]
    have he2:((dimErr (D k)).2 == 0)=false:=by simpa using he
    clear he hsb HK HE
    generalize (dimErr (D k)).2=ec at hck HR he2
    generalize (dimErr (D k)).1=kc at hck HR
    go_wp2_with fail
    refine hck.mono ?_
    rintro e w1 ⟨rfl,hb1⟩
    have HB1:Hid (Below W.heap.size W w1):=onB HBr.out hb1
    clear hb1 hck
    go_wp2_with fail
    by_cases hk0:(0:Int)<(k:Int)
    ·refine wp_loop_rounds 1 ?_
     rw [rounds_succ]
     go_wp2_with fail
     refine bodyPost_ret (v:=.tuple #[.int .i64 k,.int .i64 kc,.int .i64 ec]) (by simp [results,Tryz.results86,go_sem]) rfl ⟨by rw [HR.out],?_⟩
     exact onB HB0.out HB1.out
    ·have hk0':(k:Int)≤0:=by omega
     refine wp_loop_rounds 1 ?_
     rw [rounds_succ]
     go_wp2_with fail
     refine bodyPost_ret (v:=.tuple #[.int .i64 k,.int .i64 kc,.int .i64 ec]) (by simp [results,Tryz.results86,go_sem]) rfl ⟨by rw [HR.out],?_⟩
     exact onB HB0.out HB1.out
  ·have hke:k=n:=by omega
   subst hke
   have hs0:(scanD D k 0).2.2=0:=by rw [←HF.out,Nat.sub_self];rfl
   have hone:=(scanD_right k 0 hs0).2
   have hcs:=osize_any b o k cap D A C wo (by omega) (fun j hj=>(dimErr_right (oneD_right (hone j (Nat.zero_le _) (by omega)))).2.2.1) hMr
   clear hone hMr
   by_cases hp:3000<prodN D k
   ·have hp':3000<(prodN D k:Int):=by omega
    have HR:Hid (allErr D k=(-1,-1,4)):=al3 (by omega) (by omega) hs0 hp
    clear hs0 hp
    go_wp2_with fail
    refine hcs.mono ?_
    rintro e w2 ⟨rfl,hb2⟩
    go_wp2_with fail
    refine bodyPost_ret (v:=.tuple #[.int .i64 (-1),.int .i64 (-1),.int .i64 4]) (by simp [results,Tryz.results86,go_sem]) rfl ⟨by rw [HR.out],?_⟩
    exact onB HB0.out (onB HBr.out hb2)
   ·have hp':(prodN D k:Int)≤3000:=by omega
    have HR:Hid (allErr D k=(-1,-1,0)):=al4 (by omega) (by omega) hs0 hp
    clear hs0 hp
    go_wp2_with fail
    refine hcs.mono ?_
    rintro e w2 ⟨rfl,hb2⟩
    go_wp2_with fail
    refine bodyPost_ret (v:=.tuple #[.int .i64 (-1),.int .i64 (-1),.int .i64 0]) (by simp [results,Tryz.results86,go_sem]) rfl ⟨by rw [HR.out],?_⟩
    exact onB HB0.out (onB HBr.out hb2)
end Go.Proofs.YtenlladggdcfnaaGreatDoor
