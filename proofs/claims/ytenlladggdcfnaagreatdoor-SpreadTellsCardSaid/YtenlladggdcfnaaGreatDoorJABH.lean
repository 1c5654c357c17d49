/-
  The document's own look at a formula (tallyref2.Formula) tells what is wrong with it: none, too many nodes, the first node that is wrong, who is not used by just one.
-/
import Derived.Deep.RegionHeld
import Derived.Test.YtenlladggdcfnaaGreatDoorJAAG
namespace Go.Proofs.YtenlladggdcfnaaGreatDoor
open Go Go.ChangeShapes Go.WideShapes Go.ChangeAt Go.RowKit
set_option maxRecDepth 20000
def usedL (l:List Nd) (k:Nat):List Int:=(List.range l.length).map fun j=>(usedTo l k j:Int)
section
variable {l:List Nd} {k j a b:Nat}
theorem usedL_len:(usedL l k).length=l.length:=by simp [usedL]
theorem usedL_at (h:j<l.length):(usedL l k).getD j 0=(usedTo l k j:Int):=by simp [usedL,List.getD,h]
theorem usedTo_le (l:List Nd) (k j:Nat):usedTo l k j≤2*k:=by
 induction k with
 | zero=>simp [usedTo]
 | succ k ih =>
  have h:uses (l.getD k noN) j≤2:=by
   unfold uses
   split
   ·split <;> split <;> omega
   ·omega
  unfold usedTo
  omega
theorem usedL_zero:usedL l 0=List.replicate l.length 0:=by
 apply List.ext_getElem (by simp [usedL])
 intro j h1 h2
 simp [usedL,usedTo]
theorem usedL_same (h:(l.getD k noN).op≤2):usedL l (k+1)=usedL l k:=by
 have e:∀ j,usedTo l (k+1) j=usedTo l k j:=fun j=>by
  show usedTo l k j+uses (l.getD k noN) j=_
  rw [uses,if_neg (by omega)]
  rfl
 unfold usedL
 simp only [e]
theorem getD_set_ints {L:List Int} {a b:Nat} {x:Int} (h:a<L.length):(L.set a x).getD b 0=if a=b then x else L.getD b 0:=by
 rw [List.getD_eq_getElem?_getD,List.getD_eq_getElem?_getD,List.getElem?_set]
 by_cases e:a=b
 ·subst e;simp [h]
 ·simp [e]
theorem usedL_two (h:2<(l.getD k noN).op) (ha:(l.getD k noN).left=(a:Int)) (hb:(l.getD k noN).right=(b:Int)) (_hal:a<l.length) (hbl:b<l.length) :
  ((usedL l k).set a ((usedTo l k a:Int)+1)).set b ((if a=b then (usedTo l k a:Int)+1 else (usedTo l k b:Int))+1)=usedL l (k+1):=by
 apply List.ext_getElem (by simp [usedL])
 intro j h1 h2
 have e:(usedL l (k+1))[j]=((usedTo l k j+uses (l.getD k noN) j:Nat):Int):=by simp only [usedL,usedTo,List.getElem_map,List.getElem_range]
 have e2:∀ h,(usedL l k)[j]'h=(usedTo l k j:Int):=fun h=>by simp only [usedL,List.getElem_map,List.getElem_range]
 rw [e,uses,if_pos h,ha,hb,List.getElem_set,List.getElem_set,e2]
 by_cases hbj:b=j
 ·subst hbj
  by_cases hab:a=b
  ·subst hab
   simp
   omega
  ·have : ¬ (a:Int)=(b:Int):=by omega
   simp [hab,this]
 ·have h3 : ¬ (b:Int)=(j:Int):=by omega
  by_cases haj:a=j
  ·subst haj
   simp [hbj,h3]
  ·have h4 : ¬ (a:Int)=(j:Int):=by omega
   simp [hbj,haj,h3,h4]
end
set_option maxHeartbeats 8000000 in
theorem rform_any (A:Option Addr) (cap:Nat) (l:List Nd) (w:World) (hN:NdsV w A cap l) :
  Calls Tryz.prog 131 #[.slice A l.length cap] w fun e w'=>e=.returned (.int .i64 (formErr l))∧Below w.heap.size w w':=by
 by_cases c0:l.length=0
 ·have HR:Hid (formErr l=5):=form_none c0
  rw [c0]
  clear c0
  go_enter Tryz.func131,Tryz.ntmps131
  go_wp2_with fail
  go_ret
  exact ⟨by rw [HR.out];rfl,Below.refl _ _⟩
 obtain ⟨-,-,h0 | ⟨b,o,rfl,hAt⟩⟩:=hN
 ·rw [h0] at c0;exact absurd rfl c0
 have HAt:Hid (NdsAt w b o l):=hAt
 by_cases c1:30<l.length
 ·have HR:Hid (formErr l=4):=form_full c1
  have c1':(30:Int)<(l.length:Int):=by omega
  have c0':((l.length:Int) == 0)=false:=by rw [beq_eq_false_iff_ne];omega
  generalize l.length=N at c1' c0'
  clear hAt c0 c1
  go_enter Tryz.func131,Tryz.ntmps131
  go_wp2_with fail
  go_ret
  exact ⟨by rw [HR.out];rfl,Below.refl _ _⟩
 obtain ⟨N,hNe⟩:∃ N,l.length=N:=⟨_,rfl⟩
 have HN:Hid (l.length=N):=hNe
 rw [hNe] at c0 c1 ⊢
 have c0':((N:Int) == 0)=false:=by simp;omega
 have c1':(N:Int)≤30:=by omega
 have hN1:1≤N:=by omega
 have hmk:=run_make_row' (P:=Tryz.prog) 22 3 (.int .i64 0) 8 Tryz.underlying22 Tryz.infoIntP rfl .i64 .i64 N (by omega) (by omega)
 clear hAt hNe c0 c1
 go_enter Tryz.func131,Tryz.ntmps131
 go_wp2_with fail
 clear hmk
 go_loopg [4,5] N (fun g s4 s5 wr => ∃ (k:Nat),k≤N∧g=N-k∧s4=.int .i64 k∧IntB wr w.heap.size (usedL l k)∧(∀ j,j<k→badN l j=false)∧Below w.heap.size w wr)
 case atStart=>exact ⟨0,Nat.zero_le _,rfl,rfl,by rw [usedL_zero,HN.out];exact IntB.made w N,fun j hj=>absurd hj (Nat.not_lt_zero _),by go_grown⟩
 case round =>
  obtain ⟨k,hk,rfl,rfl,hI,hG,hBw⟩:=hrel
  have HI:Hid (IntB wr w.heap.size (usedL l k)):=hI
  have HG:Hid (∀ j,j<k→badN l j=false):=hG
  have HBw:Hid (Below w.heap.size w wr):=hBw
  by_cases hlt:k<N
  ·have hlt':(k:Int)<(N:Int):=by omega
   obtain ⟨x1,x2,x3,x4,x5⟩:=(HAt.out.later hBw).2 k (by rw [HN.out];exact hlt)
   have HF:Hid (∀ c:Int,ndErr (l.getD k noN) k=c→c≠0→formErr l=c):=fun c h1 h2=>by
    rw [form_bad (by rw [HN.out];omega) (by rw [HN.out];exact hlt) (decide_eq_true (by rw [h1];exact h2)) HG.out,h1]
   have HK:Hid (ndErr (l.getD k noN) k=0→∀ j,j<k+1→badN l j=false):=fun h j hj=>by
    rcases Nat.lt_or_ge j k with h1 | h1
    ·exact HG.out j h1
    ·rw [show j=k by omega];exact decide_eq_false (by rw [h];simp)
   have HU1:Hid ((l.getD k noN).op≤2→usedL l (k+1)=usedL l k):=usedL_same
   have HU2:Hid (∀ a b:Nat,2<(l.getD k noN).op→(l.getD k noN).left=(a:Int)→(l.getD k noN).right=(b:Int)→a<l.length→b<l.length→((usedL l k).set a ((usedTo l k a:Int)+1)).set b ((if a=b then (usedTo l k a:Int)+1 else (usedTo l k b:Int))+1)=usedL l (k+1)):=fun a b=>usedL_two
   generalize l.getD k noN=x at x1 x2 x3 x4 x5 HF HK HU1 HU2
   obtain ⟨op,n,nm,le,ri⟩:=x
   simp only at x1 x2 x3 x4 x5 HU1 HU2
   obtain ⟨W,hW⟩:∃ W,wr.alloc (.cells #[.int .i64 op,.int .i64 n,.string nm,.int .i64 le,.int .i64 ri] 172)=W:=⟨_,rfl⟩
   have y1:W.cell? ⟨wr.heap.size,0,none⟩=some (.int .i64 op):=by rw [←hW];simp
   have y2:W.cell? ⟨wr.heap.size,1,none⟩=some (.int .i64 n):=by rw [←hW];simp
   have y3:W.cell? ⟨wr.heap.size,2,none⟩=some (.string nm):=by rw [←hW];simp
   have y4:W.cell? ⟨wr.heap.size,3,none⟩=some (.int .i64 le):=by rw [←hW];simp
   have y5:W.cell? ⟨wr.heap.size,4,none⟩=some (.int .i64 ri):=by rw [←hW];simp
   have hbW:Below wr.heap.size wr W:=by rw [←hW];go_grown
   have HBW:Hid (Below w.heap.size w W):=onB hBw hbW
   have HIW:Hid (IntB W w.heap.size (usedL l k)):=hI.later hbW
   clear hI hG hBw hbW
   by_cases d1:op<1
   ·have HR:Hid (formErr l=1):=HF.out 1 (by unfold ndErr;dsimp only;(repeat' split) <;> omega) (by decide)
    go_wp2_with fail
    go_ret
    exact ⟨by rw [HR.out];rfl,HBW.out⟩
   by_cases d2:6<op
   ·have HR:Hid (formErr l=1):=HF.out 1 (by unfold ndErr;dsimp only;(repeat' split) <;> omega) (by decide)
    go_wp2_with fail
    go_ret
    exact ⟨by rw [HR.out];rfl,HBW.out⟩
   by_cases d3:op=1
   ·subst d3
    by_cases d4:n<0
    ·have HR:Hid (formErr l=1):=HF.out 1 (by unfold ndErr;dsimp only;(repeat' split) <;> omega) (by decide)
     go_wp2_with fail
     go_ret
     exact ⟨by rw [HR.out];rfl,HBW.out⟩
    by_cases d5:1000000<n
    ·have HR:Hid (formErr l=1):=HF.out 1 (by unfold ndErr;dsimp only;(repeat' split) <;> omega) (by decide)
     go_wp2_with fail
     go_ret
     exact ⟨by rw [HR.out];rfl,HBW.out⟩
    by_cases dm:nm.size≠0
    ·have HR:Hid (formErr l=3):=HF.out 3 (by unfold ndErr;dsimp only;(repeat' split) <;> omega) (by decide)
     have bm:nm.toList.isEmpty=false:=by rw [empty_same];simpa using dm
     clear dm
     go_wp2_with fail
     go_ret
     exact ⟨by rw [HR.out];rfl,HBW.out⟩
    have bm:nm.toList.isEmpty=true:=by rw [empty_same];simpa using dm
    have HM:Hid (nm.size=0):=by show _=_;omega
    clear dm
    by_cases dle:le≠0
    ·have HR:Hid (formErr l=3):=HF.out 3 (by have:=HM.out;unfold ndErr;dsimp only;(repeat' split) <;> omega) (by decide)
     have ble:(le != 0)=true:=by simpa using dle
     clear dle
     go_wp2_with fail
     go_ret
     exact ⟨by rw [HR.out];rfl,HBW.out⟩
    have Hle:Hid (le=0):=by show _=_;omega
    have ble:(le != 0)=false:=by have:=Hle.out;simpa using this
    clear dle
    by_cases dri:ri≠0
    ·have HR:Hid (formErr l=3):=HF.out 3 (by have:=Hle.out;have:=HM.out;unfold ndErr;dsimp only;(repeat' split) <;> omega) (by decide)
     have bri:(ri != 0)=true:=by simpa using dri
     clear dri
     go_wp2_with fail
     go_ret
     exact ⟨by rw [HR.out];rfl,HBW.out⟩
    have Hri:Hid (ri=0):=by show _=_;omega
    have bri:(ri != 0)=false:=by have:=Hri.out;simpa using this
    clear dri
    have HG1:Hid (∀ j,j<k+1→badN l j=false):=HK.out (by have:=Hle.out;have:=Hri.out;have:=HM.out;unfold ndErr;dsimp only;(repeat' split) <;> omega)
    have HU:Hid (usedL l (k+1)=usedL l k):=HU1.out (by decide)
    go_wp2_with fail
    go_roundg (N-(k+1))
    case measure=>omega
    case rel=>exact ⟨k+1,by omega,rfl,by go_num,by rw [HU.out];exact HIW.out,HG1.out,HBW.out⟩
   by_cases d6:op=2
   ·subst d6
    have hnm:=rname_any nm W
    by_cases d7:nameErr nm=0
    ·have HZ:Hid (nameErr nm=0):=d7
     rw [d7] at hnm
     clear d7
     by_cases dn:n≠0
     ·have HR:Hid (formErr l=3):=HF.out 3 (by have:=HZ.out;unfold ndErr;dsimp only;(repeat' split) <;> omega) (by decide)
      have bn:(n != 0)=true:=by simpa using dn
      clear dn
      go_wp2_with fail
      refine hnm.mono ?_
      rintro e w1 ⟨rfl,rfl⟩
      go_wp2_with fail
      go_ret
      exact ⟨by rw [HR.out];rfl,HBW.out⟩
     have Hn:Hid (n=0):=by show _=_;omega
     have bn:(n != 0)=false:=by have:=Hn.out;simpa using this
     clear dn
     by_cases dle:le≠0
     ·have HR:Hid (formErr l=3):=HF.out 3 (by have:=Hn.out;have:=HZ.out;unfold ndErr;dsimp only;(repeat' split) <;> omega) (by decide)
      have ble:(le != 0)=true:=by simpa using dle
      clear dle
      go_wp2_with fail
      refine hnm.mono ?_
      rintro e w1 ⟨rfl,rfl⟩
      go_wp2_with fail
      go_ret
      exact ⟨by rw [HR.out];rfl,HBW.out⟩
     have Hle:Hid (le=0):=by show _=_;omega
     have ble:(le != 0)=false:=by have:=Hle.out;simpa using this
     clear dle
     by_cases dri:ri≠0
     ·have HR:Hid (formErr l=3):=HF.out 3 (by have:=Hn.out;have:=Hle.out;have:=HZ.out;unfold ndErr;dsimp only;(repeat' split) <;> omega) (by decide)
      have bri:(ri != 0)=true:=by simpa using dri
      clear dri
      go_wp2_with fail
      refine hnm.mono ?_
      rintro e w1 ⟨rfl,rfl⟩
      go_wp2_with fail
      go_ret
      exact ⟨by rw [HR.out];rfl,HBW.out⟩
     have Hri:Hid (ri=0):=by show _=_;omega
     have bri:(ri != 0)=false:=by have:=Hri.out;simpa using this
     clear dri
     have HG1:Hid (∀ j,j<k+1→badN l j=false):=HK.out (by have:=Hn.out;have:=Hle.out;have:=Hri.out;have:=HZ.out;unfold ndErr;dsimp only;(repeat' split) <;> omega)
     have HU:Hid (usedL l (k+1)=usedL l k):=HU1.out (by decide)
     go_wp2_with fail
     refine hnm.mono ?_
     rintro e w1 ⟨rfl,rfl⟩
     go_wp2_with fail
     go_roundg (N-(k+1))
     case measure=>omega
     case rel=>exact ⟨k+1,by omega,rfl,by go_num,by rw [HU.out];exact HIW.out,HG1.out,HBW.out⟩
    ·have HR:Hid (formErr l=2):=HF.out 2 (by unfold ndErr;dsimp only;(repeat' split) <;> omega) (by decide)
     rw [nameErr_two d7] at hnm
     clear d7
     go_wp2_with fail
     refine hnm.mono ?_
     rintro e w1 ⟨rfl,rfl⟩
     go_wp2_with fail
     go_ret
     exact ⟨by rw [HR.out];rfl,HBW.out⟩
   have o1:(op == 1)=false:=by simpa using d3
   have o2:(op == 2)=false:=by simpa using d6
   have HO:Hid (¬ op=1∧¬ op=2):=⟨d3,d6⟩
   clear d3 d6
   by_cases d8:le<0
   ·have HR:Hid (formErr l=1):=HF.out 1 (by have:=HO.out;unfold ndErr;dsimp only;(repeat' split) <;> omega) (by decide)
    go_wp2_with fail
    go_ret
    exact ⟨by rw [HR.out];rfl,HBW.out⟩
   by_cases d9:(k:Int)≤le
   ·have HR:Hid (formErr l=1):=HF.out 1 (by have:=HO.out;unfold ndErr;dsimp only;(repeat' split) <;> omega) (by decide)
    go_wp2_with fail
    go_ret
    exact ⟨by rw [HR.out];rfl,HBW.out⟩
   by_cases d10:ri<0
   ·have HR:Hid (formErr l=1):=HF.out 1 (by have:=HO.out;unfold ndErr;dsimp only;(repeat' split) <;> omega) (by decide)
    go_wp2_with fail
    go_ret
    exact ⟨by rw [HR.out];rfl,HBW.out⟩
   by_cases d11:(k:Int)≤ri
   ·have HR:Hid (formErr l=1):=HF.out 1 (by have:=HO.out;unfold ndErr;dsimp only;(repeat' split) <;> omega) (by decide)
    go_wp2_with fail
    go_ret
    exact ⟨by rw [HR.out];rfl,HBW.out⟩
   by_cases dn:n≠0
   ·have HR:Hid (formErr l=3):=HF.out 3 (by have:=HO.out;unfold ndErr;dsimp only;(repeat' split) <;> omega) (by decide)
    have bn:(n != 0)=true:=by simpa using dn
    clear dn
    go_wp2_with fail
    go_ret
    exact ⟨by rw [HR.out];rfl,HBW.out⟩
   have Hn:Hid (n=0):=by show _=_;omega
   have bn:(n != 0)=false:=by have:=Hn.out;simpa using this
   clear dn
   by_cases dm:nm.size≠0
   ·have HR:Hid (formErr l=3):=HF.out 3 (by have:=Hn.out;have:=HO.out;unfold ndErr;dsimp only;(repeat' split) <;> omega) (by decide)
    have bm:nm.toList.isEmpty=false:=by rw [empty_same];simpa using dm
    clear dm
    go_wp2_with fail
    go_ret
    exact ⟨by rw [HR.out];rfl,HBW.out⟩
   have bm:nm.toList.isEmpty=true:=by rw [empty_same];simpa using dm
   have HM:Hid (nm.size=0):=by show _=_;omega
   clear dm
   have HG1:Hid (∀ j,j<k+1→badN l j=false):=HK.out (by have:=HO.out;have:=HM.out;have:=Hn.out;unfold ndErr;dsimp only;(repeat' split) <;> omega)
   obtain ⟨a,rfl⟩:∃ a:Nat,le=(a:Int):=⟨le.toNat,by omega⟩
   obtain ⟨b',rfl⟩:∃ b':Nat,ri=(b':Int):=⟨ri.toNat,by omega⟩
   have ha:a<N:=by omega
   have hb:b'<N:=by omega
   have HU:=HU2.out a b' (by have:=HO.out;omega) rfl rfl (by rw [HN.out];exact ha) (by rw [HN.out];exact hb)
   have HUh:Hid (((usedL l k).set a ((usedTo l k a:Int)+1)).set b' ((if a=b' then (usedTo l k a:Int)+1 else (usedTo l k b':Int))+1)=usedL l (k+1)):=HU
   have e1:=HIW.out.cell (j:=a) (by rw [usedL_len,HN.out];exact ha)
   rw [usedL_at (by rw [HN.out];exact ha)] at e1
   have f1:=HIW.out.frozen a
   have HI2:=HIW.out.set a ((usedTo l k a:Int)+1)
   have e2:=HI2.cell (j:=b') (by rw [List.length_set,usedL_len,HN.out];exact hb)
   rw [getD_set_ints (by rw [usedL_len,HN.out];exact ha),usedL_at (by rw [HN.out];exact hb)] at e2
   have f2:=HI2.frozen b'
   have HI3:Hid (IntB ((W.setCell ⟨w.heap.size,a,none⟩ (.int .i64 ((usedTo l k a:Int)+1))).setCell ⟨w.heap.size,b',none⟩ (.int .i64 ((if a=b' then (usedTo l k a:Int)+1 else (usedTo l k b':Int))+1))) w.heap.size (usedL l (k+1))):=by
    have h:=HI2.set b' ((if a=b' then (usedTo l k a:Int)+1 else (usedTo l k b':Int))+1)
    rw [HU] at h
    exact h
   have ua:=usedTo_le l k a
   have ub:=usedTo_le l k b'
   generalize usedTo l k a=ua' at *
   generalize usedTo l k b'=ub' at *
   obtain ⟨v,hv⟩:∃ v:Nat,(if a=b' then (ua':Int)+1 else (ub':Int))=(v:Int):=⟨if a=b' then ua'+1 else ub',by split <;> simp⟩
   have hv1:(v:Int)≤100:=by rw [←hv];split <;> omega
   have hu1:(ua':Int)≤100:=by omega
   rw [hv] at e2 HI3
   have hak:(a:Int)<(N:Int):=by omega
   have hbk:(b':Int)<(N:Int):=by omega
   have hak':(a:Int)<(k:Int):=by omega
   have hbk':(b':Int)<(k:Int):=by omega
   have hne:w.heap.size<wr.heap.size:=HI.out.lt
   have HBV:Hid (Below w.heap.size w (W.setCell ⟨w.heap.size,a,none⟩ (.int .i64 ((ua':Int)+1)))):=HBW.out.setCell (by show w.heap.size≤w.heap.size;omega) _
   have y6:(W.setCell ⟨w.heap.size,a,none⟩ (.int .i64 ((ua':Int)+1))).cell? ⟨wr.heap.size,4,none⟩=some (.int .i64 (b':Int)):=by
    rw [World.cell?_setCell_far _ _ _ _ (by show w.heap.size≠wr.heap.size;omega)]
    exact y5
   obtain ⟨V,hV⟩:∃ V,W.setCell ⟨w.heap.size,a,none⟩ (.int .i64 ((ua':Int)+1))=V:=⟨_,rfl⟩
   rw [hV] at e2 f2 HI3 HBV y6
   clear HU HUh HI2 hv ua ub d9 d11 ha hb hne
   go_wp2_with fail
   go_roundg (N-(k+1))
   case measure=>omega
   case rel=>exact ⟨k+1,by omega,rfl,by go_num,HI3.out,HG1.out,HBV.out.setCell (by show w.heap.size≤w.heap.size;omega) _⟩
  ·obtain rfl:k=N:=by omega
   have hlt' : ¬ (k:Int)<(k:Int):=by omega
   clear hI hG hBw
   go_wp2_with fail
   go_loopg [6] k (fun g s6 wt => ∃ (j:Nat),j≤k-1∧g=k-j∧s6=.int .i64 j∧wt=wr∧(∀ i,i<j→oddN l i=false))
   case atStart=>exact ⟨0,Nat.zero_le _,rfl,rfl,rfl,fun i hi=>absurd hi (Nat.not_lt_zero _)⟩
   case round =>
    obtain ⟨j,hj,rfl,rfl,rfl,hO⟩:=hrel
    have HO:Hid (∀ i,i<j→oddN l i=false):=hO
    clear hO
    by_cases hjl:j<k-1
    ·have hj1:(j:Int)<(k:Int)-1:=by omega
     have hj2:(j:Int)<(k:Int):=by omega
     have e1:=HI.out.cell (j:=j) (by rw [usedL_len,HN.out];omega)
     rw [usedL_at (by rw [HN.out];omega)] at e1
     by_cases hu:usedTo l k j=1
     ·have HO1:Hid (∀ i,i<j+1→oddN l i=false):=fun i hi=>by
       rcases Nat.lt_or_ge i j with h1 | h1
       ·exact HO.out i h1
       ·rw [show i=j by omega];exact decide_eq_false (by rw [HN.out,hu];simp)
      rw [hu] at e1
      clear hu
      go_wp2_with fail
      go_roundg (k-(j+1))
      case measure=>omega
      case rel=>exact ⟨j+1,by omega,rfl,by go_num,rfl,HO1.out⟩
     ·have HR:Hid (formErr l=3):=form_odd (by rw [HN.out];omega) (by rw [HN.out];omega) (by rw [HN.out];exact HG.out) (i:=j) (by rw [HN.out];exact hjl) (decide_eq_true (by rw [HN.out];exact hu))
      have hu':(((usedTo l k j:Nat):Int) == 1)=false:=by simp;omega
      generalize usedTo l k j=u at e1 hu'
      clear hu
      go_wp2_with fail
      go_ret
      exact ⟨by rw [HR.out];rfl,HBw.out⟩
    ·have HR:Hid (formErr l=0):=form_good (by rw [HN.out];omega) (by rw [HN.out];omega) (by rw [HN.out];exact HG.out) (fun i hi=>HO.out i (by rw [HN.out] at hi;omega))
     have hj1 : ¬ (j:Int)<(k:Int)-1:=by omega
     go_wp2_with fail
     go_ret
     exact ⟨by rw [HR.out];rfl,HBw.out⟩
end Go.Proofs.YtenlladggdcfnaaGreatDoor
