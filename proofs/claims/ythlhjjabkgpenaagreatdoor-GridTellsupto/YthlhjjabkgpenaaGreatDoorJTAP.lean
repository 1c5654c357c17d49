/- The document's own loo -/
import Derived.Deep.RegionHeld
import Derived.Test.YthlhjjabkgpenaaGreatDoorJTAO
namespace Go.Proofs.YthlhjjabkgpenaaGreatDoor
open Go ChangeShapes WideShapes ChangeAt RowKit
set_option maxRecDepth 99999
set_option maxHeartbeats 0
def dq (l:List Nd) (k:Nat):List Int:=(List.range l.length).map fun j=>(usedTo l k j:Int)
section
variable {l:List Nd} {k j a b:Nat}
theorem usedL_len:(dq l k).length=l.length:=by simp [dq]
theorem po (h:j<l.length):(dq l k).getD j 0=(usedTo l k j:Int):=by simp [dq,List.getD,h]
theorem qX (l:List Nd) (k j:Nat):usedTo l k j≤2*k:=by
 induction k with
 | zero=>simp [usedTo]
 | succ k ih =>
  have h:uses (l.getD k bH) j≤2:=by
   unfold uses
   split
   ·split <;> split <;> omega
   omega
  unfold usedTo
  omega
theorem xQ:dq l 0=List.replicate l.length 0:=by
 apply List.ext_getElem (by simp [dq])
 intro j a b
 simp [dq,usedTo]
theorem xP (h:(l.getD k bH).op≤2):dq l (k+1)=dq l k:=by
 have e:∀ j,usedTo l (k+1) j=usedTo l k j:=fun j=>by
  show usedTo l k j+uses (l.getD k bH) j=_
  rw [uses,if_neg (by omega)]
  rfl
 unfold dq;simp only [e]
theorem pz {L:List Int} {a b:Nat} {x:Int} (h:a<L.length):(L.set a x).getD b 0=if a=b then x else L.getD b 0:=by
 rw [zZ,zZ,List.getElem?_set]
 by_cases e:a=b
 ·subst e;simp [h]
 simp [e]
theorem CB (h:2<(l.getD k bH).op) (i:(l.getD k bH).left=(a:Int)) (m:(l.getD k bH).right=(b:Int)) (_hal:a<l.length) (n:b<l.length) :
  ((dq l k).set a ((usedTo l k a:Int)+1)).set b ((if a=b then (usedTo l k a:Int)+1 else (usedTo l k b:Int))+1)=dq l (k+1):=by
 apply List.ext_getElem (by simp [dq])
 intro j o p;have e:(dq l (k+1))[j]=((usedTo l k j+uses (l.getD k bH) j:Nat):Int):=by simp only [dq,usedTo,List.getElem_map,List.getElem_range]
 have g:∀ h,(dq l k)[j]'h=(usedTo l k j:Int):=fun h=>by simp only [dq,List.getElem_map,List.getElem_range]
 rw [e,uses,if_pos h,i,m,List.getElem_set,List.getElem_set,g]
 by_cases c:b=j
 ·subst c
  by_cases d:a=b
  ·subst d
   simp
   omega
  have : ¬ (a:Int)=(b:Int):=by omega
  simp [d,this]
 have h3 : ¬ (b:Int)=(j:Int):=by omega
 by_cases f:a=j
 ·subst f
  simp [c,h3]
 have h4 : ¬ (a:Int)=(j:Int):=by omega
 simp [c,f,h3,h4]
end
theorem BW (A:Option Addr) (cap:Nat) (l:List Nd) (w:World) (hN:fQ w A cap l) :
  Rt 85 #[.slice A l.length cap] w (.int .i64 (av l)):=by
 by_cases c0:l.length=0
 ·have f:Hid (av l=5):=jg c0
  rw [c0];clear c0
  go_enter Tryz.func85,Tryz.ntmps85
  go_wp2_with fail;go_ret;exact ⟨by rw [f.out];rfl,zS⟩
 obtain ⟨-,-,h0 | ⟨b,o,rfl,S⟩⟩:=hN
 ·rw [h0] at c0;exact absurd rfl c0
 have HAt:=aa S
 by_cases c1:30<l.length
 ·have f:Hid (av l=4):=lm c1
  have c1':(30:Int)<(l.length:Int):=by omega
  have c0':((l.length:Int) == 0)=false:=by rw [beq_eq_false_iff_ne];omega
  generalize l.length=N at c1' c0';clear S c0 c1
  go_enter Tryz.func85,Tryz.ntmps85
  go_wp2_with fail;go_ret;exact ⟨by rw [f.out];rfl,zS⟩
 obtain ⟨N,T⟩:=ax l.length;have m:=aa T;rw [T] at c0 c1 ⊢;have c0':((N:Int) == 0)=false:=by simp;omega
 have c1':(N:Int)≤30:=by omega
 have hN1:1≤N:=by omega
 have hmk:=run_make_row' (P:=Tryz.prog) 26 3 (.int .i64 0) 8 Tryz.underlying26 Tryz.infoIntP rfl .i64 .i64 N (by omega) (by omega)
 clear S T c0 c1
 go_enter Tryz.func85,Tryz.ntmps85
 go_wp2_with fail;clear hmk
 go_loopg [4,5] N (fun g s4 s5 wr => ∃ (k:Nat),k≤N∧g=N-k∧s4=.int .i64 k∧cd wr w.heap.size (dq l k)∧(∀ j,j<k→fu l j=false)∧Bl w wr)
 case atStart=>exact ⟨0,zU,rfl,rfl,by rw [xQ,m.out];exact cd.made w N,fun j hj=>absurd hj (Nat.not_lt_zero _),by go_grown⟩
 case round =>
  obtain ⟨k,hk,rfl,rfl,hI,hG,E⟩:=hrel;have HI:=aa hI;have HG:=aa hG;have Z:=aa E
  by_cases hlt:k<N
  ·have hlt':(k:Int)<(N:Int):=by omega
   obtain ⟨x1,x2,x3,x4,x5⟩:=(HAt.out.later E).2 k (by rw [m.out];exact hlt)
   have p:Hid (∀ c:Int,ndErr (l.getD k bH) k=c→c≠0→av l=c):=fun c J h2=>by
    rw [nD (by rw [m.out];omega) (by rw [m.out];exact hlt) (decide_eq_true (by rw [J];exact h2)) HG.out,J]
   have HK:Hid (ndErr (l.getD k bH) k=0→∀ j,j<k+1→fu l j=false):=fun h j hj=>by
    rcases Nat.lt_or_ge j k with J | J
    ·exact HG.out j J
    rw [show j=k by omega];exact decide_eq_false (by rw [h];simp)
   have G:Hid ((l.getD k bH).op≤2→dq l (k+1)=dq l k):=xP;have M:Hid (∀ a b:Nat,2<(l.getD k bH).op→(l.getD k bH).left=(a:Int)→(l.getD k bH).right=(b:Int)→a<l.length→b<l.length→((dq l k).set a ((usedTo l k a:Int)+1)).set b ((if a=b then (usedTo l k a:Int)+1 else (usedTo l k b:Int))+1)=dq l (k+1)):=fun a b=>CB
   generalize l.getD k bH=x at x1 x2 x3 x4 x5 p HK G M;obtain ⟨op,n,nm,le,y⟩:=x;simp only at x1 x2 x3 x4 x5 G M;obtain ⟨W,X⟩:=ax (wr.alloc (.cells #[.int .i64 op,.int .i64 n,.string nm,.int .i64 le,.int .i64 y] 142));have y1:W.cell? ⟨wr.heap.size,0,none⟩=some (.int .i64 op):=by rw [←X];simp
   have y2:W.cell? ⟨wr.heap.size,1,none⟩=some (.int .i64 n):=by rw [←X];simp
   have y3:W.cell? ⟨wr.heap.size,2,none⟩=some (.string nm):=by rw [←X];simp
   have y4:W.cell? ⟨wr.heap.size,3,none⟩=some (.int .i64 le):=by rw [←X];simp
   have y5:W.cell? ⟨wr.heap.size,4,none⟩=some (.int .i64 y):=by rw [←X];simp
   have U:Bl wr W:=by rw [←X];go_grown
   have d:=aa (ae E U);have B:=aa (hI.later U);clear hI hG E U
   by_cases d1:op<1
   ·have f:Hid (av l=1):=p.out 1 (by unfold ndErr;dsimp only;(repeat' split) <;> omega) (by decide)
    go_wp2_with fail;go_ret;exact ⟨by rw [f.out];rfl,d.out⟩
   by_cases d2:6<op
   ·have f:Hid (av l=1):=p.out 1 (by unfold ndErr;dsimp only;(repeat' split) <;> omega) (by decide)
    go_wp2_with fail;go_ret;exact ⟨by rw [f.out];rfl,d.out⟩
   by_cases d3:op=1
   ·subst d3
    by_cases d4:n<0
    ·have f:Hid (av l=1):=p.out 1 (by unfold ndErr;dsimp only;(repeat' split) <;> omega) (by decide)
     go_wp2_with fail;go_ret;exact ⟨by rw [f.out];rfl,d.out⟩
    by_cases d5:1000000<n
    ·have f:Hid (av l=1):=p.out 1 (by unfold ndErr;dsimp only;(repeat' split) <;> omega) (by decide)
     go_wp2_with fail;go_ret;exact ⟨by rw [f.out];rfl,d.out⟩
    by_cases H:nm.size≠0
    ·have f:Hid (av l=3):=p.out 3 (by unfold ndErr;dsimp only;(repeat' split) <;> omega) (by decide)
     have bm:nm.toList.isEmpty=false:=by rw [aN];simpa using H
     clear H;go_wp2_with fail;go_ret;exact ⟨by rw [f.out];rfl,d.out⟩
    have bm:nm.toList.isEmpty=true:=by rw [aN];simpa using H
    have HM:Hid (nm.size=0):=by show _=_;omega
    clear H
    by_cases r:le≠0
    ·have f:Hid (av l=3):=p.out 3 (by have:=HM.out;unfold ndErr;dsimp only;(repeat' split) <;> omega) (by decide)
     have O:(le != 0)=true:=by simpa using r
     clear r;go_wp2_with fail;go_ret;exact ⟨by rw [f.out];rfl,d.out⟩
    have q:Hid (le=0):=by show _=_;omega
    have O:(le != 0)=false:=by have:=q.out;simpa using this
    clear r
    by_cases s:y≠0
    ·have f:Hid (av l=3):=p.out 3 (by have:=q.out;have:=HM.out;unfold ndErr;dsimp only;(repeat' split) <;> omega) (by decide)
     have Q:(y != 0)=true:=by simpa using s
     clear s;go_wp2_with fail;go_ret;exact ⟨by rw [f.out];rfl,d.out⟩
    have D:Hid (y=0):=by show _=_;omega
    have Q:(y != 0)=false:=by have:=D.out;simpa using this
    clear s;have z:Hid (∀ j,j<k+1→fu l j=false):=HK.out (by have:=q.out;have:=D.out;have:=HM.out;unfold ndErr;dsimp only;(repeat' split) <;> omega)
    have L:Hid (dq l (k+1)=dq l k):=G.out (by decide)
    go_wp2_with fail
    go_roundg (N-(k+1))
    case measure=>omega
    case rel=>exact ⟨k+1,by omega,rfl,by go_num,by rw [L.out];exact B.out,z.out,d.out⟩
   by_cases d6:op=2
   ·subst d6
    have t:=lG nm W
    by_cases d7:aJ nm=0
    ·have HZ:=aa d7
     rw [d7] at t;clear d7
     by_cases R:n≠0
     ·have f:Hid (av l=3):=p.out 3 (by have:=HZ.out;unfold ndErr;dsimp only;(repeat' split) <;> omega) (by decide)
      have bn:(n != 0)=true:=by simpa using R
      clear R;go_wp2_with fail;refine t.mono ?_;rintro e w1 ⟨rfl,rfl⟩;go_wp2_with fail;go_ret;exact ⟨by rw [f.out];rfl,d.out⟩
     have I:Hid (n=0):=by show _=_;omega
     have bn:(n != 0)=false:=by have:=I.out;simpa using this
     clear R
     by_cases r:le≠0
     ·have f:Hid (av l=3):=p.out 3 (by have:=I.out;have:=HZ.out;unfold ndErr;dsimp only;(repeat' split) <;> omega) (by decide)
      have O:(le != 0)=true:=by simpa using r
      clear r;go_wp2_with fail;refine t.mono ?_;rintro e w1 ⟨rfl,rfl⟩;go_wp2_with fail;go_ret;exact ⟨by rw [f.out];rfl,d.out⟩
     have q:Hid (le=0):=by show _=_;omega
     have O:(le != 0)=false:=by have:=q.out;simpa using this
     clear r
     by_cases s:y≠0
     ·have f:Hid (av l=3):=p.out 3 (by have:=I.out;have:=q.out;have:=HZ.out;unfold ndErr;dsimp only;(repeat' split) <;> omega) (by decide)
      have Q:(y != 0)=true:=by simpa using s
      clear s;go_wp2_with fail;refine t.mono ?_;rintro e w1 ⟨rfl,rfl⟩;go_wp2_with fail;go_ret;exact ⟨by rw [f.out];rfl,d.out⟩
     have D:Hid (y=0):=by show _=_;omega
     have Q:(y != 0)=false:=by have:=D.out;simpa using this
     clear s;have z:Hid (∀ j,j<k+1→fu l j=false):=HK.out (by have:=I.out;have:=q.out;have:=D.out;have:=HZ.out;unfold ndErr;dsimp only;(repeat' split) <;> omega)
     have L:Hid (dq l (k+1)=dq l k):=G.out (by decide)
     go_wp2_with fail;refine t.mono ?_;rintro e w1 ⟨rfl,rfl⟩;go_wp2_with fail
     go_roundg (N-(k+1))
     case measure=>omega
     case rel=>exact ⟨k+1,by omega,rfl,by go_num,by rw [L.out];exact B.out,z.out,d.out⟩
    have f:Hid (av l=2):=p.out 2 (by unfold ndErr;dsimp only;(repeat' split) <;> omega) (by decide)
    rw [es d7] at t;clear d7;go_wp2_with fail;refine t.mono ?_;rintro e w1 ⟨rfl,rfl⟩;go_wp2_with fail;go_ret;exact ⟨by rw [f.out];rfl,d.out⟩
   have o1:(op == 1)=false:=by simpa using d3
   have o2:(op == 2)=false:=by simpa using d6
   have C:Hid (¬ op=1∧¬ op=2):=⟨d3,d6⟩;clear d3 d6
   by_cases d8:le<0
   ·have f:Hid (av l=1):=p.out 1 (by have:=C.out;unfold ndErr;dsimp only;(repeat' split) <;> omega) (by decide)
    go_wp2_with fail;go_ret;exact ⟨by rw [f.out];rfl,d.out⟩
   by_cases d9:(k:Int)≤le
   ·have f:Hid (av l=1):=p.out 1 (by have:=C.out;unfold ndErr;dsimp only;(repeat' split) <;> omega) (by decide)
    go_wp2_with fail;go_ret;exact ⟨by rw [f.out];rfl,d.out⟩
   by_cases d10:y<0
   ·have f:Hid (av l=1):=p.out 1 (by have:=C.out;unfold ndErr;dsimp only;(repeat' split) <;> omega) (by decide)
    go_wp2_with fail;go_ret;exact ⟨by rw [f.out];rfl,d.out⟩
   by_cases d11:(k:Int)≤y
   ·have f:Hid (av l=1):=p.out 1 (by have:=C.out;unfold ndErr;dsimp only;(repeat' split) <;> omega) (by decide)
    go_wp2_with fail;go_ret;exact ⟨by rw [f.out];rfl,d.out⟩
   by_cases R:n≠0
   ·have f:Hid (av l=3):=p.out 3 (by have:=C.out;unfold ndErr;dsimp only;(repeat' split) <;> omega) (by decide)
    have bn:(n != 0)=true:=by simpa using R
    clear R;go_wp2_with fail;go_ret;exact ⟨by rw [f.out];rfl,d.out⟩
   have I:Hid (n=0):=by show _=_;omega
   have bn:(n != 0)=false:=by have:=I.out;simpa using this
   clear R
   by_cases H:nm.size≠0
   ·have f:Hid (av l=3):=p.out 3 (by have:=I.out;have:=C.out;unfold ndErr;dsimp only;(repeat' split) <;> omega) (by decide)
    have bm:nm.toList.isEmpty=false:=by rw [aN];simpa using H
    clear H;go_wp2_with fail;go_ret;exact ⟨by rw [f.out];rfl,d.out⟩
   have bm:nm.toList.isEmpty=true:=by rw [aN];simpa using H
   have HM:Hid (nm.size=0):=by show _=_;omega
   clear H;have z:Hid (∀ j,j<k+1→fu l j=false):=HK.out (by have:=C.out;have:=HM.out;have:=I.out;unfold ndErr;dsimp only;(repeat' split) <;> omega)
   obtain ⟨a,rfl⟩:∃ a:Nat,le=(a:Int):=⟨le.toNat,by omega⟩
   obtain ⟨b',rfl⟩:∃ b':Nat,y=(b':Int):=⟨y.toNat,by omega⟩
   have ha:a<N:=by omega
   have hb:b'<N:=by omega
   have L:=M.out a b' (by have:=C.out;omega) rfl rfl (by rw [m.out];exact ha) (by rw [m.out];exact hb)
   have HUh:=aa L;have e1:=B.out.cell (j:=a) (by rw [usedL_len,m.out];exact ha)
   rw [po (by rw [m.out];exact ha)] at e1
   have f1:=B.out.frozen a;have F:=B.out.set a ((usedTo l k a:Int)+1);have e2:=F.cell (j:=b') (by rw [List.length_set,usedL_len,m.out];exact hb)
   rw [pz (by rw [usedL_len,m.out];exact ha),po (by rw [m.out];exact hb)] at e2
   have f2:=F.frozen b';have K:Hid (cd ((W.setCell ⟨w.heap.size,a,none⟩ (.int .i64 ((usedTo l k a:Int)+1))).setCell ⟨w.heap.size,b',none⟩ (.int .i64 ((if a=b' then (usedTo l k a:Int)+1 else (usedTo l k b':Int))+1))) w.heap.size (dq l (k+1))):=by
    have h:=F.set b' ((if a=b' then (usedTo l k a:Int)+1 else (usedTo l k b':Int))+1)
    rw [L] at h;exact h
   have ua:=qX l k a;have ub:=qX l k b';generalize usedTo l k a=ua' at *;generalize usedTo l k b'=ub' at *;obtain ⟨v,hv⟩:∃ v:Nat,(if a=b' then (ua':Int)+1 else (ub':Int))=(v:Int):=⟨if a=b' then ua'+1 else ub',by split <;> simp⟩
   have hv1:(v:Int)≤100:=by rw [←hv];split <;> omega
   have hu1:(ua':Int)≤100:=by omega
   rw [hv] at e2 K;have hak:(a:Int)<(N:Int):=by omega
   have hbk:(b':Int)<(N:Int):=by omega
   have hak':(a:Int)<(k:Int):=by omega
   have hbk':(b':Int)<(k:Int):=by omega
   have hne:w.heap.size<wr.heap.size:=HI.out.lt;have Y:Hid (Bl w (W.setCell ⟨w.heap.size,a,none⟩ (.int .i64 ((ua':Int)+1)))):=d.out.setCell (by show w.heap.size≤w.heap.size;omega) _
   have y6:(W.setCell ⟨w.heap.size,a,none⟩ (.int .i64 ((ua':Int)+1))).cell? ⟨wr.heap.size,4,none⟩=some (.int .i64 (b':Int)):=by
    rw [World.cell?_setCell_far _ _ _ _ (by show w.heap.size≠wr.heap.size;omega)]
    exact y5
   obtain ⟨V,hV⟩:=ax (W.setCell ⟨w.heap.size,a,none⟩ (.int .i64 ((ua':Int)+1)));rw [hV] at e2 f2 K Y y6;clear L HUh F hv ua ub d9 d11 ha hb hne;go_wp2_with fail
   go_roundg (N-(k+1))
   case measure=>omega
   case rel=>exact ⟨k+1,by omega,rfl,by go_num,K.out,z.out,Y.out.setCell (by show w.heap.size≤w.heap.size;omega) _⟩
  obtain rfl:k=N:=by omega
  have hlt' : ¬ (k:Int)<(k:Int):=by omega
  clear hI hG E;go_wp2_with fail
  go_loopg [6] k (fun g s6 wt => ∃ (j:Nat),j≤k-1∧g=k-j∧s6=.int .i64 j∧wt=wr∧(∀ i,i<j→kf l i=false))
  case atStart=>exact ⟨0,zU,rfl,rfl,rfl,fun i hi=>absurd hi (Nat.not_lt_zero _)⟩
  case round =>
   obtain ⟨j,hj,rfl,rfl,rfl,hO⟩:=hrel;have C:=aa hO;clear hO
   by_cases hjl:j<k-1
   ·have hj1:(j:Int)<(k:Int)-1:=by omega
    have hj2:(j:Int)<(k:Int):=by omega
    have e1:=HI.out.cell (j:=j) (by rw [usedL_len,m.out];omega)
    rw [po (by rw [m.out];omega)] at e1
    by_cases hu:usedTo l k j=1
    ·have HO1:Hid (∀ i,i<j+1→kf l i=false):=fun i hi=>by
      rcases Nat.lt_or_ge i j with J | J
      ·exact C.out i J
      rw [show i=j by omega];exact decide_eq_false (by rw [m.out,hu];simp)
     rw [hu] at e1;clear hu;go_wp2_with fail
     go_roundg (k-(j+1))
     case measure=>omega
     case rel=>exact ⟨j+1,by omega,rfl,by go_num,rfl,HO1.out⟩
    have f:Hid (av l=3):=nE (by rw [m.out];omega) (by rw [m.out];omega) (by rw [m.out];exact HG.out) (i:=j) (by rw [m.out];exact hjl) (decide_eq_true (by rw [m.out];exact hu))
    have hu':(((usedTo l k j:Nat):Int) == 1)=false:=by simp;omega
    generalize usedTo l k j=u at e1 hu';clear hu;go_wp2_with fail;go_ret;exact ⟨by rw [f.out];rfl,Z.out⟩
   have f:Hid (av l=0):=qe (by rw [m.out];omega) (by rw [m.out];omega) (by rw [m.out];exact HG.out) (fun i hi=>C.out i (by rw [m.out] at hi;omega))
   have hj1 : ¬ (j:Int)<(k:Int)-1:=by omega
   go_wp2_with fail;go_ret;exact ⟨by rw [f.out];rfl,Z.out⟩
theorem xh (A:Option Addr) (cap:Nat) (a:List EnL) (Ap:Option Addr) (C:Nat) (p:List Int) (w:World) (G:a.length≤3000) (z:ii w A cap a) (F:sA a p) (J:aO w Ap C p) :
  Rt 54 #[.slice A a.length cap,.slice Ap p.length C] w (.agg #[.int .i64 (getE (lE a) p).1,.int .i64 (getE (lE a) p).2]):=by
 obtain ⟨v0,d⟩:=ax (w.alloc (.cells #[.int .i64 0,.int .i64 0] 40));have g:Bl w v0:=by rw [←d];go_grown
 have h:=BV A cap a Ap C p v0 G (z.later g) F (J.later g);have t:=aa g;have K:v0.heap[w.heap.size]?=some (.cells #[.int .i64 0,.int .i64 0] 40):=by rw [←d];exact heap_alloc_new w _
 have y:w.heap.size<v0.heap.size:=by rw [←d];simp
 have u:=aa K;have L:=aa z;clear J g K;cases hh:hasE (lE a) p
 ·have m:Hid (getE (lE a) p=(0,0)):=by
   show _=_
   rcases Nat.lt_or_ge (cntE (lE a) p) (lE a).length with h1 | h1
   ·have s:=rx (l:=lE a) (p:=p) rfl h1
    rw [s.1] at hh;rw [s.2,if_pos (by simpa using hh)]
   exact (ry rfl h1).2
  rw [hh] at h;generalize cntE (lE a) p=i at h;generalize getE (lE a) p=V at m;generalize a.length=n at h G;generalize p.length=np at h;clear hh z F
  go_enter Tryz.func54,Tryz.ntmps54
  go_wp2_with fail;clear d;refine h.mono ?_;rintro e w1 ⟨rfl,c⟩;have f:w1.heap[w.heap.size]?=some (.cells #[.int .i64 0,.int .i64 0] 40):=(c.block _ y).trans u.out;have D:w1.cell? ⟨w.heap.size,0,none⟩=some (.int .i64 0):=by rw [Lib.cell_of_heap f];rfl
  have E:w1.cell? ⟨w.heap.size,1,none⟩=some (.int .i64 0):=by rw [Lib.cell_of_heap f];rfl
  have M:w1.frozen? ⟨w.heap.size,0,none⟩=false:=Lib.frozen_of_heap f 0;have N:w1.frozen? ⟨w.heap.size,1,none⟩=false:=Lib.frozen_of_heap f 1;have j:=aa (ae t.out c);clear c f h;go_wp2_with fail;refine bodyPost_ret (v:=.agg #[.int .i64 0,.int .i64 0]) (by simp [results,Tryz.results54,go_sem,D,E]) rfl ⟨by rw [m.out],?_⟩
  exact (j.out.setCell (zT) _).setCell (zT) _
 have x:=Ho hh;have s:=rx (l:=lE a) (p:=p) rfl x;have m:Hid (getE (lE a) p=(1,(a.getD (cntE (lE a) p) noL).e.n)):=by
  show _=_
  rw [s.1] at hh;rw [s.2,if_neg (by simpa using hh),lE_at]
 rw [dF] at x;rw [hh] at h;obtain ⟨n,r⟩:=ax a.length;have H:=aa r;rw [r] at h G x ⊢;generalize cntE (lE a) p=i at h x m;generalize getE (lE a) p=V at m;generalize hgn:(a.getD i noL).e.n=num at m;have B:=aa hgn;generalize p.length=np at h;have P:(i:Int)<(n:Int):=by omega
 clear hh z F s hgn r
 go_enter Tryz.func54,Tryz.ntmps54
 go_wp2_with fail;clear d;refine h.mono ?_;rintro e w1 ⟨rfl,c⟩;have f:w1.heap[w.heap.size]?=some (.cells #[.int .i64 0,.int .i64 0] 40):=(c.block _ y).trans u.out;have D:w1.cell? ⟨w.heap.size,0,none⟩=some (.int .i64 0):=by rw [Lib.cell_of_heap f];rfl
 have E:w1.cell? ⟨w.heap.size,1,none⟩=some (.int .i64 0):=by rw [Lib.cell_of_heap f];rfl
 have M:w1.frozen? ⟨w.heap.size,0,none⟩=false:=Lib.frozen_of_heap f 0;have N:w1.frozen? ⟨w.heap.size,1,none⟩=false:=Lib.frozen_of_heap f 1;have q:Bl w w1:=ae t.out c;have j:=aa q;obtain ⟨-,-,O | ⟨b,o,rfl,I⟩⟩:=L.out.later q
 ·have:=H.out;rw [O] at this;simp at this;omega
 have c3:=(I.at (k:=i) (by rw [H.out];exact x)).2
 rw [B.out] at c3;clear c f h q I;go_wp2_with fail;refine bodyPost_ret (v:=.agg #[.int .i64 1,.int .i64 num]) (by simp [results,Tryz.results54,go_sem,D,E]) rfl ⟨by rw [m.out],?_⟩
 exact (j.out.setCell (zT) _).setCell (zT) _
theorem yK {W w':World} {q b o1:Nat} {u v:Value} (h:q<W.heap.size∧b<W.heap.size∧W.cell? ⟨q,0,none⟩=some u∧W.cell? ⟨b,o1,none⟩=some v) (a:Bl W w'):Bl W w'∧w'.cell? ⟨q,0,none⟩=some u∧w'.cell? ⟨b,o1,none⟩=some v :=
 ⟨a,aL a h.1 h.2.2.1,aL a h.2.1 h.2.2.2⟩
theorem Kg {W w':World} {b o1 o2:Nat} {u v:Value} (h:b<W.heap.size∧W.cell? ⟨b,o1,none⟩=some u∧W.cell? ⟨b,o2,none⟩=some v) (a:Bl W w'):Bl W w'∧w'.cell? ⟨b,o1,none⟩=some u∧w'.cell? ⟨b,o2,none⟩=some v :=
 ⟨a,aL a h.1 h.2.1,aL a h.1 h.2.2⟩
theorem rW (A0:Option Addr) (cap n:Nat) (D:Nat→Dm) (A:Nat→Option Addr) (C:Nat→Nat) (AE:Option Addr) (ce:Nat) (a:List EnL) (w:World) (hM:bd w A0 cap n D A C) (hE:ii w AE ce a) :
  Rt 20 #[.agg #[.slice A0 n cap],.slice AE a.length ce] w (.int .i64 (entsErr D n (lE a))):=by
 have Lx:=aA w A0 n cap 24;have h:=oS A0 cap n D A C (aD w A0 n cap 24) (hM.later Lx);have Lt:=aa Lx;have HM:=aa hM;have HE:=aa hE;clear hM Lx
 by_cases hR:(ah D n).2.2=0
 ·have HR:=aa hR
  have W:Hid (entsErr D n (lE a)=aV D n (qOf (lE a) 0) ((lE a).drop 0)):=yF _ hR;rw [hR] at h;obtain ⟨N,hN⟩:=ax a.length;have HN:=aa hN;have hNb:(N:Int)≤9223372036854775807:=by have h1:=hE.1;have h2:=hE.2.1;omega
  rw [hN];generalize entsErr D n (lE a)=RES at W;clear hR hN hE
  go_enter Tryz.func20,Tryz.ntmps20
  go_wp2_with fail;refine h.mono ?_;rintro e w1 ⟨rfl,I⟩;have hB:Bl w w1:=ae Lt.out I;have hz:w.heap.size<w1.heap.size:=by have:=I.size;rw [aF] at this;omega
  have h2:w1.cell? ⟨w.heap.size,0,none⟩=some (.slice A0 n cap):=aL I (by show w.heap.size<_;rw [aF];omega) (aR ..)
  have HM1:=aa (HM.out.later hB);have HE1:=aa (HE.out.later hB);have HB:=aa hB;clear I h hB HM HE Lt;go_wp2_with fail
  go_loopg [6] N (fun g s6 wr => ∃ (k:Nat),k≤N∧g=N-k∧s6=.int .i64 k∧Hid (aV D n (qOf (lE a) k) ((lE a).drop k)=aV D n (qOf (lE a) 0) ((lE a).drop 0))∧Hid (∀ j,j<k→entOne D n ((lE a).getD j noEn)=0)∧Bl w1 wr)
  case atStart=>exact ⟨0,zU,rfl,rfl,(rfl:aV D n (qOf (lE a) 0) ((lE a).drop 0)=aV D n (qOf (lE a) 0) ((lE a).drop 0)),fun j T=>absurd T (Nat.not_lt_zero _),zS⟩
  case round =>
   obtain ⟨k,hk,rfl,rfl,HF,HO,z⟩:=hrel;have s:=aa z
   by_cases hlt:k<N
   ·have F:k<a.length:=by rw [HN.out];exact hlt
    have hki:(k:Int)<(N:Int):=by omega
    have hk1:(k:Int)+1≤9223372036854775807:=by omega
    obtain ⟨-,-,h0 | ⟨b,o,rfl,R⟩⟩:=HE1.out.later z
    ·have:=HN.out;rw [h0] at this;simp at this;omega
    obtain ⟨c1,c2⟩:=R.at F;have c0:wr.cell? ⟨w.heap.size,0,none⟩=some (.slice A0 n cap):=aL z hz h2;have hzr:w.heap.size<wr.heap.size:=zW hz z.size;have J:=R.1;have Lu:=aa (HM1.out.later z);have H:=aa R;have y:Hid (∀ w',Bl wr w'→Rt 5 #[.agg #[.slice A0 n cap],.slice (a.getD k noL).A (a.getD k noL).e.pl.length (a.getD k noL).c] w' (.int .i64 (shapeErr D n (a.getD k noL).e.pl))):=fun w' v=>oR A0 cap n D A C _ _ _ w' HR.out (Lu.out.later v) ((H.out.pl F).later v)
    have u:Hid (shapeErr D n (a.getD k noL).e.pl=0→∀ w',Bl wr w'→Rt 48 #[.agg #[.slice A0 n cap],.slice (a.getD k noL).A (a.getD k noL).e.pl.length (a.getD k noL).c] w' (.bool (leafV D n (a.getD k noL).e.pl))):=fun hs w' v=>oN A0 cap n D A C _ _ _ w' (iw (by rw [Hd HR.out];exact hs)) (Lu.out.later v) ((H.out.pl F).later v)
    have l:Hid (entOne D n (a.getD k noL).e=if shapeErr D n (a.getD k noL).e.pl≠0 then shapeErr D n (a.getD k noL).e.pl else if leafV D n (a.getD k noL).e.pl=false then 6 else if fk (a.getD k noL).e.n=false then 1 else 0):=rfl
    have m:Hid (entOne D n (a.getD k noL).e≠0→RES=entOne D n (a.getD k noL).e):=fun S=>by rw [W.out,←HF.out,yD (by rw [dF];exact F) (by rw [lE_at];exact S),lE_at]
    have K:Hid (entOne D n (a.getD k noL).e=0→∀ t,aheadOk (qOf (lE a) k) (a.getD k noL).e.pl=t→(t=false→RES=7)∧(t=true→aV D n (qOf (lE a) (k+1)) ((lE a).drop (k+1))=aV D n (qOf (lE a) 0) ((lE a).drop 0))):=fun S t ht=>by
     rw [←lE_at] at S ht;refine ⟨fun h1=>?_,fun h1=>?_⟩
     ·rw [W.out,←HF.out,qc (by rw [dF];exact F) S (by rw [ht];exact h1)]
     rw [←vE (by rw [dF];exact F) S (by rw [ht];exact h1)];exact HF.out
    have P:Hid (entOne D n (a.getD k noL).e=0→entOne D n ((lE a).getD k noEn)=0):=fun S=>by rw [lE_at];exact S
    have d:Hid (∀ j,k=j+1→entOne D n (a.getD k noL).e=0→(∃ A2 m2 Z,wr.cell? ⟨b,o+j*2,none⟩=some (.slice A2 m2 Z)∧∀ w',Bl wr w'→Rt 49 #[.slice A2 m2 Z,.slice (a.getD k noL).A (a.getD k noL).e.pl.length (a.getD k noL).c] w' (.bool (aheadOk (qOf (lE a) k) (a.getD k noL).e.pl)))):=fun j T S=>by
     have hjx:j<a.length:=by omega
     have h3:=eE HR.out S;have h4:=eE HR.out (HO.out j (by omega))
     rw [lE_at] at h4;refine ⟨_,_,_,(H.out.at hjx).1,fun w' v=>?_⟩
     have h5:=lF _ _ _ _ _ _ w' (ji h4.1) (ji h3.1) ((H.out.pl hjx).later v) ((H.out.pl F).later v);have h6:aheadOk (qOf (lE a) k) (a.getD k noL).e.pl=lessL (a.getD j noL).e.pl (a.getD k noL).e.pl:=by rw [T,←lE_at a j];rfl
     rw [h6];exact h5
    have Q:Hid (k=0→aheadOk (qOf (lE a) k) (a.getD k noL).e.pl=true):=fun h0=>by rw [h0];rfl
    clear R z;generalize aheadOk (qOf (lE a) k) (a.getD k noL).e.pl=tA at K d Q;generalize entOne D n (a.getD k noL).e=E1 at l m K P d;generalize shapeErr D n (a.getD k noL).e.pl=SE at y u l;generalize leafV D n (a.getD k noL).e.pl=lf at u l;generalize (a.getD k noL).A=A1 at c1 y u d;generalize (a.getD k noL).c=k1 at c1 y u d;generalize (a.getD k noL).e.n=n1 at c2 l;generalize (a.getD k noL).e.pl.length=m1 at c1 y u d;have x:Hid (w.heap.size<wr.heap.size∧b<wr.heap.size∧wr.cell? ⟨w.heap.size,0,none⟩=some (.slice A0 n cap)∧wr.cell? ⟨b,o+k*2,none⟩=some (.slice A1 m1 k1)):=⟨hzr,J,c0,c1⟩;have HC2:=aa c2;clear c0 c1 c2;go_wp2_with fail
    go_cut [5] (fun s5 wx=>s5=.int .i64 SE∧Bl wr wx)
    case first=>as_aux_lemma =>
     go_region_held3 (fun w'=>Bl wr w'∧w'.cell? ⟨w.heap.size,0,none⟩=some (.slice A0 n cap)∧w'.cell? ⟨b,o+k*2,none⟩=some (.slice A1 m1 k1))
      ((refine yK x.out ?_;go_grown;done))
      (first | (go_at_call 5;refine (y.out _ (by go_grown)).mono ?_;rintro e w3 ⟨rfl,M⟩;have Lz:=ae (W0:=wr) (by go_grown) M;have hy3:=Lz.size;clear M))
     all_goals go_wp2_with fail
     all_goals go_meet
     all_goals exact ⟨rfl,by go_grown⟩
    case rest=>as_aux_lemma =>
    obtain ⟨rfl,Y⟩:=hcut;obtain ⟨w2,rfl⟩:∃ w2:World,w2=wc:=⟨_,rfl⟩;have r:=aa Y;clear Y
    by_cases B:SE=0
    ·have U:=u.out B
     have V:=aa U;have HC3:Hid (w.heap.size<w2.heap.size∧b<w2.heap.size∧w2.cell? ⟨w.heap.size,0,none⟩=some (.slice A0 n cap)∧w2.cell? ⟨b,o+k*2,none⟩=some (.slice A1 m1 k1)):=⟨zW x.out.1 r.out.size,zW x.out.2.1 r.out.size,(yK x.out r.out).2.1,(yK x.out r.out).2.2⟩;have L:E1=if lf=false then 6 else if fk n1=false then 1 else 0:=by rw [l.out,if_neg (by simpa using B)]
     have p:=aa L;subst B;clear L U;go_wp2_with fail
     go_cut [7] (fun s7 wx=>s7=.bool lf∧Bl w2 wx)
     case first=>as_aux_lemma =>
      go_region_held3 (fun w'=>Bl w2 w'∧w'.cell? ⟨w.heap.size,0,none⟩=some (.slice A0 n cap)∧w'.cell? ⟨b,o+k*2,none⟩=some (.slice A1 m1 k1))
       ((refine yK HC3.out ?_;go_grown;done))
       (first | (go_at_call 48;refine (V.out _ (ae r.out (by go_grown))).mono ?_;rintro e w3 ⟨rfl,M⟩;have Lz:=ae (W0:=w2) (by go_grown) M;have hy3:=Lz.size;clear M))
      all_goals go_wp2_with fail
      all_goals go_meet
      all_goals exact ⟨rfl,by go_grown⟩
     case rest=>as_aux_lemma =>
     obtain ⟨rfl,Y⟩:=hcut;obtain ⟨w3,rfl⟩:∃ w3:World,w3=wc:=⟨_,rfl⟩;have q:=aa (ae r.out Y);clear Y HC3 V r;cases lf
     ·have f:Hid (RES=6):=by
       have e6:E1=6:=by rw [p.out];rfl
       show _=_
       rw [m.out (by rw [e6];decide),e6]
      go_wp2_with fail;go_ret;rw [f.out];exact ⟨rfl,ae HB.out (ae s.out q.out)⟩
     have c3:w3.cell? ⟨b,o+k*2+1,none⟩=some (.int .i64 n1):=aL q.out J HC2.out
     by_cases hlo:n1 < -1000000
     ·have f:Hid (RES=1):=by
       have X:E1=1:=by rw [p.out,if_neg (by decide),if_pos (by simp [fk];omega)]
       show _=_
       rw [m.out (by rw [X];decide),X]
      go_wp2_with fail;go_ret;rw [f.out];exact ⟨rfl,ae HB.out (ae s.out q.out)⟩
     by_cases hhi:1000000<n1
     ·have f:Hid (RES=1):=by
       have X:E1=1:=by rw [p.out,if_neg (by decide),if_pos (by simp [fk];omega)]
       show _=_
       rw [m.out (by rw [X];decide),X]
      go_wp2_with fail;go_ret;rw [f.out];exact ⟨rfl,ae HB.out (ae s.out q.out)⟩
     have e0:E1=0:=by rw [p.out,if_neg (by decide),if_neg (by simp [fk];omega)]
     have HT:Hid ((tA=false→RES=7)∧(tA=true→aV D n (qOf (lE a) (k+1)) ((lE a).drop (k+1))=aV D n (qOf (lE a) 0) ((lE a).drop 0))):=K.out e0 tA rfl;have HKk:=aa (P.out e0);have Lv:Hid (∀ j,k=j+1→(∃ A2 m2 Z,wr.cell? ⟨b,o+j*2,none⟩=some (.slice A2 m2 Z)∧∀ w',Bl wr w'→Rt 49 #[.slice A2 m2 Z,.slice A1 m1 k1] w' (.bool tA))):=fun j T=>d.out j T e0
     clear l p m K P d u y e0
     rcases Nat.eq_zero_or_pos k with hk0 | hk0
     ·have Lw:=aa (HT.out.2 (Q.out hk0))
      subst hk0;simp only [Nat.zero_mul,Nat.add_zero] at c3;clear Lv Q HT HO HF;go_wp2_with fail
      go_quiet (fail)
      go_wp2_with fail
      go_roundg (N-(0+1))
      case measure=>omega
      case rel =>
       refine ⟨0+1,by omega,rfl,by go_num,Lw.out,fun j T=>?_,ac (ae s.out q.out) _⟩
       have:j=0:=by omega
       rw [this];exact HKk.out
     obtain ⟨j,T⟩:∃ j,k=j+1:=⟨k-1,by omega⟩
     obtain ⟨A2,m2,Z,O,G⟩:=Lv.out j T;have HLs:=aa G;have HC4:Hid (b<w3.heap.size∧w3.cell? ⟨b,o+j*2,none⟩=some (.slice A2 m2 Z)∧w3.cell? ⟨b,o+k*2,none⟩=some (.slice A1 m1 k1)):=⟨zW J q.out.size,aL q.out J O,aL q.out J x.out.2.2.2⟩;have hwr:IntKind.i64.wrap ((k:Int)-1)=(j:Int):=by rw [IntKind.wrap_i64];omega
     have hkz:((k:Int) == 0)=false:=by simp;omega
     have hkz' : ¬ ((k:Int)=0):=by omega
     have hjN:(j:Int)<(N:Int):=by omega
     clear T O G Lv hk0;go_wp2_with fail
     go_cut [8] (fun s8 wx=>s8=.bool tA∧Bl w3 wx)
     case first=>as_aux_lemma =>
      go_region_held3 (fun w'=>Bl w3 w'∧w'.cell? ⟨b,o+j*2,none⟩=some (.slice A2 m2 Z)∧w'.cell? ⟨b,o+k*2,none⟩=some (.slice A1 m1 k1))
       ((refine Kg HC4.out ?_;go_grown;done))
       (first | (go_at_call 49;refine (HLs.out _ (ae q.out (by go_grown))).mono ?_;rintro e w4 ⟨rfl,hb4⟩;have hN4:=ae (W0:=w3) (by go_grown) hb4;have hy4:=hN4.size;clear hb4))
      all_goals go_wp2_with fail
      all_goals go_meet
      all_goals exact ⟨rfl,by go_grown⟩
     case rest=>as_aux_lemma =>
     obtain ⟨rfl,Y⟩:=hcut;obtain ⟨w4,rfl⟩:∃ w4:World,w4=wc:=⟨_,rfl⟩;have HB4:=aa (ae q.out Y);clear Y HC4 HLs hwr hkz hkz' hjN c3;cases tA
     ·have f:Hid (RES=7):=HT.out.1 rfl
      go_wp2_with fail;go_ret;rw [f.out];exact ⟨rfl,ae HB.out (ae s.out HB4.out)⟩
     have Lw:Hid (aV D n (qOf (lE a) (k+1)) ((lE a).drop (k+1))=aV D n (qOf (lE a) 0) ((lE a).drop 0)):=HT.out.2 rfl;go_wp2_with fail
     go_roundg (N-(k+1))
     case measure=>omega
     case rel =>
      refine ⟨k+1,by omega,rfl,by go_num,Lw.out,fun i hi=>?_,ae s.out HB4.out⟩
      rcases Nat.lt_succ_iff_lt_or_eq.1 hi with h1 | rfl
      ·exact HO.out i h1
      exact HKk.out
    have f:Hid (RES=SE):=by
     have X:E1=SE:=by rw [l.out,if_pos (by simpa using B)]
     show _=_
     rw [m.out (by rw [X];exact B),X]
    have hSE':(SE != 0)=true:=by simpa using B
    clear u y l m K P d B x HC2 H Lu HE1 HM1 HO HF Q hki hk1 hzr J;go_wp2_with fail;go_ret;rw [f.out];exact ⟨rfl,ae HB.out (ae s.out r.out)⟩
   have hke:k=N:=by omega
   subst hke;have f:Hid (RES=0):=by show _=_;rw [W.out,←HF.out,yE (by rw [dF,HN.out];exact zT)]
   clear z;go_wp2_with fail;go_ret;rw [f.out];exact ⟨rfl,ae HB.out s.out⟩
 have W:Hid (entsErr D n (lE a)=(ah D n).2.2):=te _ hR;have hR':((ah D n).2.2 == 0)=false:=by simpa using hR
 generalize entsErr D n (lE a)=RES at W;generalize (ah D n).2.2=E at h W hR hR';generalize a.length=N;clear hE HM HE
 go_enter Tryz.func20,Tryz.ntmps20
 go_wp2_with fail;refine h.mono ?_;rintro e w1 ⟨rfl,I⟩;go_wp2_with fail;go_ret;rw [W.out];exact ⟨rfl,ae Lt.out I⟩
end Go.Proofs.YthlhjjabkgpenaaGreatDoor
