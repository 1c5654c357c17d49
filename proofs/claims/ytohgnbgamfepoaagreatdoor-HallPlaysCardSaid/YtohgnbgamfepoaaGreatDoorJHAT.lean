/- The document's own loo -/
import Derived.Deep.RegionHeld
import Derived.Test.YtohgnbgamfepoaaGreatDoorJHAP
namespace Go.Proofs.YtohgnbgamfepoaaGreatDoor
open Go ChangeShapes WideShapes ChangeAt RowKit
set_option maxRecDepth 99999
set_option maxHeartbeats 0
def dw (l:List Nd) (k:Nat):List Int:=(List.range l.length).map fun j=>(usedTo l k j:Int)
section
variable {l:List Nd} {k j a b:Nat}
theorem usedL_len:(dw l k).length=l.length:=by simp [dw]
theorem qk (h:j<l.length):(dw l k).getD j 0=(usedTo l k j:Int):=by simp [dw,List.getD,h]
theorem rR (l:List Nd) (k j:Nat):usedTo l k j≤2*k:=by
 induction k with
 | zero=>simp [usedTo]
 | succ k ih =>
  have h:uses (l.getD k bO) j≤2:=by
   unfold uses
   split
   ·split <;> split <;> omega
   omega
  unfold usedTo
  omega
theorem zo:dw l 0=List.replicate l.length 0:=by
 apply List.ext_getElem (by simp [dw])
 intro j a b
 simp [dw,usedTo]
theorem zn (h:(l.getD k bO).op≤2):dw l (k+1)=dw l k:=by
 have e:∀ j,usedTo l (k+1) j=usedTo l k j:=fun j=>by
  show usedTo l k j+uses (l.getD k bO) j=_
  rw [uses,if_neg (by omega)]
  rfl
 unfold dw;simp only [e]
theorem qu {L:List Int} {a b:Nat} {x:Int} (h:a<L.length):(L.set a x).getD b 0=if a=b then x else L.getD b 0:=by
 rw [zZ,zZ,List.getElem?_set]
 by_cases e:a=b
 ·subst e;simp [h]
 simp [e]
theorem DV (h:2<(l.getD k bO).op) (i:(l.getD k bO).left=(a:Int)) (m:(l.getD k bO).right=(b:Int)) (_hal:a<l.length) (n:b<l.length) :
  ((dw l k).set a ((usedTo l k a:Int)+1)).set b ((if a=b then (usedTo l k a:Int)+1 else (usedTo l k b:Int))+1)=dw l (k+1):=by
 apply List.ext_getElem (by simp [dw])
 intro j o p;have e:(dw l (k+1))[j]=((usedTo l k j+uses (l.getD k bO) j:Nat):Int):=by simp only [dw,usedTo,List.getElem_map,List.getElem_range]
 have g:∀ h,(dw l k)[j]'h=(usedTo l k j:Int):=fun h=>by simp only [dw,List.getElem_map,List.getElem_range]
 rw [e,uses,if_pos h,i,m,List.getElem_set,List.getElem_set,g]
 by_cases c:b=j
 ·subst c
  by_cases d:a=b
  ·subst d
   simp
   omega
  have : ¬ (a:Int)=(b:Int):=by omega
  simp [d,this]
 have h3 : ¬ (b:Int)=(j:Int):=by omega
 by_cases f:a=j
 ·subst f
  simp [c,h3]
 have h4 : ¬ (a:Int)=(j:Int):=by omega
 simp [c,f,h3,h4]
end
theorem Dr (A:Option Addr) (cap:Nat) (l:List Nd) (w:World) (hN:gt w A cap l) :
  Rt 104 #[.slice A l.length cap] w (.int .i64 (aA l)):=by
 by_cases c0:l.length=0
 ·have f:Hid (aA l=5):=jH c0
  rw [c0];clear c0
  go_enter Tryz.func104,Tryz.ntmps104
  go_wp2_with fail;go_ret;exact ⟨by rw [f.out];rfl,zS⟩
 obtain ⟨-,-,h0 | ⟨b,o,rfl,S⟩⟩:=hN
 ·rw [h0] at c0;exact absurd rfl c0
 have HAt:=aa S
 by_cases c1:30<l.length
 ·have f:Hid (aA l=4):=mm c1
  have c1':(30:Int)<(l.length:Int):=by omega
  have c0':((l.length:Int) == 0)=false:=by rw [beq_eq_false_iff_ne];omega
  generalize l.length=N at c1' c0';clear S c0 c1
  go_enter Tryz.func104,Tryz.ntmps104
  go_wp2_with fail;go_ret;exact ⟨by rw [f.out];rfl,zS⟩
 obtain ⟨N,T⟩:=az l.length;have m:=aa T;rw [T] at c0 c1 ⊢;have c0':((N:Int) == 0)=false:=by simp;omega
 have c1':(N:Int)≤30:=by omega
 have hN1:1≤N:=by omega
 have hmk:=run_make_row' (P:=Tryz.prog) 26 3 (.int .i64 0) 8 Tryz.underlying26 Tryz.infoIntP rfl .i64 .i64 N (by omega) (by omega)
 clear S T c0 c1
 go_enter Tryz.func104,Tryz.ntmps104
 go_wp2_with fail;clear hmk
 go_loopg [4,5] N (fun g s4 s5 wr => ∃ (k:Nat),k≤N∧g=N-k∧s4=.int .i64 k∧et wr w.heap.size (dw l k)∧(∀ j,j<k→fU l j=false)∧Bl w wr)
 case atStart=>exact ⟨0,zU,rfl,rfl,by rw [zo,m.out];exact et.made w N,fun j hj=>absurd hj (Nat.not_lt_zero _),by go_grown⟩
 case round =>
  obtain ⟨k,hk,rfl,rfl,hI,hG,E⟩:=hrel;have HI:=aa hI;have HG:=aa hG;have Z:=aa E
  by_cases hlt:k<N
  ·have hlt':(k:Int)<(N:Int):=by omega
   obtain ⟨x1,x2,x3,x4,x5⟩:=(HAt.out.later E).2 k (by rw [m.out];exact hlt)
   have p:Hid (∀ c:Int,ndErr (l.getD k bO) k=c→c≠0→aA l=c):=fun c J h2=>by
    rw [oS (by rw [m.out];omega) (by rw [m.out];exact hlt) (decide_eq_true (by rw [J];exact h2)) HG.out,J]
   have HK:Hid (ndErr (l.getD k bO) k=0→∀ j,j<k+1→fU l j=false):=fun h j hj=>by
    rcases Nat.lt_or_ge j k with J | J
    ·exact HG.out j J
    rw [show j=k by omega];exact decide_eq_false (by rw [h];simp)
   have G:Hid ((l.getD k bO).op≤2→dw l (k+1)=dw l k):=zn;have M:Hid (∀ a b:Nat,2<(l.getD k bO).op→(l.getD k bO).left=(a:Int)→(l.getD k bO).right=(b:Int)→a<l.length→b<l.length→((dw l k).set a ((usedTo l k a:Int)+1)).set b ((if a=b then (usedTo l k a:Int)+1 else (usedTo l k b:Int))+1)=dw l (k+1)):=fun a b=>DV
   generalize l.getD k bO=x at x1 x2 x3 x4 x5 p HK G M;obtain ⟨op,n,nm,le,y⟩:=x;simp only at x1 x2 x3 x4 x5 G M;obtain ⟨W,X⟩:=az (wr.alloc (.cells #[.int .i64 op,.int .i64 n,.string nm,.int .i64 le,.int .i64 y] 132));have y1:W.cell? ⟨wr.heap.size,0,none⟩=some (.int .i64 op):=by rw [←X];simp
   have y2:W.cell? ⟨wr.heap.size,1,none⟩=some (.int .i64 n):=by rw [←X];simp
   have y3:W.cell? ⟨wr.heap.size,2,none⟩=some (.string nm):=by rw [←X];simp
   have y4:W.cell? ⟨wr.heap.size,3,none⟩=some (.int .i64 le):=by rw [←X];simp
   have y5:W.cell? ⟨wr.heap.size,4,none⟩=some (.int .i64 y):=by rw [←X];simp
   have U:Bl wr W:=by rw [←X];go_grown
   have d:=aa (ae E U);have B:=aa (hI.later U);clear hI hG E U
   by_cases d1:op<1
   ·have f:Hid (aA l=1):=p.out 1 (by unfold ndErr;dsimp only;(repeat' split) <;> omega) (by decide)
    go_wp2_with fail;go_ret;exact ⟨by rw [f.out];rfl,d.out⟩
   by_cases d2:6<op
   ·have f:Hid (aA l=1):=p.out 1 (by unfold ndErr;dsimp only;(repeat' split) <;> omega) (by decide)
    go_wp2_with fail;go_ret;exact ⟨by rw [f.out];rfl,d.out⟩
   by_cases d3:op=1
   ·subst d3
    by_cases d4:n<0
    ·have f:Hid (aA l=1):=p.out 1 (by unfold ndErr;dsimp only;(repeat' split) <;> omega) (by decide)
     go_wp2_with fail;go_ret;exact ⟨by rw [f.out];rfl,d.out⟩
    by_cases d5:1000000<n
    ·have f:Hid (aA l=1):=p.out 1 (by unfold ndErr;dsimp only;(repeat' split) <;> omega) (by decide)
     go_wp2_with fail;go_ret;exact ⟨by rw [f.out];rfl,d.out⟩
    by_cases H:nm.size≠0
    ·have f:Hid (aA l=3):=p.out 3 (by unfold ndErr;dsimp only;(repeat' split) <;> omega) (by decide)
     have bm:nm.toList.isEmpty=false:=by rw [aU];simpa using H
     clear H;go_wp2_with fail;go_ret;exact ⟨by rw [f.out];rfl,d.out⟩
    have bm:nm.toList.isEmpty=true:=by rw [aU];simpa using H
    have HM:Hid (nm.size=0):=by show _=_;omega
    clear H
    by_cases r:le≠0
    ·have f:Hid (aA l=3):=p.out 3 (by have:=HM.out;unfold ndErr;dsimp only;(repeat' split) <;> omega) (by decide)
     have O:(le != 0)=true:=by simpa using r
     clear r;go_wp2_with fail;go_ret;exact ⟨by rw [f.out];rfl,d.out⟩
    have q:Hid (le=0):=by show _=_;omega
    have O:(le != 0)=false:=by have:=q.out;simpa using this
    clear r
    by_cases s:y≠0
    ·have f:Hid (aA l=3):=p.out 3 (by have:=q.out;have:=HM.out;unfold ndErr;dsimp only;(repeat' split) <;> omega) (by decide)
     have Q:(y != 0)=true:=by simpa using s
     clear s;go_wp2_with fail;go_ret;exact ⟨by rw [f.out];rfl,d.out⟩
    have D:Hid (y=0):=by show _=_;omega
    have Q:(y != 0)=false:=by have:=D.out;simpa using this
    clear s;have z:Hid (∀ j,j<k+1→fU l j=false):=HK.out (by have:=q.out;have:=D.out;have:=HM.out;unfold ndErr;dsimp only;(repeat' split) <;> omega)
    have L:Hid (dw l (k+1)=dw l k):=G.out (by decide)
    go_wp2_with fail
    go_roundg (N-(k+1))
    case measure=>omega
    case rel=>exact ⟨k+1,by omega,rfl,by go_num,by rw [L.out];exact B.out,z.out,d.out⟩
   by_cases d6:op=2
   ·subst d6
    have t:=mH nm W
    by_cases d7:aP nm=0
    ·have HZ:=aa d7
     rw [d7] at t;clear d7
     by_cases R:n≠0
     ·have f:Hid (aA l=3):=p.out 3 (by have:=HZ.out;unfold ndErr;dsimp only;(repeat' split) <;> omega) (by decide)
      have bn:(n != 0)=true:=by simpa using R
      clear R;go_wp2_with fail;refine t.mono ?_;rintro e w1 ⟨rfl,rfl⟩;go_wp2_with fail;go_ret;exact ⟨by rw [f.out];rfl,d.out⟩
     have I:Hid (n=0):=by show _=_;omega
     have bn:(n != 0)=false:=by have:=I.out;simpa using this
     clear R
     by_cases r:le≠0
     ·have f:Hid (aA l=3):=p.out 3 (by have:=I.out;have:=HZ.out;unfold ndErr;dsimp only;(repeat' split) <;> omega) (by decide)
      have O:(le != 0)=true:=by simpa using r
      clear r;go_wp2_with fail;refine t.mono ?_;rintro e w1 ⟨rfl,rfl⟩;go_wp2_with fail;go_ret;exact ⟨by rw [f.out];rfl,d.out⟩
     have q:Hid (le=0):=by show _=_;omega
     have O:(le != 0)=false:=by have:=q.out;simpa using this
     clear r
     by_cases s:y≠0
     ·have f:Hid (aA l=3):=p.out 3 (by have:=I.out;have:=q.out;have:=HZ.out;unfold ndErr;dsimp only;(repeat' split) <;> omega) (by decide)
      have Q:(y != 0)=true:=by simpa using s
      clear s;go_wp2_with fail;refine t.mono ?_;rintro e w1 ⟨rfl,rfl⟩;go_wp2_with fail;go_ret;exact ⟨by rw [f.out];rfl,d.out⟩
     have D:Hid (y=0):=by show _=_;omega
     have Q:(y != 0)=false:=by have:=D.out;simpa using this
     clear s;have z:Hid (∀ j,j<k+1→fU l j=false):=HK.out (by have:=I.out;have:=q.out;have:=D.out;have:=HZ.out;unfold ndErr;dsimp only;(repeat' split) <;> omega)
     have L:Hid (dw l (k+1)=dw l k):=G.out (by decide)
     go_wp2_with fail;refine t.mono ?_;rintro e w1 ⟨rfl,rfl⟩;go_wp2_with fail
     go_roundg (N-(k+1))
     case measure=>omega
     case rel=>exact ⟨k+1,by omega,rfl,by go_num,by rw [L.out];exact B.out,z.out,d.out⟩
    have f:Hid (aA l=2):=p.out 2 (by unfold ndErr;dsimp only;(repeat' split) <;> omega) (by decide)
    rw [eS d7] at t;clear d7;go_wp2_with fail;refine t.mono ?_;rintro e w1 ⟨rfl,rfl⟩;go_wp2_with fail;go_ret;exact ⟨by rw [f.out];rfl,d.out⟩
   have o1:(op == 1)=false:=by simpa using d3
   have o2:(op == 2)=false:=by simpa using d6
   have C:Hid (¬ op=1∧¬ op=2):=⟨d3,d6⟩;clear d3 d6
   by_cases d8:le<0
   ·have f:Hid (aA l=1):=p.out 1 (by have:=C.out;unfold ndErr;dsimp only;(repeat' split) <;> omega) (by decide)
    go_wp2_with fail;go_ret;exact ⟨by rw [f.out];rfl,d.out⟩
   by_cases d9:(k:Int)≤le
   ·have f:Hid (aA l=1):=p.out 1 (by have:=C.out;unfold ndErr;dsimp only;(repeat' split) <;> omega) (by decide)
    go_wp2_with fail;go_ret;exact ⟨by rw [f.out];rfl,d.out⟩
   by_cases d10:y<0
   ·have f:Hid (aA l=1):=p.out 1 (by have:=C.out;unfold ndErr;dsimp only;(repeat' split) <;> omega) (by decide)
    go_wp2_with fail;go_ret;exact ⟨by rw [f.out];rfl,d.out⟩
   by_cases d11:(k:Int)≤y
   ·have f:Hid (aA l=1):=p.out 1 (by have:=C.out;unfold ndErr;dsimp only;(repeat' split) <;> omega) (by decide)
    go_wp2_with fail;go_ret;exact ⟨by rw [f.out];rfl,d.out⟩
   by_cases R:n≠0
   ·have f:Hid (aA l=3):=p.out 3 (by have:=C.out;unfold ndErr;dsimp only;(repeat' split) <;> omega) (by decide)
    have bn:(n != 0)=true:=by simpa using R
    clear R;go_wp2_with fail;go_ret;exact ⟨by rw [f.out];rfl,d.out⟩
   have I:Hid (n=0):=by show _=_;omega
   have bn:(n != 0)=false:=by have:=I.out;simpa using this
   clear R
   by_cases H:nm.size≠0
   ·have f:Hid (aA l=3):=p.out 3 (by have:=I.out;have:=C.out;unfold ndErr;dsimp only;(repeat' split) <;> omega) (by decide)
    have bm:nm.toList.isEmpty=false:=by rw [aU];simpa using H
    clear H;go_wp2_with fail;go_ret;exact ⟨by rw [f.out];rfl,d.out⟩
   have bm:nm.toList.isEmpty=true:=by rw [aU];simpa using H
   have HM:Hid (nm.size=0):=by show _=_;omega
   clear H;have z:Hid (∀ j,j<k+1→fU l j=false):=HK.out (by have:=C.out;have:=HM.out;have:=I.out;unfold ndErr;dsimp only;(repeat' split) <;> omega)
   obtain ⟨a,rfl⟩:∃ a:Nat,le=(a:Int):=⟨le.toNat,by omega⟩
   obtain ⟨b',rfl⟩:∃ b':Nat,y=(b':Int):=⟨y.toNat,by omega⟩
   have ha:a<N:=by omega
   have hb:b'<N:=by omega
   have L:=M.out a b' (by have:=C.out;omega) rfl rfl (by rw [m.out];exact ha) (by rw [m.out];exact hb)
   have HUh:=aa L;have e1:=B.out.cell (j:=a) (by rw [usedL_len,m.out];exact ha)
   rw [qk (by rw [m.out];exact ha)] at e1
   have f1:=B.out.frozen a;have F:=B.out.set a ((usedTo l k a:Int)+1);have e2:=F.cell (j:=b') (by rw [List.length_set,usedL_len,m.out];exact hb)
   rw [qu (by rw [usedL_len,m.out];exact ha),qk (by rw [m.out];exact hb)] at e2
   have f2:=F.frozen b';have K:Hid (et ((W.setCell ⟨w.heap.size,a,none⟩ (.int .i64 ((usedTo l k a:Int)+1))).setCell ⟨w.heap.size,b',none⟩ (.int .i64 ((if a=b' then (usedTo l k a:Int)+1 else (usedTo l k b':Int))+1))) w.heap.size (dw l (k+1))):=by
    have h:=F.set b' ((if a=b' then (usedTo l k a:Int)+1 else (usedTo l k b':Int))+1)
    rw [L] at h;exact h
   have ua:=rR l k a;have ub:=rR l k b';generalize usedTo l k a=ua' at *;generalize usedTo l k b'=ub' at *;obtain ⟨v,hv⟩:∃ v:Nat,(if a=b' then (ua':Int)+1 else (ub':Int))=(v:Int):=⟨if a=b' then ua'+1 else ub',by split <;> simp⟩
   have hv1:(v:Int)≤100:=by rw [←hv];split <;> omega
   have hu1:(ua':Int)≤100:=by omega
   rw [hv] at e2 K;have hak:(a:Int)<(N:Int):=by omega
   have hbk:(b':Int)<(N:Int):=by omega
   have hak':(a:Int)<(k:Int):=by omega
   have hbk':(b':Int)<(k:Int):=by omega
   have hne:w.heap.size<wr.heap.size:=HI.out.lt;have Y:Hid (Bl w (W.setCell ⟨w.heap.size,a,none⟩ (.int .i64 ((ua':Int)+1)))):=d.out.setCell (by show w.heap.size≤w.heap.size;omega) _
   have y6:(W.setCell ⟨w.heap.size,a,none⟩ (.int .i64 ((ua':Int)+1))).cell? ⟨wr.heap.size,4,none⟩=some (.int .i64 (b':Int)):=by
    rw [World.cell?_setCell_far _ _ _ _ (by show w.heap.size≠wr.heap.size;omega)]
    exact y5
   obtain ⟨V,hV⟩:=az (W.setCell ⟨w.heap.size,a,none⟩ (.int .i64 ((ua':Int)+1)));rw [hV] at e2 f2 K Y y6;clear L HUh F hv ua ub d9 d11 ha hb hne;go_wp2_with fail
   go_roundg (N-(k+1))
   case measure=>omega
   case rel=>exact ⟨k+1,by omega,rfl,by go_num,K.out,z.out,Y.out.setCell (by show w.heap.size≤w.heap.size;omega) _⟩
  obtain rfl:k=N:=by omega
  have hlt' : ¬ (k:Int)<(k:Int):=by omega
  clear hI hG E;go_wp2_with fail
  go_loopg [6] k (fun g s6 wt => ∃ (j:Nat),j≤k-1∧g=k-j∧s6=.int .i64 j∧wt=wr∧(∀ i,i<j→kG l i=false))
  case atStart=>exact ⟨0,zU,rfl,rfl,rfl,fun i hi=>absurd hi (Nat.not_lt_zero _)⟩
  case round =>
   obtain ⟨j,hj,rfl,rfl,rfl,hO⟩:=hrel;have C:=aa hO;clear hO
   by_cases hjl:j<k-1
   ·have hj1:(j:Int)<(k:Int)-1:=by omega
    have hj2:(j:Int)<(k:Int):=by omega
    have e1:=HI.out.cell (j:=j) (by rw [usedL_len,m.out];omega)
    rw [qk (by rw [m.out];omega)] at e1
    by_cases hu:usedTo l k j=1
    ·have HO1:Hid (∀ i,i<j+1→kG l i=false):=fun i hi=>by
      rcases Nat.lt_or_ge i j with J | J
      ·exact C.out i J
      rw [show i=j by omega];exact decide_eq_false (by rw [m.out,hu];simp)
     rw [hu] at e1;clear hu;go_wp2_with fail
     go_roundg (k-(j+1))
     case measure=>omega
     case rel=>exact ⟨j+1,by omega,rfl,by go_num,rfl,HO1.out⟩
    have f:Hid (aA l=3):=oT (by rw [m.out];omega) (by rw [m.out];omega) (by rw [m.out];exact HG.out) (i:=j) (by rw [m.out];exact hjl) (decide_eq_true (by rw [m.out];exact hu))
    have hu':(((usedTo l k j:Nat):Int) == 1)=false:=by simp;omega
    generalize usedTo l k j=u at e1 hu';clear hu;go_wp2_with fail;go_ret;exact ⟨by rw [f.out];rfl,Z.out⟩
   have f:Hid (aA l=0):=rc (by rw [m.out];omega) (by rw [m.out];omega) (by rw [m.out];exact HG.out) (fun i hi=>C.out i (by rw [m.out] at hi;omega))
   have hj1 : ¬ (j:Int)<(k:Int)-1:=by omega
   go_wp2_with fail;go_ret;exact ⟨by rw [f.out];rfl,Z.out⟩
theorem uh (p:Nat→Bool):∀ n,p n=false→∃ k,k≤n∧p k=false∧∀ t,t<k→p t=true:=by
 intro n
 induction n with
 | zero=>intro h;exact ⟨0,zT,h,fun t b=>absurd b (Nat.not_lt_zero _)⟩
 | succ n ih =>
  intro h
  by_cases e:∃ j,j≤n∧p j=false
  ·obtain ⟨j,l,a⟩:=e
   clear ih;have q:∀ m j,j≤m→p j=false→∃ k,k≤j∧p k=false∧∀ t,t<k→p t=true:=by
    intro m
    induction m with
    | zero=>intro j l a;exact ⟨j,zT,a,fun t b=>by omega⟩
    | succ m ih =>
     intro j l a
     by_cases d:∃ i,i<j∧p i=false
     ·obtain ⟨i,r,f⟩:=d
      obtain ⟨k,g,c,o⟩:=ih i (by omega) f
      exact ⟨k,by omega,c,o⟩
     refine ⟨j,zT,a,fun t b=>?_⟩
     cases hp:p t
     ·exact absurd ⟨t,b,hp⟩ d
     rfl
   obtain ⟨k,f,g,c⟩:=q j j (zT) a;exact ⟨k,by omega,g,c⟩
  refine ⟨n+1,zT,h,fun t b=>?_⟩
  cases hp:p t
  ·exact absurd ⟨t,by omega,hp⟩ e
  rfl
theorem pr (x:ByteArray):Op.bytesLess x.toList x.toList=false:=by
 rw [bytesLess_eq];exact decide_eq_false (List.lt_irrefl _)
theorem Ep {N:List ByteArray} (B:∀ j,1≤j→j<N.length→fN N j=false) (x:ByteArray) (S:Nat→ByteArray) (q:S=fun j=>if j<N.length then N.getD j jj else x) :
  (decide (Lib.bsGo (fun t=>Op.bytesLess (S t).toList x.toList) N.length 0 N.length<N.length∧S (Lib.bsGo (fun t=>Op.bytesLess (S t).toList x.toList) N.length 0 N.length)=x)=decide (0≤b5 N x)) ∧
  (0≤b5 N x→(Lib.bsGo (fun t=>Op.bytesLess (S t).toList x.toList) N.length 0 N.length:Int)=b5 N x):=by
 have d:=Gn B;have b:∀ j,j<N.length→S j=N.getD j jj:=fun j r=>by rw [q];exact if_pos r
 have s:∀ j,N.length≤j→S j=x:=fun j r=>by rw [q];exact if_neg (by omega)
 obtain ⟨k,y,v,p⟩:=uh (fun t=>Op.bytesLess (S t).toList x.toList) N.length (by show Op.bytesLess (S N.length).toList x.toList=false;rw [s _ (zT)];exact pr x)
 have a:Op.bytesLess (S k).toList x.toList=false:=v;have l:∀ t,t<k→Op.bytesLess (S t).toList x.toList=true:=p;have w:∀ t,k≤t→Op.bytesLess (S t).toList x.toList=false:=by
  intro t C
  by_cases e:N.length≤t
  ·rw [s t e];exact pr x
  by_cases u:t=k
  ·rw [u];exact a
  rw [b t (by omega),bytesLess_eq]
  rw [b k (by omega),bytesLess_eq] at a
  refine decide_eq_false fun h=>of_decide_eq_false a (List.lt_trans (d k t (by omega) (by omega)) h)
 have m:Lib.bsGo (fun t=>Op.bytesLess (S t).toList x.toList) N.length 0 N.length=k:=Lib.bsGo_spec _ k p w _ _ _ (by omega) (zU) y
 rw [m]
 rcases where_cases N x with ⟨g,A⟩ | ⟨i,g,f,n⟩
 ·refine ⟨?_,fun h=>by omega⟩
  rw [g,decide_eq_false (show ¬ (0:Int)≤-1 by omega)]
  refine decide_eq_false fun h=>?_
  rw [b k h.1] at h;exact A k h.1 h.2
 have o:k=i:=by
  have z:k≤i:=by
   apply Nat.le_of_not_lt;intro h;have:=l i h;rw [b i f,n,pr] at this;cases this
  by_cases e:k=i
  ·exact e
  have c:=d k i (by omega) f
  rw [b k (by omega),bytesLess_eq] at a
  rw [n] at c;exact absurd c (of_decide_eq_false a)
 subst o;refine ⟨?_,fun _=>g.symm⟩
 rw [g,decide_eq_true (show (0:Int)≤(k:Int) by omega)]
 exact decide_eq_true ⟨f,by rw [b k f];exact n⟩
theorem tO (An:Option Addr) (a:Nat) (N:List ByteArray) (x:ByteArray) (w:World) (m:D1 w An a N) (n:∀ j,1≤j→j<N.length→fN N j=false) :
  Calls Tryz.prog 148 #[.slice An N.length a,.string x] w fun e w'=>(∃ i:Nat,e=.returned (.tuple #[.int .i64 i,.bool (decide (0≤b5 N x))])∧(0≤b5 N x→(i:Int)=b5 N x))∧Bl w w':=by
 obtain ⟨p,g,r,k | ⟨b,o,rfl,s,l⟩⟩:=m
 ·subst k
  refine (Any2.slices_BinarySearch_string_empty Tryz.lays26 An a x w).mono ?_;rintro e w' ⟨rfl,rfl⟩;exact ⟨⟨0,rfl,fun h=>absurd h (by show ¬ (0:Int)≤b5 [] x;unfold b5;show ¬ (0:Int)≤-1;omega)⟩,zS⟩
 obtain ⟨d,f⟩:=Ep n x (fun j=>if j<N.length then N.getD j jj else x) rfl
 refine (Any2.slices_BinarySearch_string Tryz.lays26 b o N.length a (fun j=>if j<N.length then N.getD j jj else x) x w g (fun j c=>by simp only [if_pos c];exact l j c)).mono ?_
 rintro e w' ⟨rfl,q,rfl⟩;exact ⟨⟨_,by rw [d],f⟩,ac (zS) _⟩
def D4 (N:List ByteArray) (C:List (Int×Int)) (x:ByteArray):Int×Int:=if 0≤b5 N x then C.getD (b5 N x).toNat noC else noC
def Fh (N:List ByteArray) (x:ByteArray):Int:=if 0≤b5 N x then 0 else 5
theorem zq (q r:Nat) (An:Option Addr) (E:Nat) (N:List ByteArray) (Ac:Option Addr) (S:Nat) (C:List (Int×Int)) (x:ByteArray) (w:World) (L:w.cell? ⟨q,0,none⟩=some (.slice An N.length E)) (B:w.cell? ⟨r,0,none⟩=some (.slice Ac C.length S)) (F:D1 w An E N) (T:dx w Ac S C) (t:dP N C=0) :
  Rt 147 #[.string x,.pointer (some ⟨q,0,none⟩),.pointer (some ⟨r,0,none⟩)] w (.tuple #[.agg #[.int .i64 (D4 N C x).1,.int .i64 (D4 N C x).2],errV (Fh N x)]):=by
 obtain ⟨a,-,O⟩:=tU t;have d:=fun w' (f:Bl w w')=>tO An E N x w' (F.later f) O
 have P:=World.block_lt_of_cell? _ _ B;have M:=World.block_lt_of_cell? _ _ L;simp only at P M
 by_cases p:0≤b5 N x
 ·rw [decide_eq_true p] at d
  obtain ⟨i,U,I,-⟩:∃ i:Nat,b5 N x=(i:Int)∧i<N.length∧N.getD i jj=x:=by
   rcases where_cases N x with ⟨Y,-⟩ | h
   ·omega
   exact h
  obtain ⟨-,-,y⟩:=T;obtain ⟨b,o,rfl,z⟩:=y.resolve_left (fun e=>by rw [e] at a;simp at a;omega)
  obtain ⟨c,H⟩:=az (C.getD i noC);have k:D4 N C x=c:=by unfold D4;rw [if_pos p,U];exact H
  have l:Fh N x=0:=by unfold Fh;rw [if_pos p]
  have R:=aa z;have V:Hid (∀ j:Nat,(0≤b5 N x→(j:Int)=b5 N x)→j=i):=fun j u=>by have:=u p;omega
  have D:=aa H;have A:(i:Int)<(C.length:Int):=by omega
  rw [k,l,errV_zero];obtain ⟨m,K⟩:=az C.length;have W:=aa K;rw [K] at B A;clear t F O U k l y z p H K I a
  go_enter Tryz.func147,Tryz.ntmps147
  go_wp2_with fail;refine (d _ (by go_grown)).mono ?_
  rintro e w1 ⟨⟨j,rfl,u⟩,f⟩;have J:=V.out j u;subst J;obtain ⟨s,G⟩:=dk f;have Q:=dp f
  simp at Q
  have g:Bl w w1:=ae (by go_grown) f
  clear f;obtain ⟨c0,c1⟩:=R.out.2 j (by rw [W.out];omega)
  rw [D.out] at c0 c1;have n:=aa g;have X:b<w.heap.size:=R.out.1;clear g d L u;go_wp2_with fail;refine bodyPost_ret (v:=.tuple #[.agg #[.int .i64 c.1,.int .i64 c.2],.nilIface]) (by simp [results,Tryz.results147,go_sem,s]) rfl ⟨rfl,?_⟩
  exact ((n.out.setCell (zT) _).setCell (zT) _)
 rw [decide_eq_false p] at d;have k:D4 N C x=noC:=by unfold D4;rw [if_neg p]
 have l:Fh N x=5:=by unfold Fh;rw [if_neg p]
 rw [k,l,ak (by decide)]
 unfold noC;clear t F O k l T a
 go_enter Tryz.func147,Tryz.ntmps147
 go_wp2_with fail;refine (d _ (by go_grown)).mono ?_
 rintro e w1 ⟨⟨j,rfl,u⟩,f⟩;obtain ⟨s,G⟩:=dk f;have Q:=dp f
 simp at Q
 have g:Bl w w1:=ae (by go_grown) f
 have n:=aa g;clear f g d L u p;go_wp2_with fail;refine bodyPost_ret (v:=.tuple #[.agg #[.int .i64 0,.int .i64 0],.iface 63 (.int .i64 5)]) (by simp [results,Tryz.results147,go_sem,s]) rfl ⟨rfl,?_⟩
 first | exact n.out | exact ((n.out.setCell (zT) _).setCell (zT) _)
def D8 (fn q r:Nat) (w:World) (N:List ByteArray) (C:List (Int×Int)):Prop := ∀ (x:ByteArray) (w':World),Bl w w'→Calls Tryz.prog fn #[.string x,.pointer (some ⟨q,0,none⟩),.pointer (some ⟨r,0,none⟩)] w' fun e w''=>e=.returned (.tuple #[.agg #[.int .i64 (D4 N C x).1,.int .i64 (D4 N C x).2],errV (Fh N x)])∧Bl w' w''
def qy (N:List ByteArray) (C T:List (Int×Int)) (x:Nd):Int×Int:=if x.op=1 then eG x.n else if x.op=2 then D4 N C x.name else qz x.op (T.getD x.left.toNat noC) (T.getD x.right.toNat noC)
def sJ (N:List ByteArray) (x:Nd):Int:=if x.op=2 then Fh N x.name else 0
theorem uW {N:List ByteArray} {C T:List (Int×Int)} {x:Nd} (h:x.op=1):qy N C T x=eG x.n∧sJ N x=0:=by unfold qy sJ;rw [if_pos h,if_neg (by omega)];exact ⟨rfl,rfl⟩
theorem sL {N:List ByteArray} {C T:List (Int×Int)} {x:Nd} (h:x.op=2):qy N C T x=D4 N C x.name∧sJ N x=Fh N x.name:=by unfold qy sJ;rw [if_neg (by omega),if_pos h,if_pos h];exact ⟨rfl,rfl⟩
theorem AY {N:List ByteArray} {C T:List (Int×Int)} {x:Nd} (h:2<x.op):qy N C T x=qz x.op (T.getD x.left.toNat noC) (T.getD x.right.toNat noC)∧sJ N x=0:=by unfold qy sJ;rw [if_neg (by omega),if_neg (by omega),if_neg (by omega)];exact ⟨rfl,rfl⟩
theorem Jt {o:Int} {a b:Int×Int} (c:pu a) (d:pu b):(o=3→l8 150 a.1 a.2 b.1 b.2 (qz o a b).1 (qz o a b).2 .nilIface)∧(o=4→l8 149 a.1 a.2 b.1 b.2 (qz o a b).1 (qz o a b).2 .nilIface)∧(o=5→l8 217 a.1 a.2 b.1 b.2 (qz o a b).1 (qz o a b).2 .nilIface)∧(o=6→l8 218 a.1 a.2 b.1 b.2 (qz o a b).1 (qz o a b).2 .nilIface):=by
 refine ⟨?_,?_,?_,?_⟩ <;> rintro rfl
 ·exact zF _ _ _ _ c d
 ·exact Bs _ _ _ _ c d
 ·exact Hz _ _ _ _ c d
 exact Hh _ _ _ _ c d
theorem Ex {T:List (Int×Int)} (a:∀ c∈T,pu c) (i:Nat):pu (T.getD i noC):=by
 rw [zZ];cases h:T[i]? with
 | none=>exact FK
 | some c=>exact a c (List.mem_of_getElem? h)
theorem Dt (L q r:Nat) (P:∀ (args:Array Value) (w:World),(callFunc L args).run Tryz.prog w=.ok (.enter L args) w) (N:List ByteArray) (C T:List (Int×Int)) (At:Option Addr) (O:Nat) (x:Nd) (w:World) (D:ndErr x T.length=0) (hn:T.length≤30) (M:dx w At O T) (A:∀ c∈T,pu c) (h:D8 L q r w N C) :
  Rt 177 #[Fw x,.slice At T.length O,.func (.func L) #[] #[.pointer (some ⟨q,0,none⟩),.pointer (some ⟨r,0,none⟩)]] w (.tuple #[.agg #[.int .i64 (qy N C T x).1,.int .i64 (qy N C T x).2],errV (sJ N x)]):=by
 rw [ge];have Q:1≤x.op∧x.op≤6:=by
  unfold ndErr at D
  split at D
  ·cases D
  omega
 by_cases E:x.op=1
 ·obtain ⟨p,s⟩:=uW (N:=N) (C:=C) (T:=T) E
  rw [p,s,errV_zero,E];have I:=jv x.n;clear D M h p s E
  go_enter Tryz.func177,Tryz.ntmps177
  go_wp2_with fail;refine (I _).mono ?_;rintro e w1 ⟨rfl,d⟩;obtain ⟨g,j⟩:=dk d;have k:=dp d
  simp at k
  have i:Bl w w1:=ae (by go_grown) d
  have f:=aa i;clear d i I;go_wp2_with fail;refine bodyPost_ret (v:=.tuple #[.agg #[.int .i64 (eG x.n).1,.int .i64 (eG x.n).2],.nilIface]) (by simp [results,Tryz.results177,go_sem,g]) rfl ⟨rfl,?_⟩
  exact ((f.out.setCell (by simp) _).setCell (by simp) _)
 by_cases F:x.op=2
 ·obtain ⟨p,s⟩:=sL (N:=N) (C:=C) (T:=T) F
  rw [p,s,F];have y:=h x.name;obtain ⟨c,H⟩:=az (D4 N C x.name);obtain ⟨V,z⟩:=az (errV (Fh N x.name));rw [H,z] at y;rw [H,z];clear D M h p s F H z
  go_enter Tryz.func177,Tryz.ntmps177
  go_wp2_with fail;refine (y _ (by go_grown)).mono ?_
  rintro e w1 ⟨rfl,d⟩;obtain ⟨g,j⟩:=dk d;have k:=dp d
  simp at k
  have i:Bl w w1:=ae (by go_grown) d
  have f:=aa i;clear d i y;go_wp2_with fail;refine bodyPost_ret (v:=.tuple #[.agg #[.int .i64 c.1,.int .i64 c.2],V]) (by simp [results,Tryz.results177,go_sem,g]) rfl ⟨rfl,?_⟩
  exact ((f.out.setCell (by simp) _).setCell (by simp) _)
 obtain ⟨p,s⟩:=AY (N:=N) (C:=C) (T:=T) (x:=x) (by omega)
 obtain ⟨a1,a2,a3,a4⟩:=fh D (by omega)
 obtain ⟨a,W⟩:∃ a:Nat,x.left=a:=⟨x.left.toNat,by omega⟩
 obtain ⟨c,H⟩:∃ c:Nat,x.right=c:=⟨x.right.toNat,by omega⟩
 rw [p,s,errV_zero,W,H,Int.toNat_natCast,Int.toNat_natCast];obtain ⟨-,-,G⟩:=M;obtain ⟨b,o,rfl,l⟩:=G.resolve_left (fun e=>by rw [e] at a2;simp at a2;omega)
 obtain ⟨p3,p4,p5,p6⟩:=Jt (o:=x.op) (Ex A a) (Ex A c);obtain ⟨y0,y1⟩:=l.2 a (by omega)
 obtain ⟨z0,z1⟩:=l.2 c (by omega)
 have Y:=l.1;obtain ⟨u,S⟩:=az (T.getD a noC);obtain ⟨v,U⟩:=az (T.getD c noC);rw [S] at y0 y1 p3 p4 p5 p6 ⊢;rw [U] at z0 z1 p3 p4 p5 p6 ⊢;obtain ⟨ov,J⟩:=az x.op;rw [J] at p3 p4 p5 p6 Q E F ⊢;obtain ⟨t,R⟩:=az (qz ov u v);rw [R] at p3 p4 p5 p6 ⊢;unfold l8 at p3 p4 p5 p6;obtain ⟨m,hm⟩:=az T.length;rw [hm] at hn a2 a4 ⊢;have X:(a:Int)<(m:Int):=by omega
 have Z:(c:Int)<(m:Int):=by omega
 have hmi:(m:Int)≤30:=by omega
 have K:ov=3∨ov=4∨ov=5∨ov=6:=by omega
 clear D h p s E F S U R l G A Q J a1 a3
 rcases K with rfl | rfl | rfl | rfl
 ·have B:=p3 rfl
  clear p3 p4 p5 p6
  go_enter Tryz.func177,Tryz.ntmps177
  go_wp2_with fail
  go_region_law ((go_simp;refine (B _).mono ?_;rintro e w1 ⟨rfl,d⟩;obtain ⟨g,j⟩:=dk d;have k:=dp d;simp at k;have f:Hid (Bl w w1):=(ae (by go_grown) d);clear d))
  all_goals
   go_wp2_with fail;refine bodyPost_ret (v:=.tuple #[.agg #[.int .i64 t.1,.int .i64 t.2],.nilIface]) (by simp [results,Tryz.results177,go_sem,g]) rfl ⟨rfl,?_⟩
   exact ((f.out.setCell (by simp) _).setCell (by simp) _)
 ·have B:=p4 rfl
  clear p3 p4 p5 p6
  go_enter Tryz.func177,Tryz.ntmps177
  go_wp2_with fail
  go_region_law ((go_simp;refine (B _).mono ?_;rintro e w1 ⟨rfl,d⟩;obtain ⟨g,j⟩:=dk d;have k:=dp d;simp at k;have f:Hid (Bl w w1):=(ae (by go_grown) d);clear d))
  all_goals
   go_wp2_with fail;refine bodyPost_ret (v:=.tuple #[.agg #[.int .i64 t.1,.int .i64 t.2],.nilIface]) (by simp [results,Tryz.results177,go_sem,g]) rfl ⟨rfl,?_⟩
   exact ((f.out.setCell (by simp) _).setCell (by simp) _)
 ·have B:=p5 rfl
  clear p3 p4 p5 p6
  go_enter Tryz.func177,Tryz.ntmps177
  go_wp2_with fail
  go_region_law ((go_simp;refine (B _).mono ?_;rintro e w1 ⟨rfl,d⟩;obtain ⟨g,j⟩:=dk d;have k:=dp d;simp at k;have f:Hid (Bl w w1):=(ae (by go_grown) d);clear d))
  all_goals
   go_wp2_with fail;refine bodyPost_ret (v:=.tuple #[.agg #[.int .i64 t.1,.int .i64 t.2],.nilIface]) (by simp [results,Tryz.results177,go_sem,g]) rfl ⟨rfl,?_⟩
   exact ((f.out.setCell (by simp) _).setCell (by simp) _)
 have B:=p6 rfl;clear p3 p4 p5 p6
 go_enter Tryz.func177,Tryz.ntmps177
 go_wp2_with fail
 go_region_law ((go_simp;refine (B _).mono ?_;rintro e w1 ⟨rfl,d⟩;obtain ⟨g,j⟩:=dk d;have k:=dp d;simp at k;have f:Hid (Bl w w1):=(ae (by go_grown) d);clear d))
 all_goals
  go_wp2_with fail;refine bodyPost_ret (v:=.tuple #[.agg #[.int .i64 t.1,.int .i64 t.2],.nilIface]) (by simp [results,Tryz.results177,go_sem,g]) rfl ⟨rfl,?_⟩
  exact ((f.out.setCell (by simp) _).setCell (by simp) _)
end Go.Proofs.YtohgnbgamfepoaaGreatDoor
