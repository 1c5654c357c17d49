/-
  What All of package rules, and the document's own Rules, answer, in whatever memory: which dim of an outline is wrong, in which member, and how.
-/
import Derived.Test.YtigkeokacagabafGreatDoorJYBA
import Derived.Test.YtigkeokacagabafGreatDoorJYBC
namespace Go.Proofs.YtigkeokacagabafGreatDoor
open Go.ChangeShapes Go.WideShapes Go.ChangeAt Go.RowKit
set_option maxRecDepth 20000
noncomputable def badD (D:Nat→Dm) (i:Nat):Bool:=decide ((rErr (D i)).2≠0)
noncomputable def ruErr (D:Nat→Dm) (n:Nat):Int×Int×Int :=
 if (allErr D n).2.2≠0 then allErr D n
 else if 0≤findFrom (badD D) n 0 then (findFrom (badD D) n 0,rErr (D (findFrom (badD D) n 0).toNat))
 else (-1,-1,0)
theorem ru0 {D:Nat→Dm} {n:Nat} (h:(allErr D n).2.2≠0):ruErr D n=allErr D n:=by unfold ruErr;rw [if_pos h]
theorem ru1 {D:Nat→Dm} {n i:Nat} (h:(allErr D n).2.2=0) (hi:i<n) (hb:(rErr (D i)).2≠0) (hf:∀ j,j<i→(rErr (D j)).2=0):ruErr D n=((i:Int),(rErr (D i)).1,(rErr (D i)).2):=by
 have e:findFrom (badD D) n 0=(i:Int):=findFrom_at (Nat.zero_le _) (by omega) (decide_eq_true hb) fun j _ hj=>decide_eq_false (by simpa using hf j hj)
 unfold ruErr
 rw [if_neg (by simpa using h),e,if_pos (by omega),Int.toNat_natCast]
theorem ru2 {D:Nat→Dm} {n:Nat} (h:(allErr D n).2.2=0) (hf:∀ j,j<n→(rErr (D j)).2=0):ruErr D n=(-1,-1,0):=by
 unfold ruErr
 rw [if_neg (by simpa using h),findFrom_none (p:=badD D) fun j _ hj=>decide_eq_false (by simpa using hf j (by omega)),if_neg (by omega)]
set_option maxHeartbeats 4000000 in
theorem rulall_any (A0:Option Addr) (cap n:Nat) (D:Nat→Dm) (A:Nat→Option Addr) (C:Nat→Nat) (w:World) (hM:DimsV w A0 cap n D A C):Calls Tryz.prog 74 #[.agg #[.slice A0 n cap]] w fun e w'=>e=.returned (.tuple #[.int .i64 (ruErr D n).1,.int .i64 (ruErr D n).2.1,errV (ruErr D n).2.2])∧Below w.heap.size w w':=by
 have hB0:=ownOut_below w A0 n cap 42
 have hS:=ownOut_size w A0 n cap 42
 have hA:=ownOut_at w A0 n cap 42
 have hal:=all_any A0 cap n D A C (ownOut w A0 n cap 42) (hM.later hB0)
 obtain ⟨W,hW⟩:∃ W,ownOut w A0 n cap 42=W:=⟨_,rfl⟩
 rw [hW] at hB0 hS hA hal
 unfold ownOut at hW
 have HB0:Hid (Below w.heap.size w W):=hB0
 have HM:Hid (DimsV w A0 cap n D A C):=hM
 have hsz:w.heap.size<W.heap.size:=by omega
 clear hM hB0
 by_cases he:(allErr D n).2.2=0
 case neg =>
  rw [ru0 he]
  rw [errV_some he] at hal ⊢
  generalize (allErr D n).1=x at hal ⊢
  generalize (allErr D n).2.1=y at hal ⊢
  generalize (allErr D n).2.2=c at hal ⊢
  clear he
  go_enter Tryz.func74,Tryz.ntmps74
  go_wp2_with fail
  refine hal.mono ?_
  rintro e w1 ⟨rfl,hb1⟩
  go_wp2_with fail
  go_returns
  exact ⟨rfl,onB HB0.out hb1⟩
 obtain ⟨hn1,hn4,-,-⟩:=allErr_some he
 have HE:Hid ((allErr D n).2.2=0):=he
 rw [he,errV_zero] at hal
 generalize (allErr D n).1=x at hal
 generalize (allErr D n).2.1=y at hal
 have hnI:(n:Int)≤4:=by omega
 have HA:Hid (W.cell? ⟨w.heap.size,0,none⟩=some (.slice A0 n cap)):=hA
 clear he
 go_enter Tryz.func74,Tryz.ntmps74
 go_wp2_with fail
 refine hal.mono ?_
 rintro e w1 ⟨rfl,hb1⟩
 have HB1:Hid (Below W.heap.size W w1):=hb1
 have c1:w1.cell? ⟨w.heap.size,0,none⟩=some (.slice A0 n cap):=(hb1.cell (p:=⟨w.heap.size,0,none⟩) hsz).trans hA
 have hsz1:w.heap.size<w1.heap.size:=Nat.lt_of_lt_of_le hsz hb1.size
 clear hb1 hal hA hW
 go_wp2_with fail
 go_loopg [26] n (fun g s26 wr => ∃ (k:Nat),k≤n∧g=n-k∧s26=.int .i64 k∧Hid (∀ j,j<k→(rErr (D j)).2=0)∧Below W.heap.size W wr)
 case atStart=>exact ⟨0,Nat.zero_le _,rfl,rfl,(fun j hj=>absurd hj (Nat.not_lt_zero _):∀ j,j<0→_),HB1.out⟩
 case round =>
  obtain ⟨k,hk,rfl,rfl,HK,hBw⟩:=hrel
  have HBw:Hid (Below W.heap.size W wr):=hBw
  by_cases hlt:k<n
  ·have hki:(k:Int)<(n:Int):=by omega
   obtain ⟨hcap,h0 | ⟨b,o,rfl,hMs⟩⟩:=HM.out.later (onB HB0.out hBw)
   ·omega
   have hcapI:(n:Int)≤(cap:Int):=by omega
   obtain ⟨h0,h1,h2,h3⟩:=hMs.2 k hlt
   have hbl:b<wr.heap.size:=hMs.1
   have hBo:=ownDim_below wr (D k) (A k) (C k) 24
   have hck:=rcheck_any (D k) (A k) (C k) (ownDim wr (D k) (A k) (C k) 24) (h3.later hBo)
   obtain ⟨d0,d1,d2,hqW⟩:=dim_cells (w:=wr) (d:=D k) (A:=A k) (cap:=C k) (Below.refl _ _)
   have HBo:Hid (Below wr.heap.size wr (ownDim wr (D k) (A k) (C k) 24)):=hBo
   unfold dimV at hck
   obtain ⟨W2,hW2⟩:∃ W2,ownDim wr (D k) (A k) (C k) 24=W2:=⟨_,rfl⟩
   rw [hW2] at d0 d1 d2 hqW HBo hck
   unfold ownDim at hW2
   clear h3 hMs hBo hBw
   by_cases he:(rErr (D k)).2=0
   ·rw [he,errV_zero] at hck
    have HK2:Hid (∀ j,j<k+1→(rErr (D j)).2=0):=fun j hj=>by
     by_cases e:j=k
     ·rw [e];exact he
     ·exact HK.out j (by omega)
    generalize (rErr (D k)).1=z at hck
    clear he
    go_wp2_with fail
    refine hck.mono ?_
    rintro e w2 ⟨rfl,hb2⟩
    have HB2:Hid (Below W.heap.size W w2):=onB HBw.out (onB HBo.out hb2)
    clear hb2 hck
    go_wp2_with fail
    go_roundg (n-(k+1))
    case measure=>omega
    case rel=>exact ⟨k+1,by omega,rfl,by go_num,HK2,HB2.out⟩
   ·have HRu:Hid (ruErr D n=((k:Int),(rErr (D k)).1,(rErr (D k)).2)):=ru1 HE.out hlt he HK.out
    have HEe:Hid ((rErr (D k)).2≠0):=he
    rw [errV_some he] at hck
    generalize (rErr (D k)).1=z at hck HRu
    generalize (rErr (D k)).2=c at hck HRu HEe
    clear he
    go_wp2_with fail
    refine hck.mono ?_
    rintro e w2 ⟨rfl,hb2⟩
    have HB2:Hid (Below W.heap.size W w2):=onB HBw.out (onB HBo.out hb2)
    clear hb2 hck
    go_wp2_with fail
    go_returns
    rw [HRu.out]
    exact ⟨by rw [errV_some HEe.out];rfl,onB HB0.out HB2.out⟩
  ·have hke:k=n:=by omega
   subst hke
   have HRu:Hid (ruErr D k=(-1,-1,0)):=ru2 HE.out HK.out
   clear hBw
   go_wp2_with fail
   go_returns
   rw [HRu.out]
   exact ⟨rfl,onB HB0.out HBw.out⟩
set_option maxHeartbeats 4000000 in
theorem srules_any (A0:Option Addr) (cap n:Nat) (D:Nat→Dm) (A:Nat→Option Addr) (C:Nat→Nat) (w:World) (hM:DimsV w A0 cap n D A C):Calls Tryz.prog 42 #[.agg #[.slice A0 n cap]] w fun e w'=>e=.returned (.tuple #[.int .i64 (ruErr D n).1,.int .i64 (ruErr D n).2.1,.int .i64 (ruErr D n).2.2])∧Below w.heap.size w w':=by
 have hB0:=ownOut_below w A0 n cap 42
 have hS:=ownOut_size w A0 n cap 42
 have hA:=ownOut_at w A0 n cap 42
 have hal:=routline_any A0 cap n D A C (ownOut w A0 n cap 42) (hM.later hB0)
 obtain ⟨W,hW⟩:∃ W,ownOut w A0 n cap 42=W:=⟨_,rfl⟩
 rw [hW] at hB0 hS hA hal
 unfold ownOut at hW
 have HB0:Hid (Below w.heap.size w W):=hB0
 have HM:Hid (DimsV w A0 cap n D A C):=hM
 have hsz:w.heap.size<W.heap.size:=by omega
 clear hM hB0
 by_cases he:(allErr D n).2.2=0
 case neg =>
  rw [ru0 he]
  have hne:((allErr D n).2.2 != 0)=true:=by simpa using he
  generalize (allErr D n).1=x at hal ⊢
  generalize (allErr D n).2.1=y at hal ⊢
  generalize (allErr D n).2.2=c at hal hne ⊢
  clear he
  go_enter Tryz.func42,Tryz.ntmps42
  go_wp2_with fail
  refine hal.mono ?_
  rintro e w1 ⟨rfl,hb1⟩
  go_wp2_with fail
  go_returns
  exact ⟨rfl,onB HB0.out hb1⟩
 obtain ⟨hn1,hn4,-,-⟩:=allErr_some he
 have HE:Hid ((allErr D n).2.2=0):=he
 rw [he] at hal
 generalize (allErr D n).1=x at hal
 generalize (allErr D n).2.1=y at hal
 have hnI:(n:Int)≤4:=by omega
 have HA:Hid (W.cell? ⟨w.heap.size,0,none⟩=some (.slice A0 n cap)):=hA
 clear he
 go_enter Tryz.func42,Tryz.ntmps42
 go_wp2_with fail
 refine hal.mono ?_
 rintro e w1 ⟨rfl,hb1⟩
 have HB1:Hid (Below W.heap.size W w1):=hb1
 clear hb1 hal hA hW
 go_wp2_with fail
 go_loopg [8] n (fun g s8 wr => ∃ (k:Nat),k≤n∧g=n-k∧s8=.int .i64 k∧Hid (∀ j,j<k→(rErr (D j)).2=0)∧Below W.heap.size W wr)
 case atStart=>exact ⟨0,Nat.zero_le _,rfl,rfl,(fun j hj=>absurd hj (Nat.not_lt_zero _):∀ j,j<0→_),HB1.out⟩
 case round =>
  obtain ⟨k,hk,rfl,rfl,HK,hBw⟩:=hrel
  have HBw:Hid (Below W.heap.size W wr):=hBw
  have cw:wr.cell? ⟨w.heap.size,0,none⟩=some (.slice A0 n cap):=(hBw.cell (p:=⟨w.heap.size,0,none⟩) hsz).trans HA.out
  have hszr:w.heap.size<wr.heap.size:=Nat.lt_of_lt_of_le hsz hBw.size
  by_cases hlt:k<n
  ·have hki:(k:Int)<(n:Int):=by omega
   obtain ⟨hcap,h0 | ⟨b,o,rfl,hMs⟩⟩:=HM.out.later (onB HB0.out hBw)
   ·omega
   have hcapI:(n:Int)≤(cap:Int):=by omega
   obtain ⟨h0,h1,h2,h3⟩:=hMs.2 k hlt
   have hbl:b<wr.heap.size:=hMs.1
   have hck:=sneeds_any (D k) (A k) (C k) wr h3
   unfold dimV at hck
   clear h3 hMs hBw
   by_cases he:(rErr (D k)).2=0
   ·have HK2:Hid (∀ j,j<k+1→(rErr (D j)).2=0):=fun j hj=>by
     by_cases e:j=k
     ·rw [e];exact he
     ·exact HK.out j (by omega)
    rw [he] at hck
    generalize (rErr (D k)).1=z at hck
    clear he
    go_wp2_with fail
    refine hck.mono ?_
    rintro e w2 ⟨⟨A2,c2,xs,rfl,-⟩,hb2⟩
    have HB2:Hid (Below W.heap.size W w2):=onB HBw.out hb2
    clear hb2 hck
    go_wp2_with fail
    go_roundg (n-(k+1))
    case measure=>omega
    case rel=>exact ⟨k+1,by omega,rfl,by go_num,HK2,HB2.out⟩
   ·have HRu:Hid (ruErr D n=((k:Int),(rErr (D k)).1,(rErr (D k)).2)):=ru1 HE.out hlt he HK.out
    have hne:((rErr (D k)).2 != 0)=true:=by simpa using he
    generalize (rErr (D k)).1=z at hck HRu
    generalize (rErr (D k)).2=c at hck HRu hne
    clear he
    go_wp2_with fail
    refine hck.mono ?_
    rintro e w2 ⟨⟨A2,c2,xs,rfl,-⟩,hb2⟩
    have HB2:Hid (Below W.heap.size W w2):=onB HBw.out hb2
    clear hb2 hck
    go_wp2_with fail
    go_returns
    rw [HRu.out]
    exact ⟨rfl,onB HB0.out HB2.out⟩
  ·have hke:k=n:=by omega
   subst hke
   have HRu:Hid (ruErr D k=(-1,-1,0)):=ru2 HE.out HK.out
   clear hBw
   go_wp2_with fail
   go_returns
   rw [HRu.out]
   exact ⟨rfl,onB HB0.out HBw.out⟩
theorem sright_any (A0:Option Addr) (cap n:Nat) (D:Nat→Dm) (A:Nat→Option Addr) (C:Nat→Nat) (w:World) (hM:DimsV w A0 cap n D A C):Calls Tryz.prog 19 #[.agg #[.slice A0 n cap]] w fun e w'=>e=.returned (.int .i64 (ruErr D n).2.2)∧Below w.heap.size w w':=by
 have hB0:=ownOut_below w A0 n cap 42
 have hA:=ownOut_at w A0 n cap 42
 have h:=srules_any A0 cap n D A C (ownOut w A0 n cap 42) (hM.later hB0)
 obtain ⟨W,hW⟩:∃ W,ownOut w A0 n cap 42=W:=⟨_,rfl⟩
 rw [hW] at hB0 hA h
 unfold ownOut at hW
 have HB0:Hid (Below w.heap.size w W):=hB0
 generalize (ruErr D n).1=x at h
 generalize (ruErr D n).2.1=y at h
 generalize (ruErr D n).2.2=z at h ⊢
 clear hM hB0
 go_enter Tryz.func19,Tryz.ntmps19
 go_wp2_with fail
 refine h.mono ?_
 rintro e w1 ⟨rfl,hb1⟩
 go_wp2_with fail
 go_ret
 exact ⟨rfl,onB HB0.out hb1⟩
noncomputable def cuErr (D:Nat→Dm) (n:Nat) (l:List En):Int:=if (ruErr D n).2.2≠0 then (ruErr D n).2.2 else entsErr D n l
set_option maxHeartbeats 2000000 in
theorem scube_any (A0:Option Addr) (cap n:Nat) (D:Nat→Dm) (A:Nat→Option Addr) (C:Nat→Nat) (AE:Option Addr) (ce:Nat) (xs:List EnL) (w:World) (hM:DimsV w A0 cap n D A C) (hE:EnsV w AE ce xs):Calls Tryz.prog 14 #[.agg #[.slice A0 n cap],.slice AE xs.length ce] w fun e w'=>e=.returned (.int .i64 (cuErr D n (lE xs)))∧Below w.heap.size w w':=by
 have hB0:=ownOut_below w A0 n cap 42
 have hS:=ownOut_size w A0 n cap 42
 have hA:=ownOut_at w A0 n cap 42
 have h:=sright_any A0 cap n D A C (ownOut w A0 n cap 42) (hM.later hB0)
 obtain ⟨W,hW⟩:∃ W,ownOut w A0 n cap 42=W:=⟨_,rfl⟩
 rw [hW] at hB0 hS hA h
 unfold ownOut at hW
 have HB0:Hid (Below w.heap.size w W):=hB0
 have HM:Hid (DimsV w A0 cap n D A C):=hM
 have HE:Hid (EnsV w AE ce xs):=hE
 have hsz:w.heap.size<W.heap.size:=by omega
 have HEn:Hid (∀ w',Below w.heap.size w w'→Calls Tryz.prog 36 #[.agg #[.slice A0 n cap],.slice AE xs.length ce] w' fun r w''=>r=.returned (.int .i64 (entsErr D n (lE xs)))∧Below w'.heap.size w' w''):=fun w' hB=>rentries_any A0 cap n D A C AE ce xs w' (hM.later hB) (hE.later hB)
 generalize xs.length=xl at HEn ⊢
 clear hM hB0 hE
 by_cases he:(ruErr D n).2.2=0
 ·have HC:Hid (cuErr D n (lE xs)=entsErr D n (lE xs)):=by show _=_;unfold cuErr;rw [if_neg (by simpa using he)]
  rw [he] at h
  clear he
  go_enter Tryz.func14,Tryz.ntmps14
  go_wp2_with fail
  refine h.mono ?_
  rintro e w1 ⟨rfl,hb1⟩
  have cw:=(hb1.cell (p:=⟨w.heap.size,0,none⟩) hsz).trans hA
  have hsz1:w.heap.size<w1.heap.size:=Nat.lt_of_lt_of_le hsz hb1.size
  have hen:=HEn.out w1 (onB HB0.out hb1)
  have HB1:Hid (Below w.heap.size w w1):=onB HB0.out hb1
  clear hb1 h hA
  go_wp2_with fail
  refine hen.mono ?_
  rintro e w2 ⟨rfl,hb2⟩
  go_wp2_with fail
  go_ret
  exact ⟨by rw [HC.out];rfl,onB HB1.out hb2⟩
 ·have HC:Hid (cuErr D n (lE xs)=(ruErr D n).2.2):=by show _=_;unfold cuErr;rw [if_pos he]
  have hb:((ruErr D n).2.2 == 0)=false:=by simpa using he
  generalize (ruErr D n).2.2=c at h HC hb
  clear he
  go_enter Tryz.func14,Tryz.ntmps14
  go_wp2_with fail
  refine h.mono ?_
  rintro e w1 ⟨rfl,hb1⟩
  go_wp2_with fail
  go_ret
  exact ⟨by rw [HC.out];rfl,onB HB0.out hb1⟩
structure R2 where
 xs:List RL
 A:Option Addr
 c:Nat
def noR2:R2:=⟨[],none,0⟩
def cells2 (ys:List R2):List Value:=ys.map fun y=>.slice y.A y.xs.length y.c
theorem cells2_append (a b:List R2):cells2 (a ++ b)=cells2 a ++ cells2 b:=by simp [cells2]
theorem r2_mem {ys:List R2} {k:Nat} (h:k<ys.length):ys.getD k noR2∈ys:=by
 rw [List.getD_eq_getElem?_getD,List.getElem?_eq_getElem h]
 exact List.getElem_mem h
theorem cells2_at {ys:List R2} {k:Nat} (h:k<ys.length):(cells2 ys)[k]?=some (.slice (ys.getD k noR2).A (ys.getD k noR2).xs.length (ys.getD k noR2).c):=by
 simp [cells2,List.getD,h]
def Rows2V (w:World) (A:Option Addr) (cap:Nat) (ys:List R2):Prop:=ys.length≤cap∧(ys=[]∨∃ b,A=some ⟨b,0,none⟩∧b<w.heap.size∧∀ k,k<ys.length→w.cell? ⟨b,k,none⟩=some (.slice (ys.getD k noR2).A (ys.getD k noR2).xs.length (ys.getD k noR2).c))∧∀ y∈ys,RowsV w y.A y.c y.xs
theorem Rows2V.later {w w':World} {A:Option Addr} {cap:Nat} {ys:List R2} (h:Rows2V w A cap ys) (hB:Below w.heap.size w w'):Rows2V w' A cap ys:=by
 obtain ⟨h1,h2,h3⟩:=h
 refine ⟨h1,?_,fun x hx=>(h3 x hx).later hB⟩
 rcases h2 with h2 | ⟨b,h2,h4,h5⟩
 ·exact Or.inl h2
 ·exact Or.inr ⟨b,h2,Nat.lt_of_lt_of_le h4 hB.size,fun k hk=>(hB.cell (p:=⟨b,k,none⟩) h4).trans (h5 k hk)⟩
theorem rows2_own {w:World} {base:Nat} {v:Value} {ys:List R2} (h:w.ownsRow base 70 1 v ys.length (cells2 ys)) (hp:∀ y∈ys,RowsV w y.A y.c y.xs):∃ A c,v=.slice A ys.length c∧Rows2V w A c ys:=by
 rcases h.2 with ⟨rfl,h0⟩ | ⟨g,cap,cur,rfl,hb,hg,hc,_,_,_⟩
 ·have:ys=[]:=List.eq_nil_of_length_eq_zero h0
  subst this
  exact ⟨none,0,rfl,Nat.zero_le _,Or.inl rfl,fun x hx=>by cases hx⟩
 ·refine ⟨_,cap,rfl,hc,Or.inr ⟨g,rfl,(Array.getElem?_eq_some_iff.1 hg).1,fun k hk=>?_⟩,hp⟩
  have y:=h.cells (g:=g) rfl k _ (cells2_at hk)
  have hadd:(⟨g,0,none⟩:Addr).add k=⟨g,k,none⟩:=by unfold Addr.add;split <;> simp_all
  rw [hadd] at y
  exact y
theorem row2_ne_int:(3:Nat)≠70:=by decide
theorem row2_ne_row:(27:Nat)≠70:=by decide
theorem off_row2 {w w':World} {base:Nat} {v:Value} {n b T:Nat} {zs:List Value} {cs:Array Value} {fr:Nat×Nat} (hown:w.ownsRow base 70 1 v n zs) (hG:w.grownBy w' v.ownBlock) (hb:w.heap[b]?=some (.cells cs T fr)) (hT:T≠70):w'.heap[b]?=w.heap[b]?:=by
 refine hG.block b (Array.getElem?_eq_some_iff.1 hb).1 fun e=>?_
 rcases hown.2 with ⟨rfl,-⟩ | ⟨g,cap,cur,rfl,-,hg,-⟩
 ·cases e
 ·simp only [Value.ownBlock,Option.some.injEq] at e
  rw [e,hg] at hb
  simp only [Option.some.injEq,Obj.cells.injEq] at hb
  exact hT hb.2.1.symm
theorem RowsV.row2 {w w':World} {base:Nat} {v:Value} {n:Nat} {zs:List Value} {A:Option Addr} {c:Nat} {xs:List RL} (h:RowsV w A c xs) (hT:RowsT w A xs) (hown:w.ownsRow base 70 1 v n zs) (hG:w.grownBy w' v.ownBlock):RowsV w' A c xs∧RowsT w' A xs:=by
 obtain ⟨h1,h2,h3⟩:=h
 have h3':∀ x∈xs,IntT w' x.A x.c x.p:=fun x hx=>(h3 x hx).keep fun b cs fr hb=>off_row2 hown hG hb row2_ne_int
 rcases hT with hT | ⟨b,cs,fr,hA,hb⟩
 ·subst hT
  exact ⟨⟨h1,Or.inl rfl,h3'⟩,Or.inl rfl⟩
 ·have he:=off_row2 hown hG hb row2_ne_row
  refine ⟨⟨h1,?_,h3'⟩,Or.inr ⟨b,cs,fr,hA,he.trans hb⟩⟩
  rcases h2 with h2 | ⟨b',h2,h4,h5⟩
  ·exact Or.inl h2
  ·rw [hA] at h2
   cases h2
   exact Or.inr ⟨b,hA,Nat.lt_of_lt_of_le h4 hG.size,fun k hk=>(World.cell?_of_block (a:=⟨b,k,none⟩) he).trans (h5 k hk)⟩
theorem Tryz.infoRow2:(Tryz.prog.info? 70).map (fun i=>(i.zero,i.size,i.bytes))=some (some (.slice none 0 0),1,24):=by kernel_rfl
set_option maxHeartbeats 4000000 in
theorem smembers_any (A0:Option Addr) (cap n:Nat) (D:Nat→Dm) (A:Nat→Option Addr) (C:Nat→Nat) (w:World) (hn4:n≤4) (hR:AllR D n) (hM:DimsV w A0 cap n D A C):Calls Tryz.prog 53 #[.agg #[.slice A0 n cap]] w fun e w'=>(∃ A' c' ys,e=.returned (.slice A' n c')∧ys.length=n∧Rows2V w' A' c' ys∧∀ i,i<n→lR (ys.getD i noR2).xs=ndL (D i))∧Below w.heap.size w w':=by
 obtain ⟨i0,hi0,hz0,hz1,hz2⟩:=info_parts Tryz.infoRow2
 have hB0:=ownOut_below w A0 n cap 42
 have hS:=ownOut_size w A0 n cap 42
 have hA:=ownOut_at w A0 n cap 42
 obtain ⟨W,hW⟩:∃ W,ownOut w A0 n cap 42=W:=⟨_,rfl⟩
 rw [hW] at hB0 hS hA
 unfold ownOut at hW
 have HB0:Hid (Below w.heap.size w W):=hB0
 have HM:Hid (DimsV w A0 cap n D A C):=hM
 have HA:Hid (W.cell? ⟨w.heap.size,0,none⟩=some (.slice A0 n cap)):=hA
 have HR:Hid (AllR D n):=hR
 have hsz:w.heap.size<W.heap.size:=by omega
 have hnI:(n:Int)≤4:=by omega
 clear hM hB0 hA hR hS
 go_enter Tryz.func53,Tryz.ntmps53
 go_wp2_with fail
 clear hW
 go_loopg [3,4] n (fun g s3 s4 wr => ∃ (k:Nat) (ys:List R2),k≤n∧g=n-k∧s4=.int .i64 k∧Hid (ys.length=k∧(∀ i,i<k→lR (ys.getD i noR2).xs=ndL (D i))∧∀ y∈ys,RowsV wr y.A y.c y.xs∧RowsT wr y.A y.xs)∧wr.ownsRow W.heap.size 70 1 s3 k (cells2 ys)∧Below W.heap.size W wr)
 case atStart=>exact ⟨0,[],Nat.zero_le _,rfl,rfl,(⟨rfl,fun i hi=>absurd hi (Nat.not_lt_zero _),fun y hy=>by cases hy⟩:_∧_∧_),World.ownsRow_nil _ _ _ _,Below.refl _ _⟩
 case round =>
  obtain ⟨k,ys,hk,rfl,rfl,HY,hO,hBw⟩:=hrel
  have HO:Hid (wr.ownsRow W.heap.size 70 1 u3 k (cells2 ys)):=hO
  have HBw:Hid (Below W.heap.size W wr):=hBw
  have cw:wr.cell? ⟨w.heap.size,0,none⟩=some (.slice A0 n cap):=(hBw.cell (p:=⟨w.heap.size,0,none⟩) hsz).trans HA.out
  have hszr:w.heap.size<wr.heap.size:=Nat.lt_of_lt_of_le hsz hBw.size
  by_cases hlt:k<n
  ·have hki:(k:Int)<(n:Int):=by omega
   obtain ⟨hcap,h0 | ⟨b,o,rfl,hMs⟩⟩:=HM.out.later (onB HB0.out hBw)
   ·omega
   have hcapI:(n:Int)≤(cap:Int):=by omega
   obtain ⟨h0,h1,h2,h3⟩:=hMs.2 k hlt
   have hbl:b<wr.heap.size:=hMs.1
   have hnd:=sneeds_any (D k) (A k) (C k) wr h3
   unfold dimV at hnd
   have hek:=HR.out k hlt
   rw [hek] at hnd
   generalize (rErr (D k)).1=z at hnd
   clear h3 hMs hBw hO hek
   go_wp2_with fail
   refine hnd.mono ?_
   rintro e w2 ⟨⟨A2,c2,xs,rfl,hV,hL,hT⟩,hb2⟩
   have HB2:Hid (Below W.heap.size W w2):=onB HBw.out hb2
   have HO2:Hid (w2.ownsRow W.heap.size 70 1 u3 k (cells2 ys)):=own_later HO.out hb2
   have HY2:Hid (∀ y∈ys,RowsV w2 y.A y.c y.xs∧RowsT w2 y.A y.xs):=fun y hy=>⟨(HY.out.2.2 y hy).1.later hb2,(HY.out.2.2 y hy).2.later hb2⟩
   have HV2:Hid (RowsV w2 A2 c2 xs∧RowsT w2 A2 xs∧lR xs=ndL (D k)):=⟨hV,hT,hL trivial⟩
   have hs2:=HB2.out.size
   obtain ⟨xl,hxl⟩:∃ xl,xs.length=xl:=⟨_,rfl⟩
   have HXl:Hid (xs.length=xl):=hxl
   rw [hxl]
   clear hb2 hnd hV hL hT hxl h0 h1 h2
   go_wp2_with (at_builtin;refine wpList_append_own _ rfl _ _ 100 rfl W.heap.size 70 i0 (.slice none 0 0) 1 24 Tryz.underlying100 hi0 hz0 hz1 hz2 rfl (by decide) _ _ _ rfl (HO2.out.alloc _) ⟨w2.heap.size,0,none⟩ 1 1 [.slice A2 xl c2] rfl rfl one_cell (by intro u hu;simp at hu;subst hu;rfl) (by unfold maxLen;omega) (by omega) (by simp;omega) ?_)
   intro v' w3 hown' hgrow _
   have HB3:Hid (Below W.heap.size W w3):=grown_own HB2.out HO2.out hgrow
   have HY3:Hid ((ys ++ [(⟨xs,A2,c2⟩:R2)]).length=k+1∧(∀ i,i<k+1→lR ((ys ++ [(⟨xs,A2,c2⟩:R2)]).getD i noR2).xs=ndL (D i))∧∀ y∈ys ++ [(⟨xs,A2,c2⟩:R2)],RowsV w3 y.A y.c y.xs∧RowsT w3 y.A y.xs):=by
    have hlen:=HY.out.1
    refine ⟨by rw [List.length_append,hlen];rfl,fun i hi=>?_,fun y hy=>?_⟩
    ·by_cases e:i=k
     ·rw [e,List.getD_eq_getElem?_getD,List.getElem?_append_right (by omega),hlen,Nat.sub_self]
      exact HV2.out.2.2
     ·rw [List.getD_eq_getElem?_getD,List.getElem?_append_left (by omega),←List.getD_eq_getElem?_getD]
      exact HY.out.2.1 i (by omega)
    ·rcases List.mem_append.1 hy with hy | hy
     ·exact ((HY2.out y hy).1.later (by go_grown)).row2 ((HY2.out y hy).2.later (by go_grown)) (HO2.out.alloc _) hgrow
     ·rw [List.mem_singleton.1 hy]
      exact (HV2.out.1.later (by go_grown)).row2 (HV2.out.2.1.later (by go_grown)) (HO2.out.alloc _) hgrow
   have HO3:Hid (w3.ownsRow W.heap.size 70 1 v' (k+1) (cells2 (ys ++ [(⟨xs,A2,c2⟩:R2)]))):=by
    show World.ownsRow ..
    rw [cells2_append]
    have e:cells2 [(⟨xs,A2,c2⟩:R2)]=[.slice A2 xl c2]:=by simp [cells2,HXl.out]
    rw [e]
    exact hown'
   clear hown' hgrow
   go_wp2_with fail
   go_roundg (n-(k+1))
   case measure=>omega
   case rel=>exact ⟨k+1,_,by omega,rfl,by go_num,HY3,HO3.out,HB3.out⟩
  ·have hke:k=n:=by omega
   subst hke
   have HF:Hid (∃ A' c',u3=.slice A' k c'∧Rows2V wr A' c' ys):=by
    have hlen:=HY.out.1
    have h:=hO
    rw [←hlen] at h
    obtain ⟨A',c',e,hv⟩:=rows2_own h fun y hy=>(HY.out.2.2 y hy).1
    rw [hlen] at e
    exact ⟨A',c',e,hv⟩
   clear hO hBw
   go_wp2_with fail
   go_ret
   obtain ⟨A',c',e,hv⟩:=HF.out
   exact ⟨⟨A',c',ys,by rw [←e];rfl,HY.out.1,hv,HY.out.2.1⟩,onB HB0.out HBw.out⟩
end Go.Proofs.YtigkeokacagabafGreatDoor
