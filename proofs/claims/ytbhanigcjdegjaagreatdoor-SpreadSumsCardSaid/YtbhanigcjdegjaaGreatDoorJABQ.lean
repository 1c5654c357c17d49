/-
  numbers: what is written at places.
-/
import Derived.Maps.AppendAt
import Derived.Sort.Walk0
import Derived.WalkSpells
import Derived.WalkLawsBesides
import Derived.Test.YtbhanigcjdegjaaGreatDoorShelfG
import Derived.Laws.Cover1
import Derived.BigRegion
import Derived.OneCell
import Derived.Test.YtbhanigcjdegjaaGreatDoorJABJ
import Derived.Test.YtbhanigcjdegjaaGreatDoorJABO
import Derived.Test.YtbhanigcjdegjaaGreatDoorJABP
namespace Go.Proofs.YtbhanigcjdegjaaGreatDoor
open Go Go.ChangeShapes Go.WideShapes Go.ChangeAt Go.RowKit Go.Shelf Go.Lib Go.Sort
set_option maxRecDepth 100000
def wnV (D:Nat→Dm) (n:Nat) (L:List (Int×Int)) (q:List Int):Int:=(L.getD (numI D q n).toNat noC).2
def wnTo (D:Nat→Dm) (n:Nat) (L:List (Int×Int)) (P:List (List Int)) (k:Nat):List Int:=(List.range P.length).map fun i=>if i<k then wnV D n L (P.getD i []) else 0
theorem wnTo_len (D:Nat→Dm) (n:Nat) (L:List (Int×Int)) (P:List (List Int)) (k:Nat):(wnTo D n L P k).length=P.length:=by simp [wnTo]
theorem wnTo_zero (D:Nat→Dm) (n:Nat) (L:List (Int×Int)) (P:List (List Int)):wnTo D n L P 0=List.replicate P.length 0:=by
 refine List.ext_getElem (by simp [wnTo]) fun _ _ _=>?_
 simp [wnTo]
theorem wnTo_all (D:Nat→Dm) (n:Nat) (L:List (Int×Int)) (P:List (List Int)):wnTo D n L P P.length=P.map (wnV D n L):=by
 refine List.ext_getElem (by simp [wnTo]) fun i h1 h2=>?_
 rw [wnTo_len] at h1
 simp [wnTo,h1]
theorem wnTo_set (D:Nat→Dm) (n:Nat) (L:List (Int×Int)) (P:List (List Int)) (k:Nat):(wnTo D n L P k).set k (wnV D n L (P.getD k []))=wnTo D n L P (k+1):=by
 refine List.ext_getElem (by simp [wnTo]) fun i h1 h2=>?_
 rw [List.getElem_set]
 by_cases e:k=i
 ·subst e
  simp [wnTo]
 ·rw [if_neg e]
  simp only [wnTo,List.getElem_map,List.getElem_range]
  by_cases h3:i<k
  ·rw [if_pos h3,if_pos (by omega)]
  ·rw [if_neg h3,if_neg (by omega)]
set_option maxHeartbeats 8000000 in
theorem snumbers_any (A0:Option Addr) (cap n:Nat) (D:Nat→Dm) (A:Nat→Option Addr) (C:Nat→Nat) (Ac:Option Addr) (cc:Nat) (L:List (Int×Int)) (Ay:Option Addr) (cy:Nat) (ys:List PL) (w:World) (hR:(allErr D n).2.2=0) (hM:DimsV w A0 cap n D A C) (hC:CelV w Ac cc L) (hLl:L.length=prodN D n) (hY:PlsV w Ay cy ys)
  (hin:∀ y∈ys,InO D n y.p) (hys:ys.length≤3000) :
  Calls Tryz.prog 18 #[.agg #[.slice A0 n cap],.slice Ac L.length cc,.slice Ay ys.length cy] w fun e w'=>(∃ g,e=.returned (.tuple #[.slice (some ⟨g,0,none⟩) ys.length ys.length,.nilIface])∧IntB w' g ((lP ys).map (wnV D n L)))∧Below w.heap.size w w':=by
 obtain ⟨k,hk⟩:∃ k,ys.length=k:=⟨_,rfl⟩
 obtain ⟨lc,hlc⟩:∃ lc,L.length=lc:=⟨_,rfl⟩
 have hlc3:lc≤3000:=by have:=(allErr_some hR).2.2.1;omega
 have hmk:=run_make_row' (P:=Tryz.prog) 22 3 (.int .i64 0) 8 Tryz.underlying22 Tryz.infoInt rfl .i64 .i64 k (by omega) (by omega)
 obtain ⟨W,hW⟩:∃ W,(w.alloc (.cells #[.slice A0 n cap] 25)).alloc (.cells (madeCells #[.int .i64 0] k) 3)=W:=⟨_,rfl⟩
 have hB0:Below w.heap.size w W:=by rw [←hW];go_grown
 have hg:IntB W (w.heap.size+1) (wnTo D n L (lP ys) 0):=by
  rw [wnTo_zero,lP_len,hk,←hW]
  have:=IntB.made (w.alloc (.cells #[.slice A0 n cap] 25)) k
  simpa using this
 have hA:W.cell? ⟨w.heap.size,0,none⟩=some (.slice A0 n cap):=by
  rw [←hW];simp
 have HK:Hid (ys.length=k∧L.length=lc∧(lP ys).length=k):=⟨hk,hlc,by rw [lP_len,hk]⟩
 have HNm:Hid (∀ (j:Nat) (w':World),j<k→Below w.heap.size w w'→Calls Tryz.prog 34 #[.agg #[.slice A0 n cap],.slice (ys.getD j noP).A (ys.getD j noP).p.length (ys.getD j noP).c] w' fun e w''=>e=.returned (.tuple #[.int .i64 ((numI D (ys.getD j noP).p n).toNat:Nat),.nilIface])∧Below w'.heap.size w' w''):=fun j w' hj hB=>by
  have hm:ys.getD j noP∈ys:=pl_mem (by omega)
  have hi:=hin _ hm
  have:=pnumber_any A0 cap n D A C _ _ _ w' (hM.later hB) ((hY.2.2 _ hm).pl.later hB)
  rw [hi.ok] at this
  have e:numV D n (ys.getD j noP).p=((numI D (ys.getD j noP).p n).toNat:Int):=by
   unfold numV;rw [if_pos hi.ok];have:=(numI_bound hi (Nat.le_refl n)).1;omega
  rw [e] at this
  exact this
 have HNb:Hid (∀ j,j<k→(numI D (ys.getD j noP).p n).toNat<lc):=fun j hj=>by
  have hjy:j<ys.length:=by omega
  have:=numI_bound (hin _ (pl_mem hjy)) (Nat.le_refl n);omega
 have HY:Hid (PlsV w Ay cy ys):=hY
 have HC:Hid (CelV w Ac cc L):=hC
 have HB0:Hid (Below w.heap.size w W):=hB0
 have hkI:(k:Int)≤3000:=by omega
 have hgI:Hid (IntB W (w.heap.size+1) (wnTo D n L (lP ys) 0)):=hg
 rw [hk,hlc]
 clear hM hY hC hR hLl hin hk hlc hB0 hg
 have l0:w.heap.size<W.heap.size:=by rw [←hW];simp;omega
 go_enter Tryz.func18,Tryz.ntmps18
 go_upto_region 2 with fail
 clear hW
 go_wp2_with fail
 go_loopg [9,10,11,12,18] k (fun gg s9 s10 s11 s12 s18 wr => ∃ (j:Nat),(∃ x,x=s9)∧(∃ x,x=s10)∧(∃ x,x=s11)∧(∃ x,x=s12)∧j≤k∧gg=k-j∧s18=.int .i64 j∧wr.cell? ⟨w.heap.size,0,none⟩=some (.slice A0 n cap)∧w.heap.size<wr.heap.size∧Hid (IntB wr (w.heap.size+1) (wnTo D n L (lP ys) j))∧Hid (Below w.heap.size w wr))
 case atStart=>exact ⟨0,⟨_,rfl⟩,⟨_,rfl⟩,⟨_,rfl⟩,⟨_,rfl⟩,Nat.zero_le _,rfl,rfl,hA,l0,hgI,HB0⟩
 case round =>
  clear hA l0 HB0 hgI
  obtain ⟨j,⟨v9,rfl⟩,⟨v10,rfl⟩,⟨v11,rfl⟩,⟨v12,rfl⟩,hjk,rfl,rfl,hA,l0,HI,HB⟩:=hrel
  by_cases hlt:j<k
  ·have hjI:(j:Int)<(k:Int):=by omega
   obtain ⟨-,hy0 | ⟨b,o,rfl,hb,hX⟩,-⟩:=HY.out
   ·have:=HK.out.1;rw [hy0] at this;simp at this;omega
   have c1:wr.cell? ⟨b,o+j,none⟩=some (.slice (ys.getD j noP).A (ys.getD j noP).p.length (ys.getD j noP).c):=by rw [HB.out.cell (by exact hb)];exact hX j (by rw [HK.out.1];exact hlt)
   have hc:=HNm.out j wr hlt HB.out
   have hnb:=HNb.out j hlt
   have hst:=wnTo_set D n L (lP ys) j
   rw [lP_at] at hst
   have hv:wnV D n L (ys.getD j noP).p=(L.getD (numI D (ys.getD j noP).p n).toNat noC).2:=rfl
   obtain ⟨u,hu⟩:∃ u,(numI D (ys.getD j noP).p n).toNat=u:=⟨_,rfl⟩
   rw [hu] at hc hnb hv
   rw [hv] at hst
   obtain ⟨-,-,hc0 | ⟨bc,oc,rfl,hbc,hXc⟩⟩:=HC.out
   ·have:=HK.out.2.1;rw [hc0] at this;simp at this;omega
   have c2:=(hXc u (by rw [HK.out.2.1];exact hnb)).2
   obtain ⟨x,hx⟩:∃ x,(L.getD u noC).2=x:=⟨_,rfl⟩
   rw [hx] at c2 hst
   generalize (ys.getD j noP).p.length=lq at c1 hc
   generalize (ys.getD j noP).A=Aq at c1 hc
   generalize (ys.getD j noP).c=cq at c1 hc
   have huI:(u:Int)<(lc:Int):=by omega
   have HST:=hid_of hst
   clear hst hv hu hx hX hXc hnb
   go_wp2_with fail
   refine hc.mono ?_
   rintro e w2 ⟨rfl,hb2⟩
   have hA2:w2.cell? ⟨w.heap.size,0,none⟩=some (.slice A0 n cap):=(hb2.cell l0).trans hA
   have l2:w.heap.size<w2.heap.size:=Nat.lt_of_lt_of_le l0 hb2.size
   have HB2:Hid (Below w.heap.size w w2):=onB HB.out hb2
   have hI2:IntB w2 (w.heap.size+1) (wnTo D n L (lP ys) j):=HI.out.later hb2
   have c3:w2.cell? ⟨bc,oc+u*2+1,none⟩=some (.int .i64 x):=by rw [HB2.out.cell (by exact hbc)];exact c2
   have c4:=hI2.cell (j:=j) (by rw [wnTo_len,HK.out.2.2];exact hlt)
   have f4:=hI2.frozen j
   have HI3:Hid (IntB (w2.setCell ⟨w.heap.size+1,j,none⟩ (.int .i64 x)) (w.heap.size+1) (wnTo D n L (lP ys) (j+1))):=by
    show IntB ..
    rw [←HST.out];exact hI2.set j x
   have HB3:Hid (Below w.heap.size w (w2.setCell ⟨w.heap.size+1,j,none⟩ (.int .i64 x))):=HB2.out.setCell (by show _≤w.heap.size+1;omega) _
   have hA3:(w2.setCell ⟨w.heap.size+1,j,none⟩ (.int .i64 x)).cell? ⟨w.heap.size,0,none⟩=some (.slice A0 n cap):=(World.cell?_of_block (w:=w2) (a:=⟨w.heap.size,0,none⟩) (setCell_off _ _ _ _ _ (by show w.heap.size≠w.heap.size+1;omega))).trans hA2
   have l3:w.heap.size<(w2.setCell ⟨w.heap.size+1,j,none⟩ (.int .i64 x)).heap.size:=by simpa using l2
   clear hb2 hc c1 c2 hA l0 HB HI hI2 HB2
   go_wp2_with fail
   go_roundg (k-(j+1))
   case measure=>omega
   case rel=>exact ⟨j+1,⟨_,rfl⟩,⟨_,rfl⟩,⟨_,rfl⟩,⟨_,rfl⟩,by omega,rfl,by go_num,hA3,l3,HI3,HB3⟩
  ·have hje:j=k:=by omega
   subst hje
   have HF:Hid (IntB wr (w.heap.size+1) ((lP ys).map (wnV D n L))):=by
    have:=HI.out
    rw [←wnTo_all,HK.out.2.2];exact this
   go_wp2_with fail
   go_ret2
   exact ⟨⟨_,rfl,HF.out⟩,HB.out⟩
end Go.Proofs.YtbhanigcjdegjaaGreatDoor
namespace Go.Proofs.YtbhanigcjdegjaaGreatDoor
open Go.ChangeShapes Go.WideShapes Go.ChangeAt Go.RowKit
set_option maxRecDepth 20000
theorem rcheck_any (d:Dm) (A:Option Addr) (cap:Nat) (w:World) (hM:MemsV w A cap d.n d.mem):Calls Tryz.prog 32 #[dimV d A cap] w fun e w'=>e=.returned (.tuple #[.int .i64 (rErr d).1,errV (rErr d).2])∧Below w.heap.size w w':=by
 have hB0:=ownDim_below w d A cap 76
 have hn:=rneeds_any d A cap (ownDim w d A cap 76) (hM.later hB0)
 obtain ⟨d0,d1,d2,hqW⟩:=dim_cells (w:=w) (d:=d) (A:=A) (cap:=cap) (Below.refl _ _)
 have HB0:Hid (Below w.heap.size w (ownDim w d A cap 76)):=hB0
 unfold dimV at hn ⊢
 obtain ⟨W,hW⟩:∃ W,ownDim w d A cap 76=W:=⟨_,rfl⟩
 rw [hW] at d0 d1 d2 hqW HB0 hn
 unfold ownDim at hW
 generalize errV (rErr d).2=ev at hn ⊢
 generalize (rErr d).1=x at hn ⊢
 clear hM hB0
 go_enter Tryz.func32,Tryz.ntmps32
 go_wp2_with fail
 refine hn.mono ?_
 rintro e w1 ⟨⟨A1,c1,xs,rfl,-⟩,hb1⟩
 go_wp2_with fail
 go_ret2
 exact ⟨rfl,onB HB0.out hb1⟩
noncomputable def badD (D:Nat→Dm) (i:Nat):Bool:=decide ((rErr (D i)).2≠0)
noncomputable def ruErr (D:Nat→Dm) (n:Nat):Int×Int×Int :=
 if (allErr D n).2.2≠0 then allErr D n
 else if 0≤findFrom (badD D) n 0 then (findFrom (badD D) n 0,rErr (D (findFrom (badD D) n 0).toNat))
 else (-1,-1,0)
theorem ru0 {D:Nat→Dm} {n:Nat} (h:(allErr D n).2.2≠0):ruErr D n=allErr D n:=by unfold ruErr;rw [if_pos h]
theorem ru1 {D:Nat→Dm} {n i:Nat} (h:(allErr D n).2.2=0) (hi:i<n) (hb:(rErr (D i)).2≠0) (hf:∀ j,j<i→(rErr (D j)).2=0):ruErr D n=((i:Int),(rErr (D i)).1,(rErr (D i)).2):=by
 have e:findFrom (badD D) n 0=(i:Int):=findFrom_at (Nat.zero_le _) (by omega) (decide_eq_true hb) fun j _ hj=>decide_eq_false (by simpa using hf j hj)
 unfold ruErr
 rw [if_neg (by simpa using h),e,if_pos (by omega),Int.toNat_natCast]
theorem ru2 {D:Nat→Dm} {n:Nat} (h:(allErr D n).2.2=0) (hf:∀ j,j<n→(rErr (D j)).2=0):ruErr D n=(-1,-1,0):=by
 unfold ruErr
 rw [if_neg (by simpa using h),findFrom_none (p:=badD D) fun j _ hj=>decide_eq_false (by simpa using hf j (by omega)),if_neg (by omega)]
set_option maxHeartbeats 4000000 in
theorem rulall_any (A0:Option Addr) (cap n:Nat) (D:Nat→Dm) (A:Nat→Option Addr) (C:Nat→Nat) (w:World) (hM:DimsV w A0 cap n D A C):Calls Tryz.prog 14 #[.agg #[.slice A0 n cap]] w fun e w'=>e=.returned (.tuple #[.int .i64 (ruErr D n).1,.int .i64 (ruErr D n).2.1,errV (ruErr D n).2.2])∧Below w.heap.size w w':=by
 have hB0:=ownOut_below w A0 n cap 25
 have hS:=ownOut_size w A0 n cap 25
 have hA:=ownOut_at w A0 n cap 25
 have hal:=all_any A0 cap n D A C (ownOut w A0 n cap 25) (hM.later hB0)
 obtain ⟨W,hW⟩:∃ W,ownOut w A0 n cap 25=W:=⟨_,rfl⟩
 rw [hW] at hB0 hS hA hal
 unfold ownOut at hW
 have HB0:Hid (Below w.heap.size w W):=hB0
 have HM:Hid (DimsV w A0 cap n D A C):=hM
 have hsz:w.heap.size<W.heap.size:=by omega
 clear hM hB0
 by_cases he:(allErr D n).2.2=0
 case neg =>
  rw [ru0 he]
  rw [errV_some he] at hal ⊢
  generalize (allErr D n).1=x at hal ⊢
  generalize (allErr D n).2.1=y at hal ⊢
  generalize (allErr D n).2.2=c at hal ⊢
  clear he
  go_enter Tryz.func14,Tryz.ntmps14
  go_wp2_with fail
  refine hal.mono ?_
  rintro e w1 ⟨rfl,hb1⟩
  go_wp2_with fail
  go_returns
  exact ⟨rfl,onB HB0.out hb1⟩
 obtain ⟨hn1,hn4,-,-⟩:=allErr_some he
 have HE:Hid ((allErr D n).2.2=0):=he
 rw [he,errV_zero] at hal
 generalize (allErr D n).1=x at hal
 generalize (allErr D n).2.1=y at hal
 have hnI:(n:Int)≤4:=by omega
 have HA:Hid (W.cell? ⟨w.heap.size,0,none⟩=some (.slice A0 n cap)):=hA
 clear he
 go_enter Tryz.func14,Tryz.ntmps14
 go_wp2_with fail
 refine hal.mono ?_
 rintro e w1 ⟨rfl,hb1⟩
 have HB1:Hid (Below W.heap.size W w1):=hb1
 have c1:w1.cell? ⟨w.heap.size,0,none⟩=some (.slice A0 n cap):=(hb1.cell (p:=⟨w.heap.size,0,none⟩) hsz).trans hA
 have hsz1:w.heap.size<w1.heap.size:=Nat.lt_of_lt_of_le hsz hb1.size
 clear hb1 hal hA hW
 go_wp2_with fail
 go_loopg [26] n (fun g s26 wr => ∃ (k:Nat),k≤n∧g=n-k∧s26=.int .i64 k∧Hid (∀ j,j<k→(rErr (D j)).2=0)∧Below W.heap.size W wr)
 case atStart=>exact ⟨0,Nat.zero_le _,rfl,rfl,(fun j hj=>absurd hj (Nat.not_lt_zero _):∀ j,j<0→_),HB1.out⟩
 case round =>
  obtain ⟨k,hk,rfl,rfl,HK,hBw⟩:=hrel
  have HBw:Hid (Below W.heap.size W wr):=hBw
  by_cases hlt:k<n
  ·have hki:(k:Int)<(n:Int):=by omega
   obtain ⟨hcap,h0 | ⟨b,o,rfl,hMs⟩⟩:=HM.out.later (onB HB0.out hBw)
   ·omega
   have hcapI:(n:Int)≤(cap:Int):=by omega
   obtain ⟨h0,h1,h2,h3⟩:=hMs.2 k hlt
   have hbl:b<wr.heap.size:=hMs.1
   have hBo:=ownDim_below wr (D k) (A k) (C k) 76
   have hck:=rcheck_any (D k) (A k) (C k) (ownDim wr (D k) (A k) (C k) 76) (h3.later hBo)
   obtain ⟨d0,d1,d2,hqW⟩:=dim_cells (w:=wr) (d:=D k) (A:=A k) (cap:=C k) (Below.refl _ _)
   have HBo:Hid (Below wr.heap.size wr (ownDim wr (D k) (A k) (C k) 76)):=hBo
   unfold dimV at hck
   obtain ⟨W2,hW2⟩:∃ W2,ownDim wr (D k) (A k) (C k) 76=W2:=⟨_,rfl⟩
   rw [hW2] at d0 d1 d2 hqW HBo hck
   unfold ownDim at hW2
   clear h3 hMs hBo hBw
   by_cases he:(rErr (D k)).2=0
   ·rw [he,errV_zero] at hck
    have HK2:Hid (∀ j,j<k+1→(rErr (D j)).2=0):=fun j hj=>by
     by_cases e:j=k
     ·rw [e];exact he
     ·exact HK.out j (by omega)
    generalize (rErr (D k)).1=z at hck
    clear he
    go_wp2_with fail
    refine hck.mono ?_
    rintro e w2 ⟨rfl,hb2⟩
    have HB2:Hid (Below W.heap.size W w2):=onB HBw.out (onB HBo.out hb2)
    clear hb2 hck
    go_wp2_with fail
    go_roundg (n-(k+1))
    case measure=>omega
    case rel=>exact ⟨k+1,by omega,rfl,by go_num,HK2,HB2.out⟩
   ·have HRu:Hid (ruErr D n=((k:Int),(rErr (D k)).1,(rErr (D k)).2)):=ru1 HE.out hlt he HK.out
    have HEe:Hid ((rErr (D k)).2≠0):=he
    rw [errV_some he] at hck
    generalize (rErr (D k)).1=z at hck HRu
    generalize (rErr (D k)).2=c at hck HRu HEe
    clear he
    go_wp2_with fail
    refine hck.mono ?_
    rintro e w2 ⟨rfl,hb2⟩
    have HB2:Hid (Below W.heap.size W w2):=onB HBw.out (onB HBo.out hb2)
    clear hb2 hck
    go_wp2_with fail
    go_returns
    rw [HRu.out]
    exact ⟨by rw [errV_some HEe.out];rfl,onB HB0.out HB2.out⟩
  ·have hke:k=n:=by omega
   subst hke
   have HRu:Hid (ruErr D k=(-1,-1,0)):=ru2 HE.out HK.out
   clear hBw
   go_wp2_with fail
   go_returns
   rw [HRu.out]
   exact ⟨rfl,onB HB0.out HBw.out⟩
structure R2 where
 xs:List RL
 A:Option Addr
 c:Nat
theorem roll_set {D:Nat→Dm} {n:Nat} {l:List En} {q:List Int} (p:List Int) (x:Int) (hc:∀ y,cntR D n p ⟨q,y⟩=true):rollN D n p (setL l q x)=rollN D n p l-pwTo D p q n*(getE l q).2+pwTo D p q n*x∧(setL l q x).any (cntR D n p)=true:=by
 have hany:(setL l q x).any (cntR D n p)=true:=by
  unfold setL
  rw [List.any_append,List.any_cons,hc x]
  simp
 refine ⟨?_,hany⟩
 cases hh:hasE l q with
 | false =>
  have h1:=(roll_more hh p x).1 (hc x)
  have h2:rollN D n p (setL l q x)=(rollV D n l p).2+pwTo D p q n*x:=congrArg Prod.snd h1
  have h3:(getE l q).2=0:=by
   unfold getE
   unfold hasE at hh
   cases hd:l.drop (cntE l q) with
   | nil=>rfl
   | cons e r =>
    rw [hd] at hh
    simp only [Bool.not_eq_false'] at hh
    simp only [hh,if_true]
  rw [h2,h3]
  show rollN D n p l+_=_
  omega
 | true =>
  cases hd:l.drop (cntE l q) with
  | nil=>unfold hasE at hh;rw [hd] at hh;cases hh
  | cons e r =>
   have hle:lessL q e.pl=false:=by unfold hasE at hh;rw [hd] at hh;simpa using hh
   have hg:getE l q=(1,e.n):=by unfold getE;rw [hd];simp only [hle];rfl
   have hep:e.pl=q:=by
    have h5:(l.dropWhile fun e=>lessL e.pl q)=e :: r:=by rw [←drop_while];exact hd
    have h6:=List.head?_dropWhile_not (fun e:En=>lessL e.pl q) l
    rw [h5] at h6
    exact lessL_eq (by simpa using h6) hle
   have e1:setL l q x=l.take (cntE l q) ++ ⟨q,x⟩ :: r:=by
    unfold setL
    rw [hh,if_pos rfl,←List.drop_drop,hd]
    rfl
   have e2:l=l.take (cntE l q) ++ e :: r:=by rw [←hd];exact (List.take_append_drop _ _).symm
   have hee:e=⟨q,e.n⟩:=by rw [←hep]
   have hv:∀ y,rollN D n p (⟨q,y⟩ :: r)=rollN D n p r+pwTo D p q n*y:=fun y=>by
    rw [rollN,if_pos (hc y)]
    unfold valR
    exact Int.add_comm _ _
   rw [e1,rollN_append,hv,hg]
   conv=>rhs;rw [e2,rollN_append,hee,hv]
   show rollN D n p (l.take (cntE l q))+(rollN D n p r+pwTo D p q n*x)=rollN D n p (l.take (cntE l q))+(rollN D n p r+pwTo D p q n*e.n)-pwTo D p q n*e.n+pwTo D p q n*x
   generalize pwTo D p q n*x=u
   generalize pwTo D p q n*e.n=v
   omega
end Go.Proofs.YtbhanigcjdegjaaGreatDoor
