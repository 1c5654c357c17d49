/-
  By which dim a place is told, as the document tells it, in whatever memory.
-/
import Derived.WalkSpells
import Derived.WalkLawsBesides
import Derived.Maps.AppendAt
import Derived.Deep.CutRange
import Derived.Deep.RegionHeld
import Derived.Test.YtfngmnhkhfgmjagGreatDoorJAAY
import Derived.Test.YtfngmnhkhfgmjagGreatDoorJAAZ
namespace Go.Proofs.YtfngmnhkhfgmjagGreatDoor
open Go.ChangeShapes Go.WideShapes Go.ChangeAt Go.RowKit
set_option maxRecDepth 20000
theorem by_hit {D:Nat→Dm} {p:List Int} {k:Nat} (h1:leafB (D k).mem (D k).n (p.getD k 0).toNat=false) (h2:byTo D p k<0∨(D (byTo D p k).toNat).solve<(D k).solve):byTo D p (k+1)=(k:Int):=by rw [byTo,if_pos ⟨h1,h2⟩]
theorem by_miss {D:Nat→Dm} {p:List Int} {k:Nat} (h : ¬ (leafB (D k).mem (D k).n (p.getD k 0).toNat=false∧(byTo D p k<0∨(D (byTo D p k).toNat).solve<(D k).solve))):byTo D p (k+1)=byTo D p k:=by rw [byTo,if_neg h]
noncomputable def badD (D:Nat→Dm) (i:Nat):Bool:=decide ((rErr (D i)).2≠0)
noncomputable def ruErr (D:Nat→Dm) (n:Nat):Int×Int×Int :=
 if (allErr D n).2.2≠0 then allErr D n
 else if 0≤findFrom (badD D) n 0 then (findFrom (badD D) n 0,rErr (D (findFrom (badD D) n 0).toNat))
 else (-1,-1,0)
theorem ru0 {D:Nat→Dm} {n:Nat} (h:(allErr D n).2.2≠0):ruErr D n=allErr D n:=by unfold ruErr;rw [if_pos h]
theorem ru1 {D:Nat→Dm} {n i:Nat} (h:(allErr D n).2.2=0) (hi:i<n) (hb:(rErr (D i)).2≠0) (hf:∀ j,j<i→(rErr (D j)).2=0):ruErr D n=((i:Int),(rErr (D i)).1,(rErr (D i)).2):=by
 have e:findFrom (badD D) n 0=(i:Int):=findFrom_at (Nat.zero_le _) (by omega) (decide_eq_true hb) fun j _ hj=>decide_eq_false (by simpa using hf j hj)
 unfold ruErr
 rw [if_neg (by simpa using h),e,if_pos (by omega),Int.toNat_natCast]
theorem ru2 {D:Nat→Dm} {n:Nat} (h:(allErr D n).2.2=0) (hf:∀ j,j<n→(rErr (D j)).2=0):ruErr D n=(-1,-1,0):=by
 unfold ruErr
 rw [if_neg (by simpa using h),findFrom_none (p:=badD D) fun j _ hj=>decide_eq_false (by simpa using hf j (by omega)),if_neg (by omega)]
set_option maxHeartbeats 4000000 in
theorem rulall_any (A0:Option Addr) (cap n:Nat) (D:Nat→Dm) (A:Nat→Option Addr) (C:Nat→Nat) (w:World) (hM:DimsV w A0 cap n D A C):Calls Tryz.prog 76 #[.agg #[.slice A0 n cap]] w fun e w'=>e=.returned (.tuple #[.int .i64 (ruErr D n).1,.int .i64 (ruErr D n).2.1,errV (ruErr D n).2.2])∧Below w.heap.size w w':=by
 have hB0:=ownOut_below w A0 n cap 29
 have hS:=ownOut_size w A0 n cap 29
 have hA:=ownOut_at w A0 n cap 29
 have hal:=all_any A0 cap n D A C (ownOut w A0 n cap 29) (hM.later hB0)
 obtain ⟨W,hW⟩:∃ W,ownOut w A0 n cap 29=W:=⟨_,rfl⟩
 rw [hW] at hB0 hS hA hal
 unfold ownOut at hW
 have HB0:Hid (Below w.heap.size w W):=hB0
 have HM:Hid (DimsV w A0 cap n D A C):=hM
 have hsz:w.heap.size<W.heap.size:=by omega
 clear hM hB0
 by_cases he:(allErr D n).2.2=0
 case neg =>
  rw [ru0 he]
  rw [errV_some he] at hal ⊢
  generalize (allErr D n).1=x at hal ⊢
  generalize (allErr D n).2.1=y at hal ⊢
  generalize (allErr D n).2.2=c at hal ⊢
  clear he
  go_enter Tryz.func76,Tryz.ntmps76
  go_wp2_with fail
  refine hal.mono ?_
  rintro e w1 ⟨rfl,hb1⟩
  go_wp2_with fail
  go_returns
  exact ⟨rfl,onB HB0.out hb1⟩
 obtain ⟨hn1,hn4,-,-⟩:=allErr_some he
 have HE:Hid ((allErr D n).2.2=0):=he
 rw [he,errV_zero] at hal
 generalize (allErr D n).1=x at hal
 generalize (allErr D n).2.1=y at hal
 have hnI:(n:Int)≤4:=by omega
 have HA:Hid (W.cell? ⟨w.heap.size,0,none⟩=some (.slice A0 n cap)):=hA
 clear he
 go_enter Tryz.func76,Tryz.ntmps76
 go_wp2_with fail
 refine hal.mono ?_
 rintro e w1 ⟨rfl,hb1⟩
 have HB1:Hid (Below W.heap.size W w1):=hb1
 have c1:w1.cell? ⟨w.heap.size,0,none⟩=some (.slice A0 n cap):=(hb1.cell (p:=⟨w.heap.size,0,none⟩) hsz).trans hA
 have hsz1:w.heap.size<w1.heap.size:=Nat.lt_of_lt_of_le hsz hb1.size
 clear hb1 hal hA hW
 go_wp2_with fail
 go_loopg [26] n (fun g s26 wr => ∃ (k:Nat),k≤n∧g=n-k∧s26=.int .i64 k∧Hid (∀ j,j<k→(rErr (D j)).2=0)∧Below W.heap.size W wr)
 case atStart=>exact ⟨0,Nat.zero_le _,rfl,rfl,(fun j hj=>absurd hj (Nat.not_lt_zero _):∀ j,j<0→_),HB1.out⟩
 case round =>
  obtain ⟨k,hk,rfl,rfl,HK,hBw⟩:=hrel
  have HBw:Hid (Below W.heap.size W wr):=hBw
  by_cases hlt:k<n
  ·have hki:(k:Int)<(n:Int):=by omega
   obtain ⟨hcap,h0 | ⟨b,o,rfl,hMs⟩⟩:=HM.out.later (onB HB0.out hBw)
   ·omega
   have hcapI:(n:Int)≤(cap:Int):=by omega
   obtain ⟨h0,h1,h2,h3⟩:=hMs.2 k hlt
   have hbl:b<wr.heap.size:=hMs.1
   have hBo:=ownDim_below wr (D k) (A k) (C k) 43
   have hck:=rcheck_any (D k) (A k) (C k) (ownDim wr (D k) (A k) (C k) 43) (h3.later hBo)
   obtain ⟨d0,d1,d2,hqW⟩:=dim_cells (w:=wr) (d:=D k) (A:=A k) (cap:=C k) (Below.refl _ _)
   have HBo:Hid (Below wr.heap.size wr (ownDim wr (D k) (A k) (C k) 43)):=hBo
   unfold dimV at hck
   obtain ⟨W2,hW2⟩:∃ W2,ownDim wr (D k) (A k) (C k) 43=W2:=⟨_,rfl⟩
   rw [hW2] at d0 d1 d2 hqW HBo hck
   unfold ownDim at hW2
   clear h3 hMs hBo hBw
   by_cases he:(rErr (D k)).2=0
   ·rw [he,errV_zero] at hck
    have HK2:Hid (∀ j,j<k+1→(rErr (D j)).2=0):=fun j hj=>by
     by_cases e:j=k
     ·rw [e];exact he
     ·exact HK.out j (by omega)
    generalize (rErr (D k)).1=z at hck
    clear he
    go_wp2_with fail
    refine hck.mono ?_
    rintro e w2 ⟨rfl,hb2⟩
    have HB2:Hid (Below W.heap.size W w2):=onB HBw.out (onB HBo.out hb2)
    clear hb2 hck
    go_wp2_with fail
    go_roundg (n-(k+1))
    case measure=>omega
    case rel=>exact ⟨k+1,by omega,rfl,by go_num,HK2,HB2.out⟩
   ·have HRu:Hid (ruErr D n=((k:Int),(rErr (D k)).1,(rErr (D k)).2)):=ru1 HE.out hlt he HK.out
    have HEe:Hid ((rErr (D k)).2≠0):=he
    rw [errV_some he] at hck
    generalize (rErr (D k)).1=z at hck HRu
    generalize (rErr (D k)).2=c at hck HRu HEe
    clear he
    go_wp2_with fail
    refine hck.mono ?_
    rintro e w2 ⟨rfl,hb2⟩
    have HB2:Hid (Below W.heap.size W w2):=onB HBw.out (onB HBo.out hb2)
    clear hb2 hck
    go_wp2_with fail
    go_returns
    rw [HRu.out]
    exact ⟨by rw [errV_some HEe.out];rfl,onB HB0.out HB2.out⟩
  ·have hke:k=n:=by omega
   subst hke
   have HRu:Hid (ruErr D k=(-1,-1,0)):=ru2 HE.out HK.out
   clear hBw
   go_wp2_with fail
   go_returns
   rw [HRu.out]
   exact ⟨rfl,onB HB0.out HBw.out⟩
noncomputable def cuErr (D:Nat→Dm) (n:Nat) (l:List En):Int:=if (ruErr D n).2.2≠0 then (ruErr D n).2.2 else entsErr D n l
end Go.Proofs.YtfngmnhkhfgmjagGreatDoor
namespace Go.Proofs.YtfngmnhkhfgmjagGreatDoor
open Go Go.ChangeShapes Go.WideShapes Go.ChangeAt Go.RowKit
set_option maxRecDepth 20000
def rwL (D:Nat→Dm) (n:Nat) (l:List En) (m:Nat):List (Int×Int):=(List.range m).map fun x=>getE l (placeL D n x)
theorem rwL_len (D:Nat→Dm) (n:Nat) (l:List En) (m:Nat):(rwL D n l m).length=m:=by simp [rwL]
theorem wr_none {D:Nat→Dm} {n x:Nat}:∀ (l:List En) (L:List (Int×Int)),(∀ e∈l,InO D n e.pl)→L.length=prodN D n→(∀ e∈l,(numI D e.pl n).toNat≠x)→(l.foldl (wrStep D n) L).getD x (0,0)=L.getD x (0,0)
 | [],_,_,_,_=>rfl
 | e :: r,L,hi,hL,h=>by
  obtain ⟨h1,h2,-⟩:=numI_bound (hi e (List.mem_cons_self ..)) (Nat.le_refl n)
  rw [List.foldl_cons,wr_none r _ (fun y hy=>hi y (List.mem_cons_of_mem _ hy)) (by unfold wrStep;rw [List.length_set];exact hL) fun y hy=>h y (List.mem_cons_of_mem _ hy)]
  unfold wrStep
  have:=h e (List.mem_cons_self ..)
  simp [List.getD,List.getElem?_set_ne this]
theorem wr_some {D:Nat→Dm} {n:Nat} {e:En}:∀ (l:List En) (L:List (Int×Int)),(∀ y∈l,InO D n y.pl)→(l.Pairwise fun a b=>lessL a.pl b.pl=true)→L.length=prodN D n→e∈l→(l.foldl (wrStep D n) L).getD (numI D e.pl n).toNat (0,0)=(1,e.n)
 | [],_,_,_,_,h=>by cases h
 | y :: r,L,hi,hr,hL,h=>by
  have hr':=List.pairwise_cons.1 hr
  have hiy:=hi y (List.mem_cons_self ..)
  have hir:=fun z hz=>hi z (List.mem_cons_of_mem y hz)
  obtain ⟨h1,h2,-⟩:=numI_bound hiy (Nat.le_refl n)
  rw [List.foldl_cons]
  have hL':(wrStep D n L y).length=prodN D n:=by unfold wrStep;rw [List.length_set];exact hL
  rcases List.mem_cons.1 h with rfl | h
  ·rw [wr_none r _ hir hL' fun z hz=>by
    have h3:=less_num hiy (hir z hz) (hr'.1 z hz)
    obtain ⟨h4,-,-⟩:=numI_bound (hir z hz) (Nat.le_refl n)
    omega]
   unfold wrStep
   have:(numI D e.pl n).toNat<L.length:=by omega
   simp [List.getD,this]
  ·exact wr_some r _ hir hr'.2 hL' h
theorem wr_rwL {D:Nat→Dm} {n:Nat} {l:List En} (h:Ens D n l):wrV D n l=rwL D n l (prodN D n):=by
 apply List.ext_getElem (by rw [wrV_len,rwL_len])
 intro x h1 h2
 rw [wrV_len] at h1
 have e1:(wrV D n l).getD x (0,0)=getE l (placeL D n x):=by
  unfold wrV
  by_cases hx:∃ e,e∈l∧(numI D e.pl n).toNat=x
  ·obtain ⟨e,he,hn⟩:=hx
   have h3:=wr_some l (List.replicate (prodN D n) (0,0)) (fun y hy=>(h.each y hy).1) h.rise (by simp) he
   rw [hn] at h3
   rw [h3,←hn,place_num (h.each e he).1,get_mem h.rise he]
  ·rw [wr_none l _ (fun y hy=>(h.each y hy).1) (by simp) fun e he hn=>hx ⟨e,he,hn⟩]
   rw [(get_none h.rise fun e he e2=>hx ⟨e,he,by rw [e2,num_place h.right h1];omega⟩).1]
   simp [List.getD,h1]
 have h3:x<(wrV D n l).length:=by rw [wrV_len];exact h1
 rw [List.getD_eq_getElem?_getD,List.getElem?_eq_getElem h3] at e1
 simp only [Option.getD_some] at e1
 rw [e1]
 simp [rwL]
end Go.Proofs.YtfngmnhkhfgmjagGreatDoor
namespace Go.Proofs.YtfngmnhkhfgmjagGreatDoor
open Go.ChangeShapes Go.WideShapes Go.ChangeAt Go.RowKit
set_option maxRecDepth 20000
def ToldP (D:Nat→Dm) (n:Nat) (p:List Int) (T:List Int):Prop:=T.Pairwise (· < ·)∧T.length≤12∧∀ z,z∈T↔∃ b:Nat,byTo D p n=(b:Int)∧∃ x∈mNd (D b) (p.getD b 0).toNat,z=numI D (p.set b x) n
end Go.Proofs.YtfngmnhkhfgmjagGreatDoor
namespace Go.Proofs.YtfngmnhkhfgmjagGreatDoor
section
variable {D:Nat→Dm} {n:Nat}
theorem told_less (hR:AllR D n) (hE:(allErr D n).2.2=0) {i:Nat} {T:List Int} (hT:ToldP D n (placeL D n i) T) {z:Int} (hz:z∈T):∃ j:Nat,z=(j:Int)∧j<prodN D n∧msrTo D (placeL D n j) n<msrTo D (placeL D n i) n:=by
 obtain ⟨b,hb,x,hx,rfl⟩:=(hT.2.2 z).1 hz
 have hI:InO D n (placeL D n i):=placeL_in hE
 have hbn:b<n:=by
  rcases by_in D (placeL D n i) n with h | ⟨b',h1,h2⟩
  ·omega
  ·omega
 have hxi:=mNd_in hx
 have hI2:=inO_set hI hbn hxi.1 hxi.2
 have hp0:=hI.lo b hbn
 have hp1:=hI.hi b hbn
 have hrk:=rk_less (hR b hbn) (i:=((placeL D n i).getD b 0).toNat) (by omega) hx
 rw [Int.toNat_of_nonneg hp0] at hrk
 have hms:=(msr_less (by rw [hI.len];exact hbn) hrk n).2 hbn
 obtain ⟨j,hj⟩:∃ j:Nat,numI D ((placeL D n i).set b x) n=(j:Int):=⟨(numI D ((placeL D n i).set b x) n).toNat,by have:=(numI_bound hI2 (Nat.le_refl n)).1;omega⟩
 refine ⟨j,hj,by have:=(numI_bound hI2 (Nat.le_refl n)).2.1;omega,?_⟩
 have hpn:=place_num hI2
 rw [hj,Int.toNat_natCast] at hpn
 rw [hpn]
 exact hms
end
end Go.Proofs.YtfngmnhkhfgmjagGreatDoor
namespace Go.Proofs.YtfngmnhkhfgmjagGreatDoor
open Go.ChangeShapes Go.WideShapes Go.ChangeAt Go.RowKit
section
variable {D:Nat→Dm} {n:Nat}
theorem told_inn (hR:AllR D n) (hE:(allErr D n).2.2=0) {N:List (List Int)} (hl:N.length=prodN D n) (hT:∀ i,i<prodN D n→ToldP D n (placeL D n i) (N.getD i [])):Inn N:=fun i hi x hx=>by
 obtain ⟨j,h1,h2,-⟩:=told_less hR hE (hT i (by omega)) hx
 omega
theorem told_acyc (hR:AllR D n) (hE:(allErr D n).2.2=0) {N:List (List Int)} (hl:N.length=prodN D n) (hT:∀ i,i<prodN D n→ToldP D n (placeL D n i) (N.getD i [])) (i:Nat) (hi:i<N.length):cycB N i=false:=by
 rw [cyc_not]
 intro hr
 have key:∀ {a b:Int},Rch N a b→∀ x:Nat,a=(x:Int)→x<prodN D n→∃ y:Nat,b=(y:Int)∧y<prodN D n∧msrTo D (placeL D n y) n<msrTo D (placeL D n x) n:=by
  intro a b hab
  induction hab with
  | one hx =>
   intro x hax hxn
   subst hax
   unfold rowN at hx
   rw [Int.toNat_natCast] at hx
   exact told_less hR hE (hT x hxn) hx
  | more hx _ ih =>
   intro x hax hxn
   subst hax
   unfold rowN at hx
   rw [Int.toNat_natCast] at hx
   obtain ⟨y,h1,h2,h3⟩:=told_less hR hE (hT x hxn) hx
   obtain ⟨z,h4,h5,h6⟩:=ih y h1 h2
   exact ⟨z,h4,h5,by omega⟩
 obtain ⟨y,h1,-,h3⟩:=key hr i rfl (by omega)
 have:y=i:=by omega
 subst this
 omega
end
section
variable {D:Nat→Dm} {n:Nat}
def StpN (D:Nat→Dm) (n i j:Nat):Prop := ∃ b:Nat,byTo D (placeL D n i) n=(b:Int)∧∃ x∈mNd (D b) ((placeL D n i).getD b 0).toNat,(j:Int)=numI D ((placeL D n i).set b x) n
theorem stp_iff {i j:Nat} {T:List Int} (hT:ToldP D n (placeL D n i) T):StpN D n i j↔(j:Int)∈T:=(hT.2.2 _).symm
inductive Ndd (D:Nat→Dm) (n:Nat):Nat→Nat→Prop
 | refl (i:Nat):Ndd D n i i
 | step {i j k:Nat}:StpN D n i j→Ndd D n j k→Ndd D n i k
noncomputable def dirB (D:Nat→Dm) (n:Nat) (at':List Int) (i:Nat):Bool := @decide (∃ a:Nat,(a:Int)∈at'∧Ndd D n i a) (Classical.propDecidable _)
theorem dirB_iff {at':List Int} {i:Nat}:dirB D n at' i=true↔∃ a:Nat,(a:Int)∈at'∧Ndd D n i a:=by unfold dirB;exact @decide_eq_true_iff _ (Classical.propDecidable _)
noncomputable def drtL (D:Nat→Dm) (n:Nat) (at':List Int):List Int:=selTo (dirB D n at') (prodN D n)
end
section
variable {D:Nat→Dm} {n:Nat}
noncomputable def stpB (D:Nat→Dm) (n i j:Nat):Bool := @decide (StpN D n i j) (Classical.propDecidable _)
theorem stpB_iff {i j:Nat}:stpB D n i j=true↔StpN D n i j:=by unfold stpB;exact @decide_eq_true_iff _ (Classical.propDecidable _)
noncomputable def telL (D:Nat→Dm) (n i:Nat):List Int:=selTo (stpB D n i) (prodN D n)
theorem told_eq (hR:AllR D n) (hE:(allErr D n).2.2=0) {i:Nat} {T:List Int} (hT:ToldP D n (placeL D n i) T):T=telL D n i :=
 rise_eq _ _ hT.1 (sel_rise _ _) fun x=>⟨fun hx=>by
  obtain ⟨j,rfl,hj,-⟩:=told_less hR hE hT hx
  exact sel_has hj (stpB_iff.2 ((stp_iff hT).2 hx)),fun hx=>by
  obtain ⟨m,rfl,-,hp⟩:=selTo_mem _ hx
  exact (stp_iff hT).1 (stpB_iff.1 hp)⟩
noncomputable def rowsL (D:Nat→Dm) (n:Nat):List (List Int):=(List.range (prodN D n)).map (telL D n)
theorem rows_len:(rowsL D n).length=prodN D n:=by simp [rowsL]
theorem rows_at {i:Nat} (hi:i<prodN D n):(rowsL D n).getD i []=telL D n i:=by
 unfold rowsL
 rw [List.getD_eq_getElem?_getD,List.getElem?_map,List.getElem?_range hi]
 rfl
noncomputable def caL (D:Nat→Dm) (n:Nat) (l:List En):List (Int×Int):=if cuErr D n l=0 then (List.range (prodN D n)).map (fun j=>solV D n (getE l) (placeL D n j)) else []
theorem caL_bad {l:List En} (h:cuErr D n l≠0):caL D n l=[]:=by unfold caL;rw [if_neg h]
theorem caL_len {l:List En} (h:cuErr D n l=0):(caL D n l).length=prodN D n:=by unfold caL;rw [if_pos h];simp
theorem caL_at {l:List En} (h:cuErr D n l=0) {j:Nat} (hj:j<prodN D n):(caL D n l).getD j noC=solV D n (getE l) (placeL D n j):=by
 unfold caL
 rw [if_pos h,List.getD_eq_getElem?_getD,List.getElem?_map,List.getElem?_range hj]
 rfl
theorem ca_eq {l:List En} (h:cuErr D n l=0) {L:List (Int×Int)} (hl:L.length=prodN D n) (hv:∀ j,j<prodN D n→L.getD j noC=solV D n (getE l) (placeL D n j)):L=caL D n l:=by
 refine List.ext_getElem (by rw [hl,caL_len h]) fun i h1 h2=>?_
 have h3:i<prodN D n:=by omega
 have e:=(hv i h3).trans (caL_at h h3).symm
 rw [List.getD_eq_getElem?_getD,List.getElem?_eq_getElem h1,List.getD_eq_getElem?_getD,List.getElem?_eq_getElem h2] at e
 exact e
noncomputable def coL (D:Nat→Dm) (n:Nat):List Int:=if (ruErr D n).2.2=0 then ordTo (rowsL D n) (prodN D n) else []
end
def shTo (D:Nat→Dm) (n:Nat):List (List Int)→Int
 | []=>0
 | q :: r=>if shapeErr D n q≠0 then shapeErr D n q else shTo D n r
def drTo (D:Nat→Dm) (n:Nat) (Q:List (List Int)):Int:=if shTo D n Q≠0 then shTo D n Q else if Q.any (fun q => !leafV D n q)=true then 6 else 0
theorem drTo_one {D:Nat→Dm} {n:Nat} {q:List Int} (h1:shapeErr D n q=0) (h2:leafV D n q=true):drTo D n [q]=0:=by
 have e:shTo D n [q]=0:=by unfold shTo;rw [if_neg (by simpa using h1)];rfl
 unfold drTo
 rw [if_neg (by simpa using e),if_neg (by simp [h2])]
noncomputable def drE (D:Nat→Dm) (n:Nat) (Q:List (List Int)):Int:=if (ruErr D n).2.2≠0 then (ruErr D n).2.2 else drTo D n Q
def drN (D:Nat→Dm) (n:Nat) (Q:List (List Int)):List Int:=Q.map fun q=>numI D q n
noncomputable def ddL (D:Nat→Dm) (n:Nat) (Q:List (List Int)):List Int:=if drE D n Q=0 then drtL D n (drN D n Q) else []
theorem place_shapeN {D:Nat→Dm} {n:Nat} {p:List Int} (h:(allErr D n).2.2=0):placeErr D n p=shapeErr D n p:=by unfold placeErr;rw [if_neg (by simpa using h)]
theorem sel_3000 {D:Nat→Dm} {n:Nat} (h:(allErr D n).2.2=0) (f:Nat→Bool):(selTo f (prodN D n)).length≤3000:=by
 obtain ⟨-,-,hp3,-⟩:=allErr_some h
 exact Nat.le_trans (selTo_len _ _) hp3
def PlsA (w:World) (A:Option Addr) (cap:Nat) (xs:List PL):Prop:=xs.length≤cap∧(xs=[]∨∃ b o,A=some ⟨b,o,none⟩∧b<w.heap.size∧∀ k,k<xs.length→w.cell? ⟨b,o+k,none⟩=some (.slice (xs.getD k noP).A (xs.getD k noP).p.length (xs.getD k noP).c))∧∀ x∈xs,PlAt w x.A x.c x.p
theorem PlsA.later {w w':World} {A:Option Addr} {cap:Nat} {xs:List PL} (h:PlsA w A cap xs) (hB:Below w.heap.size w w'):PlsA w' A cap xs:=by
 obtain ⟨h1,h2,h3⟩:=h
 refine ⟨h1,?_,fun x hx=>(h3 x hx).later hB⟩
 rcases h2 with h2 | ⟨b,o,h2,h4,h5⟩
 ·exact Or.inl h2
 ·exact Or.inr ⟨b,o,h2,Nat.lt_of_lt_of_le h4 hB.size,fun k hk=>(hB.cell (p:=⟨b,o+k,none⟩) h4).trans (h5 k hk)⟩
section
variable {D:Nat→Dm} {n:Nat}
theorem sol_clean (hR:AllR D n) (hE:(allErr D n).2.2=0) {inp inp':List Int→Int×Int} {m:Nat} (hin:∀ i:Nat,i<prodN D n→i≠m→inp (placeL D n i)=inp' (placeL D n i)):∀ (k i:Nat),i<prodN D n→msrTo D (placeL D n i) n<k→¬ Ndd D n i m→solV D n inp (placeL D n i)=solV D n inp' (placeL D n i):=by
 intro k
 induction k with
 | zero=>intro i _ h;omega
 | succ k ih =>
  intro i hi hk hn
  have hI:InO D n (placeL D n i):=placeL_in hE
  rcases by_in D (placeL D n i) n with h | ⟨b,hb,hbn⟩
  ·rw [sol_leaf _ (by omega),sol_leaf _ (by omega)]
   exact hin i hi fun e=>hn (e ▸ .refl _)
  ·rw [sol_by hR inp hI hb,sol_by hR inp' hI hb]
   have hp0:=hI.lo b hbn
   have hp1:=hI.hi b hbn
   have hrb:=hR b hbn
   obtain ⟨hd,hm,-,-⟩:=rErr_right hrb
   refine oneV_same hd (hm _ (by omega)) fun x hx=>?_
   have hxi:=mNd_in hx
   have hI2:=inO_set hI hbn hxi.1 hxi.2
   have hbd:=numI_bound hI2 (Nat.le_refl n)
   obtain ⟨j,hj⟩:∃ j:Nat,numI D ((placeL D n i).set b x) n=(j:Int):=⟨(numI D ((placeL D n i).set b x) n).toNat,by have:=hbd.1;omega⟩
   have hpn:=place_num hI2
   rw [hj,Int.toNat_natCast] at hpn
   have hrk:=rk_less hrb (i:=((placeL D n i).getD b 0).toNat) (by omega) hx
   rw [Int.toNat_of_nonneg hp0] at hrk
   have hms:=(msr_less (by rw [hI.len];exact hbn) hrk n).2 hbn
   rw [←hpn] at hms ⊢
   exact ih j (by have:=hbd.2.1;omega) (by omega) fun h=>hn (.step ⟨b,hb,x,hx,hj.symm⟩ h)
end
end Go.Proofs.YtfngmnhkhfgmjagGreatDoor
namespace Go.Proofs.YtfngmnhkhfgmjagGreatDoor
open Go.ChangeShapes Go.WideShapes Go.ChangeAt Go.RowKit
set_option maxRecDepth 20000
def omA:Mem:=⟨⟨#[98]⟩,-1,0,⟨#[99,43,49]⟩⟩
def omB:Mem:=⟨⟨#[99]⟩,-1,0,⟨#[]⟩⟩
def oneM (i:Nat):Mem:=if i=0 then omA else omB
def oneDm:Dm:=⟨⟨#[97]⟩,0,2,oneM⟩
theorem one_nd:ndL oneDm=[[1],[]]:=by decide +kernel
theorem up_acyc {N:List (List Int)} (h:∀ (a:Int),∀ x∈rowN N a,a<x) (i:Nat):cycB N i=false:=by
 rw [cyc_not]
 intro hr
 have hlt:∀ {a b:Int},Rch N a b→a<b:=by
  intro a b hab
  induction hab with
  | one hx=>exact h _ _ hx
  | more hx _ ih=>have:=h _ _ hx;omega
 have:=hlt hr
 omega
theorem one_acyc (i:Nat):cycB (ndL oneDm) i=false:=by
 rw [one_nd]
 refine up_acyc (fun a x hx=>?_) i
 unfold rowN at hx
 rcases h:a.toNat with _ | _ | k
 ·rw [h] at hx
  simp at hx
  omega
 ·rw [h] at hx
  simp at hx
 ·rw [h] at hx
  simp at hx
end Go.Proofs.YtfngmnhkhfgmjagGreatDoor
namespace Go.Proofs.YtfngmnhkhfgmjagGreatDoor
open Go.ChangeShapes Go.WideShapes Go.ChangeAt Go.RowKit
def At (s:Nat) (k n:Int) (w:World):Prop:=s<w.heap.size∧w.cell? ⟨s,0,none⟩=some (.int .i64 k)∧w.cell? ⟨s,1,none⟩=some (.int .i64 n)
end Go.Proofs.YtfngmnhkhfgmjagGreatDoor
namespace Go.Proofs.YtfngmnhkhfgmjagGreatDoor
open Go.ChangeShapes Go.WideShapes Go.ChangeAt Go.RowKit
set_option maxRecDepth 20000
set_option maxHeartbeats 8000000 in
theorem fcells_own (A0:Option Addr) (cap n:Nat) (D:Nat→Dm) (A:Nat→Option Addr) (C:Nat→Nat) (AE:Option Addr) (ce:Nat) (xs:List EnL) (w:World) (hM:DimsV w A0 cap n D A C) (hE:EnsV w AE ce xs) (he:entsErr D n (lE xs)=0) :
  Calls Tryz.prog 39 #[.agg #[.slice A0 n cap],.slice AE xs.length ce] w fun e w'=>(∃ g,e=.returned (.tuple #[.slice (some ⟨g,0,none⟩) (prodN D n) (prodN D n),.nilIface])∧w.heap.size≤g∧CelB w' g (wrV D n (lE xs)))∧Below w.heap.size w w':=by
 have hB0:=ownOut_below w A0 n cap 29
 have h:=icheck_any A0 cap n D A C AE ce xs (ownOut w A0 n cap 29) (hM.later hB0) (hE.later hB0)
 have HB0:Hid (Below w.heap.size w (ownOut w A0 n cap 29)):=hB0
 have HM:Hid (DimsV w A0 cap n D A C):=hM
 have HE:Hid (EnsV w AE ce xs):=hE
 clear hM hE hB0
 have hEs:=ens_of he
 have HEs:Hid (Ens D n (lE xs)):=hEs
 have hfew:xs.length≤3000:=by have:=hEs.few;rw [lE_len] at this;exact this
 have hR:=hEs.right
 have HR:Hid ((allErr D n).2.2=0):=hR
 obtain ⟨hn1,hn4,hp3,hd⟩:=allErr_some hR
 rw [he,errV_zero] at h
 have HBo:Hid (w.heap.size<(ownOut w A0 n cap 29).heap.size∧(ownOut w A0 n cap 29).cell? ⟨w.heap.size,0,none⟩=some (.slice A0 n cap)):=⟨by rw [ownOut_size];omega,ownOut_at ..⟩
 obtain ⟨N,hN⟩:∃ N,xs.length=N:=⟨_,rfl⟩
 have HN:Hid (xs.length=N):=hN
 rw [hN] at h hfew ⊢
 have hN':(N:Int)≤3000:=by omega
 obtain ⟨PN,hPN⟩:∃ PN,prodN D n=PN:=⟨_,rfl⟩
 have HPN:Hid (prodN D n=PN):=hPN
 rw [hPN] at hp3
 have hmk:=run_make_cells PN hp3
 have hPN':(PN:Int)≤3000:=by omega
 have HWE:Hid (((lE xs).take N).foldl (wrStep D n) (List.replicate PN (0,0))=wrV D n (lE xs)):=by show _=_;rw [List.take_of_length_le (by rw [lE_len,hN];exact Nat.le_refl _),←hPN];rfl
 clear he hEs hR hd hN hPN
 go_enter Tryz.func39,Tryz.ntmps39
 go_wp2_with fail
 refine h.mono ?_
 rintro e w1 ⟨rfl,hb1⟩
 have hB:Below w.heap.size w w1:=onB HB0.out hb1
 have HB:Hid (Below w.heap.size w w1):=hB
 have HBox:Hid (BoxN w1 w.heap.size (.slice A0 n cap)):=⟨Nat.lt_of_lt_of_le HBo.out.1 hb1.size,(hb1.cell (p:=⟨w.heap.size,0,none⟩) HBo.out.1).trans HBo.out.2⟩
 have c1:=HBox.out.2
 have hpc:=pcells_any A0 cap n D A C w1 (HM.out.later hB)
 have hcv:cellsV D n=(PN:Int):=by unfold cellsV;rw [if_pos HR.out,HPN.out]
 rw [HR.out,errV_zero,hcv] at hpc
 clear hb1 h hB hcv
 go_wp2_with fail
 refine hpc.mono ?_
 rintro e w2 ⟨rfl,hb2⟩
 have HB2:Hid (Below w.heap.size w w2):=onB HB.out hb2
 have HBox2:Hid (BoxN w2 w.heap.size (.slice A0 n cap)):=HBox.out.later hb2
 obtain ⟨v2,hv2⟩:∃ v,w2.alloc (.cells (madeCells #[.int .i64 0,.int .i64 0] (PN*2)) 32)=v:=⟨_,rfl⟩
 have hBv:Below w2.heap.size w2 v2:=by rw [←hv2];go_grown
 have HBv:Hid (Below w2.heap.size w2 v2):=hBv
 have HCv:Hid (CelB v2 w2.heap.size (List.replicate PN (0,0))):=by rw [←hv2];exact celB_made w2 PN
 have HBoxv:Hid (BoxN v2 w.heap.size (.slice A0 n cap)):=HBox2.out.later hBv
 have hwz:w.heap.size<w2.heap.size:=HBox2.out.1
 clear hpc hb2 c1 hBv
 go_wp2_with fail
 clear hmk hv2
 go_loopg [32] N (fun gg s32 wr => ∃ (k:Nat),k≤N∧gg=N-k∧s32=.int .i64 k∧Hid (CelB wr w2.heap.size (((lE xs).take k).foldl (wrStep D n) (List.replicate PN (0,0))))∧Hid (v2.grownBy wr (some w2.heap.size)))
 case atStart=>exact ⟨0,Nat.zero_le _,rfl,rfl,HCv,grown_refl v2 _⟩
 case round =>
  obtain ⟨k,hk,rfl,rfl,HC,HG⟩:=hrel
  have hB2r:Below w2.heap.size w2 wr:=HBv.out.grown HG.out HBv.out.size (fun j hj=>by cases hj;exact Nat.le_refl _)
  have HB2r:Hid (Below w2.heap.size w2 wr):=hB2r
  have HBr:Hid (Below w.heap.size w wr):=onB HB2.out hB2r
  by_cases hlt:k<N
  ·have hkx:k<xs.length:=by rw [HN.out];exact hlt
   have hki:(k:Int)<(N:Int):=by omega
   obtain ⟨-,-,h0 | ⟨bb,oo,rfl,hA⟩⟩:=HE.out.later HBr.out
   ·have:=HN.out;rw [h0] at this;simp at this;omega
   obtain ⟨c1,c2⟩:=hA.at hkx
   have hmem:(xs.getD k noL).e∈lE xs:=List.mem_map.2 ⟨_,enl_mem hkx,rfl⟩
   obtain ⟨hqI,-,hnum⟩:=HEs.out.each _ hmem
   have hnn : -1000000≤(xs.getD k noL).e.n∧(xs.getD k noL).e.n≤1000000:=by simpa [numOk] using hnum
   obtain ⟨hq1,hq2,-⟩:=numI_bound hqI (Nat.le_refl n)
   have hpl:=hA.pl hkx
   have HWr:=take_wr D n (List.replicate PN (0,0)) xs hkx
   unfold wrStep at HWr
   obtain ⟨X,hX⟩:∃ X:Nat,numI D (xs.getD k noL).e.pl n=X:=⟨(numI D (xs.getD k noL).e.pl n).toNat,by omega⟩
   have hnv:numV D n (xs.getD k noL).e.pl=(X:Int):=by unfold numV;rw [if_pos hqI.ok,hX]
   have hXN:X<PN:=by have:=HPN.out;omega
   have hNum:∀ w',Below wr.heap.size wr w'→_:=fun w' hw'=>pnumber_any A0 cap n D A C (xs.getD k noL).A (xs.getD k noL).c (xs.getD k noL).e.pl w' (HM.out.later (onB HBr.out hw')) (hpl.later hw')
   rw [hnv,hqI.ok,errV_zero] at hNum
   have HNum:Hid (∀ w',Below wr.heap.size wr w'→_):=hNum
   have hof:=fun w'=>of_any (xs.getD k noL).e.n w'
   rw [ofP_in (by omega) (by omega)] at hof
   rw [hX,show ((X:Int)).toNat=X by omega] at HWr
   have HWR:Hid _:=HWr
   obtain ⟨LL,hLL⟩:∃ LL,((lE xs).take k).foldl (wrStep D n) (List.replicate PN (0,0))=LL:=⟨_,rfl⟩
   have hLLn:LL.length=PN:=by rw [←hLL,wrs_len];simp
   have HCL:Hid (CelB wr w2.heap.size LL):=by rw [←hLL];exact HC.out
   have HNx:Hid (((lE xs).take (k+1)).foldl (wrStep D n) (List.replicate PN (0,0))=LL.set X (1,(xs.getD k noL).e.n)):=by
    show _=_
    rw [←hLL]
    exact HWR.out
   have HBxr:Hid (BoxN wr w.heap.size (.slice A0 n cap)):=boxn_other HBoxv.out (by omega) HG.out
   have hXL:X<LL.length:=by omega
   have HXL:Hid (X<LL.length):=hXL
   generalize (xs.getD k noL).A=A1 at c1 HNum
   generalize (xs.getD k noL).c=k1 at c1 HNum
   generalize (xs.getD k noL).e.n=num at c2 hnn hof HNx
   generalize (xs.getD k noL).e.pl.length=m1 at c1 HNum
   have hcr:=HBxr.out.2
   have hXi:(X:Int)<(PN:Int):=by omega
   obtain ⟨y,hy⟩:∃ y,wr.alloc (.cells #[.slice A1 m1 k1,.int .i64 num] 46)=y:=⟨_,rfl⟩
   have hBy:Below wr.heap.size wr y:=by rw [←hy];go_grown
   have HBy:Hid (Below wr.heap.size wr y):=hBy
   have HPy:Hid (y.heap[wr.heap.size]?=some (.cells #[.slice A1 m1 k1,.int .i64 num] 46 (0,0))):=by show _=_;rw [←hy];exact heap_alloc_new ..
   obtain ⟨p0,p1,-,-⟩:=pair_at HPy.out
   have hyo:=(HBxr.out.later hBy).2
   clear hB2r hA hmem hqI hnum hpl HWr hNum hnv hLL hLLn hX hq1 hq2 hBy hXL HWR
   go_wp2_with fail
   refine (HNum.out _ HBy.out).mono ?_
   rintro e w5 ⟨rfl,hb5⟩
   have HB5:Hid (Below y.heap.size y w5):=hb5
   have hwr:wr.heap.size<y.heap.size:=(Array.getElem?_eq_some_iff.1 HPy.out).1
   have hP5:w5.heap[wr.heap.size]?=some (.cells #[.slice A1 m1 k1,.int .i64 num] 46 (0,0)):=(hb5.block _ hwr).trans HPy.out
   obtain ⟨-,s1,-,-⟩:=pair_at hP5
   clear hb5 hP5 p0 p1 hyo
   go_wp2_with fail
   refine (hof _).mono ?_
   rintro e w6 ⟨rfl,hb6⟩
   have hB6:Below wr.heap.size wr w6:=onB (onB HBy.out HB5.out) hb6
   have HC6:Hid (CelB w6 w2.heap.size LL):=HCL.out.later hB6
   obtain ⟨g1,g2⟩:=HC6.out.at HXL.out
   have g3:=HC6.out.frozen (X*2)
   have g4:=HC6.out.frozen (X*2+1)
   have HC7:Hid (CelB ((w6.setCell ⟨w2.heap.size,X*2,none⟩ (.int .i64 1)).setCell ⟨w2.heap.size,X*2+1,none⟩ (.int .i64 num)) w2.heap.size (((lE xs).take (k+1)).foldl (wrStep D n) (List.replicate PN (0,0)))):=by show CelB _ _ _;rw [HNx.out];exact HC6.out.set HXL.out 1 num
   have HG7:Hid (v2.grownBy ((w6.setCell ⟨w2.heap.size,X*2,none⟩ (.int .i64 1)).setCell ⟨w2.heap.size,X*2+1,none⟩ (.int .i64 num)) (some w2.heap.size)):=cel_grown (grown_then HG.out hB6)
   clear hb6 hB6 hof s1
   go_wp2_with fail
   go_roundg (N-(k+1))
   case measure=>omega
   case rel=>exact ⟨k+1,by omega,rfl,by go_num,HC7,HG7⟩
  ·have hke:k=N:=by omega
   subst hke
   have HV:Hid (CelB wr w2.heap.size (wrV D n (lE xs))):=by rw [←HWE.out];exact HC.out
   clear hB2r
   go_wp2_with fail
   go_ret2
   exact ⟨⟨w2.heap.size,by rw [HPN.out];rfl,HB2.out.size,HV.out⟩,HBr.out⟩
end Go.Proofs.YtfngmnhkhfgmjagGreatDoor
