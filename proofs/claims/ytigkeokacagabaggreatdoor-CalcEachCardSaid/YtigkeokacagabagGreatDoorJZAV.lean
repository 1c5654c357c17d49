/-
  What Leaf of package place answers, called in whatever memory: whether a place is of leafs, or what is wrong.
-/
import Derived.WalkSpells
import Derived.WalkLawsBesides
import Derived.Maps.AppendAt
import Derived.Deep.CutBlock
import Derived.Deep.CutRange
import Derived.Deep.RegionHeld
import Derived.Laws.AppendOwnNone
import Derived.Shelf.Spec.SlicesInsertGrow
import Derived.Laws.OwnMore
import Derived.Lib.AppendZerosOnto
import Derived.Test.YtigkeokacagabagGreatDoorJZAU
namespace Go.Proofs.YtigkeokacagabagGreatDoor
open Go.ChangeShapes Go.WideShapes Go.ChangeAt Go.RowKit
set_option maxRecDepth 20000
def notLeaf (D:Nat→Dm) (L:List Int) (i:Nat):Bool := !leafB (D i).mem (D i).n (L.getD i 0).toNat
def leafV (D:Nat→Dm) (n:Nat) (L:List Int):Bool:=if placeErr D n L=0 then !decide (0≤findFrom (notLeaf D L) n 0) else false
theorem by_hit {D:Nat→Dm} {p:List Int} {k:Nat} (h1:leafB (D k).mem (D k).n (p.getD k 0).toNat=false) (h2:byTo D p k<0∨(D (byTo D p k).toNat).solve<(D k).solve):byTo D p (k+1)=(k:Int):=by rw [byTo,if_pos ⟨h1,h2⟩]
theorem by_miss {D:Nat→Dm} {p:List Int} {k:Nat} (h : ¬ (leafB (D k).mem (D k).n (p.getD k 0).toNat=false∧(byTo D p k<0∨(D (byTo D p k).toNat).solve<(D k).solve))):byTo D p (k+1)=byTo D p k:=by rw [byTo,if_neg h]
noncomputable def badD (D:Nat→Dm) (i:Nat):Bool:=decide ((rErr (D i)).2≠0)
noncomputable def ruErr (D:Nat→Dm) (n:Nat):Int×Int×Int :=
 if (allErr D n).2.2≠0 then allErr D n
 else if 0≤findFrom (badD D) n 0 then (findFrom (badD D) n 0,rErr (D (findFrom (badD D) n 0).toNat))
 else (-1,-1,0)
theorem ru0 {D:Nat→Dm} {n:Nat} (h:(allErr D n).2.2≠0):ruErr D n=allErr D n:=by unfold ruErr;rw [if_pos h]
theorem ru1 {D:Nat→Dm} {n i:Nat} (h:(allErr D n).2.2=0) (hi:i<n) (hb:(rErr (D i)).2≠0) (hf:∀ j,j<i→(rErr (D j)).2=0):ruErr D n=((i:Int),(rErr (D i)).1,(rErr (D i)).2):=by
 have e:findFrom (badD D) n 0=(i:Int):=findFrom_at (Nat.zero_le _) (by omega) (decide_eq_true hb) fun j _ hj=>decide_eq_false (by simpa using hf j hj)
 unfold ruErr
 rw [if_neg (by simpa using h),e,if_pos (by omega),Int.toNat_natCast]
theorem ru2 {D:Nat→Dm} {n:Nat} (h:(allErr D n).2.2=0) (hf:∀ j,j<n→(rErr (D j)).2=0):ruErr D n=(-1,-1,0):=by
 unfold ruErr
 rw [if_neg (by simpa using h),findFrom_none (p:=badD D) fun j _ hj=>decide_eq_false (by simpa using hf j (by omega)),if_neg (by omega)]
set_option maxHeartbeats 4000000 in
theorem rulall_any (A0:Option Addr) (cap n:Nat) (D:Nat→Dm) (A:Nat→Option Addr) (C:Nat→Nat) (w:World) (hM:DimsV w A0 cap n D A C):Calls Tryz.prog 63 #[.agg #[.slice A0 n cap]] w fun e w'=>e=.returned (.tuple #[.int .i64 (ruErr D n).1,.int .i64 (ruErr D n).2.1,errV (ruErr D n).2.2])∧Below w.heap.size w w':=by
 have hB0:=ownOut_below w A0 n cap 29
 have hS:=ownOut_size w A0 n cap 29
 have hA:=ownOut_at w A0 n cap 29
 have hal:=all_any A0 cap n D A C (ownOut w A0 n cap 29) (hM.later hB0)
 obtain ⟨W,hW⟩:∃ W,ownOut w A0 n cap 29=W:=⟨_,rfl⟩
 rw [hW] at hB0 hS hA hal
 unfold ownOut at hW
 have HB0:Hid (Below w.heap.size w W):=hB0
 have HM:Hid (DimsV w A0 cap n D A C):=hM
 have hsz:w.heap.size<W.heap.size:=by omega
 clear hM hB0
 by_cases he:(allErr D n).2.2=0
 case neg =>
  rw [ru0 he]
  rw [errV_some he] at hal ⊢
  generalize (allErr D n).1=x at hal ⊢
  generalize (allErr D n).2.1=y at hal ⊢
  generalize (allErr D n).2.2=c at hal ⊢
  clear he
  go_enter Tryz.func63,Tryz.ntmps63
  go_wp2_with fail
  refine hal.mono ?_
  rintro e w1 ⟨rfl,hb1⟩
  go_wp2_with fail
  go_returns
  exact ⟨rfl,onB HB0.out hb1⟩
 obtain ⟨hn1,hn4,-,-⟩:=allErr_some he
 have HE:Hid ((allErr D n).2.2=0):=he
 rw [he,errV_zero] at hal
 generalize (allErr D n).1=x at hal
 generalize (allErr D n).2.1=y at hal
 have hnI:(n:Int)≤4:=by omega
 have HA:Hid (W.cell? ⟨w.heap.size,0,none⟩=some (.slice A0 n cap)):=hA
 clear he
 go_enter Tryz.func63,Tryz.ntmps63
 go_wp2_with fail
 refine hal.mono ?_
 rintro e w1 ⟨rfl,hb1⟩
 have HB1:Hid (Below W.heap.size W w1):=hb1
 have c1:w1.cell? ⟨w.heap.size,0,none⟩=some (.slice A0 n cap):=(hb1.cell (p:=⟨w.heap.size,0,none⟩) hsz).trans hA
 have hsz1:w.heap.size<w1.heap.size:=Nat.lt_of_lt_of_le hsz hb1.size
 clear hb1 hal hA hW
 go_wp2_with fail
 go_loopg [26] n (fun g s26 wr => ∃ (k:Nat),k≤n∧g=n-k∧s26=.int .i64 k∧Hid (∀ j,j<k→(rErr (D j)).2=0)∧Below W.heap.size W wr)
 case atStart=>exact ⟨0,Nat.zero_le _,rfl,rfl,(fun j hj=>absurd hj (Nat.not_lt_zero _):∀ j,j<0→_),HB1.out⟩
 case round =>
  obtain ⟨k,hk,rfl,rfl,HK,hBw⟩:=hrel
  have HBw:Hid (Below W.heap.size W wr):=hBw
  by_cases hlt:k<n
  ·have hki:(k:Int)<(n:Int):=by omega
   obtain ⟨hcap,h0 | ⟨b,o,rfl,hMs⟩⟩:=HM.out.later (onB HB0.out hBw)
   ·omega
   have hcapI:(n:Int)≤(cap:Int):=by omega
   obtain ⟨h0,h1,h2,h3⟩:=hMs.2 k hlt
   have hbl:b<wr.heap.size:=hMs.1
   have hBo:=ownDim_below wr (D k) (A k) (C k) 43
   have hck:=rcheck_any (D k) (A k) (C k) (ownDim wr (D k) (A k) (C k) 43) (h3.later hBo)
   obtain ⟨d0,d1,d2,hqW⟩:=dim_cells (w:=wr) (d:=D k) (A:=A k) (cap:=C k) (Below.refl _ _)
   have HBo:Hid (Below wr.heap.size wr (ownDim wr (D k) (A k) (C k) 43)):=hBo
   unfold dimV at hck
   obtain ⟨W2,hW2⟩:∃ W2,ownDim wr (D k) (A k) (C k) 43=W2:=⟨_,rfl⟩
   rw [hW2] at d0 d1 d2 hqW HBo hck
   unfold ownDim at hW2
   clear h3 hMs hBo hBw
   by_cases he:(rErr (D k)).2=0
   ·rw [he,errV_zero] at hck
    have HK2:Hid (∀ j,j<k+1→(rErr (D j)).2=0):=fun j hj=>by
     by_cases e:j=k
     ·rw [e];exact he
     ·exact HK.out j (by omega)
    generalize (rErr (D k)).1=z at hck
    clear he
    go_wp2_with fail
    refine hck.mono ?_
    rintro e w2 ⟨rfl,hb2⟩
    have HB2:Hid (Below W.heap.size W w2):=onB HBw.out (onB HBo.out hb2)
    clear hb2 hck
    go_wp2_with fail
    go_roundg (n-(k+1))
    case measure=>omega
    case rel=>exact ⟨k+1,by omega,rfl,by go_num,HK2,HB2.out⟩
   ·have HRu:Hid (ruErr D n=((k:Int),(rErr (D k)).1,(rErr (D k)).2)):=ru1 HE.out hlt he HK.out
    have HEe:Hid ((rErr (D k)).2≠0):=he
    rw [errV_some he] at hck
    generalize (rErr (D k)).1=z at hck HRu
    generalize (rErr (D k)).2=c at hck HRu HEe
    clear he
    go_wp2_with fail
    refine hck.mono ?_
    rintro e w2 ⟨rfl,hb2⟩
    have HB2:Hid (Below W.heap.size W w2):=onB HBw.out (onB HBo.out hb2)
    clear hb2 hck
    go_wp2_with fail
    go_returns
    rw [HRu.out]
    exact ⟨by rw [errV_some HEe.out];rfl,onB HB0.out HB2.out⟩
  ·have hke:k=n:=by omega
   subst hke
   have HRu:Hid (ruErr D k=(-1,-1,0)):=ru2 HE.out HK.out
   clear hBw
   go_wp2_with fail
   go_returns
   rw [HRu.out]
   exact ⟨rfl,onB HB0.out HBw.out⟩
end Go.Proofs.YtigkeokacagabagGreatDoor
namespace Go.Proofs.YtigkeokacagabagGreatDoor
def lessL:List Int→List Int→Bool
 | [],[]=>false
 | [],_ :: _=>true
 | _ :: _,[]=>false
 | a :: r,b :: t=>if a=b then lessL r t else decide (a<b)
structure En where
 pl:List Int
 n:Int
def numOk (x:Int):Bool:=decide (-1000000≤x) && decide (x≤1000000)
def entOne (D:Nat→Dm) (n:Nat) (e:En):Int:=if shapeErr D n e.pl≠0 then shapeErr D n e.pl else if leafV D n e.pl=false then 6 else if numOk e.n=false then 1 else 0
def aheadOk:Option (List Int)→List Int→Bool
 | none,_=>true
 | some a,b=>lessL a b
def entFrom (D:Nat→Dm) (n:Nat):Option (List Int)→List En→Int
 | _,[]=>0
 | q,e :: r=>if entOne D n e≠0 then entOne D n e else if aheadOk q e.pl=true then entFrom D n (some e.pl) r else 7
def entsErr (D:Nat→Dm) (n:Nat) (l:List En):Int:=if (allErr D n).2.2≠0 then (allErr D n).2.2 else entFrom D n none l
structure Ens (D:Nat→Dm) (n:Nat) (l:List En):Prop where
 right:(allErr D n).2.2=0
 each:∀ e∈l,InO D n e.pl∧leafV D n e.pl=true∧numOk e.n=true
 rise:l.Pairwise fun a b=>lessL a.pl b.pl=true
end Go.Proofs.YtigkeokacagabagGreatDoor
namespace Go.Proofs.YtigkeokacagabagGreatDoor
open Go.ChangeShapes Go.WideShapes Go.ChangeAt Go.RowKit
set_option maxRecDepth 20000
noncomputable def cuErr (D:Nat→Dm) (n:Nat) (l:List En):Int:=if (ruErr D n).2.2≠0 then (ruErr D n).2.2 else entsErr D n l
def ToldP (D:Nat→Dm) (n:Nat) (p:List Int) (T:List Int):Prop:=T.Pairwise (· < ·)∧T.length≤12∧∀ z,z∈T↔∃ b:Nat,byTo D p n=(b:Int)∧∃ x∈mNd (D b) (p.getD b 0).toNat,z=numI D (p.set b x) n
end Go.Proofs.YtigkeokacagabagGreatDoor
namespace Go.Proofs.YtigkeokacagabagGreatDoor
section
variable {D:Nat→Dm} {n:Nat}
theorem told_less (hR:AllR D n) (hE:(allErr D n).2.2=0) {i:Nat} {T:List Int} (hT:ToldP D n (placeL D n i) T) {z:Int} (hz:z∈T):∃ j:Nat,z=(j:Int)∧j<prodN D n∧msrTo D (placeL D n j) n<msrTo D (placeL D n i) n:=by
 obtain ⟨b,hb,x,hx,rfl⟩:=(hT.2.2 z).1 hz
 have hI:InO D n (placeL D n i):=placeL_in hE
 have hbn:b<n:=by
  rcases by_in D (placeL D n i) n with h | ⟨b',h1,h2⟩
  ·omega
  ·omega
 have hxi:=mNd_in hx
 have hI2:=inO_set hI hbn hxi.1 hxi.2
 have hp0:=hI.lo b hbn
 have hp1:=hI.hi b hbn
 have hrk:=rk_less (hR b hbn) (i:=((placeL D n i).getD b 0).toNat) (by omega) hx
 rw [Int.toNat_of_nonneg hp0] at hrk
 have hms:=(msr_less (by rw [hI.len];exact hbn) hrk n).2 hbn
 obtain ⟨j,hj⟩:∃ j:Nat,numI D ((placeL D n i).set b x) n=(j:Int):=⟨(numI D ((placeL D n i).set b x) n).toNat,by have:=(numI_bound hI2 (Nat.le_refl n)).1;omega⟩
 refine ⟨j,hj,by have:=(numI_bound hI2 (Nat.le_refl n)).2.1;omega,?_⟩
 have hpn:=place_num hI2
 rw [hj,Int.toNat_natCast] at hpn
 rw [hpn]
 exact hms
end
end Go.Proofs.YtigkeokacagabagGreatDoor
namespace Go.Proofs.YtigkeokacagabagGreatDoor
open Go.ChangeShapes Go.WideShapes Go.ChangeAt Go.RowKit
section
variable {D:Nat→Dm} {n:Nat}
theorem told_inn (hR:AllR D n) (hE:(allErr D n).2.2=0) {N:List (List Int)} (hl:N.length=prodN D n) (hT:∀ i,i<prodN D n→ToldP D n (placeL D n i) (N.getD i [])):Inn N:=fun i hi x hx=>by
 obtain ⟨j,h1,h2,-⟩:=told_less hR hE (hT i (by omega)) hx
 omega
end
section
variable {D:Nat→Dm} {n:Nat}
def StpN (D:Nat→Dm) (n i j:Nat):Prop := ∃ b:Nat,byTo D (placeL D n i) n=(b:Int)∧∃ x∈mNd (D b) ((placeL D n i).getD b 0).toNat,(j:Int)=numI D ((placeL D n i).set b x) n
theorem stp_iff {i j:Nat} {T:List Int} (hT:ToldP D n (placeL D n i) T):StpN D n i j↔(j:Int)∈T:=(hT.2.2 _).symm
end
section
variable {D:Nat→Dm} {n:Nat}
noncomputable def stpB (D:Nat→Dm) (n i j:Nat):Bool := @decide (StpN D n i j) (Classical.propDecidable _)
theorem stpB_iff {i j:Nat}:stpB D n i j=true↔StpN D n i j:=by unfold stpB;exact @decide_eq_true_iff _ (Classical.propDecidable _)
noncomputable def telL (D:Nat→Dm) (n i:Nat):List Int:=selTo (stpB D n i) (prodN D n)
theorem told_eq (hR:AllR D n) (hE:(allErr D n).2.2=0) {i:Nat} {T:List Int} (hT:ToldP D n (placeL D n i) T):T=telL D n i :=
 rise_eq _ _ hT.1 (sel_rise _ _) fun x=>⟨fun hx=>by
  obtain ⟨j,rfl,hj,-⟩:=told_less hR hE hT hx
  exact sel_has hj (stpB_iff.2 ((stp_iff hT).2 hx)),fun hx=>by
  obtain ⟨m,rfl,-,hp⟩:=selTo_mem _ hx
  exact (stp_iff hT).1 (stpB_iff.1 hp)⟩
noncomputable def rowsL (D:Nat→Dm) (n:Nat):List (List Int):=(List.range (prodN D n)).map (telL D n)
theorem rows_len:(rowsL D n).length=prodN D n:=by simp [rowsL]
theorem rows_at {i:Nat} (hi:i<prodN D n):(rowsL D n).getD i []=telL D n i:=by
 unfold rowsL
 rw [List.getD_eq_getElem?_getD,List.getElem?_map,List.getElem?_range hi]
 rfl
end
end Go.Proofs.YtigkeokacagabagGreatDoor
namespace Go.Proofs.YtigkeokacagabagGreatDoor
open Go.ChangeShapes Go.WideShapes Go.ChangeAt Go.RowKit
set_option maxRecDepth 20000
theorem ru_right {D:Nat→Dm} {n:Nat} (h:(ruErr D n).2.2=0):(allErr D n).2.2=0∧AllR D n:=by
 by_cases h1:(allErr D n).2.2=0
 ·refine ⟨h1,Classical.byContradiction fun hn=>?_⟩
  have hex:∃ i,i<n∧(rErr (D i)).2≠0:=Classical.byContradiction fun he=>hn fun i hi=>Classical.byContradiction fun hb=>he ⟨i,hi,hb⟩
  have hleast:∀ m,(∃ i,i<m∧i<n∧(rErr (D i)).2≠0)→∃ i,i<n∧(rErr (D i)).2≠0∧∀ j,j<i→(rErr (D j)).2=0:=by
   intro m
   induction m with
   | zero=>rintro ⟨i,h,-⟩;omega
   | succ m ih =>
    rintro ⟨i,h3,h4,h5⟩
    by_cases hm:∃ i,i<m∧i<n∧(rErr (D i)).2≠0
    ·exact ih hm
    ·exact ⟨i,h4,h5,fun j hj=>Classical.byContradiction fun hb=>hm ⟨j,by omega,by omega,hb⟩⟩
  obtain ⟨i0,hi0,hb0⟩:=hex
  obtain ⟨i,hi,hb,hf⟩:=hleast n ⟨i0,hi0,hi0,hb0⟩
  rw [ru1 h1 hi hb hf] at h
  exact hb h
 ·rw [ru0 h1] at h
  exact absurd h h1
theorem ru_zero {D:Nat→Dm} {n:Nat} (h1:(allErr D n).2.2=0) (h2:AllR D n):(ruErr D n).2.2=0:=by rw [ru2 h1 h2]
theorem up_acyc {N:List (List Int)} (h:∀ (a:Int),∀ x∈rowN N a,a<x) (i:Nat):cycB N i=false:=by
 rw [cyc_not]
 intro hr
 have hlt:∀ {a b:Int},Rch N a b→a<b:=by
  intro a b hab
  induction hab with
  | one hx=>exact h _ _ hx
  | more hx _ ih=>have:=h _ _ hx;omega
 have:=hlt hr
 omega
end Go.Proofs.YtigkeokacagabagGreatDoor
namespace Go.Proofs.YtigkeokacagabagGreatDoor
open Go Go.ChangeShapes Go.WideShapes Go.ChangeAt Go.RowKit
set_option maxRecDepth 20000
theorem map_take {X:List Int} {h:List Int} {j:Nat} (hj:j<X.length):(X.take (j+1)).map (fun x=>h ++ [x])=(X.take j).map (fun x=>h ++ [x]) ++ [h ++ [X.getD j 0]]:=by
 rw [List.take_succ_eq_append_getElem hj,List.map_append,List.getD_eq_getElem?_getD,List.getElem?_eq_getElem hj]
 rfl
end Go.Proofs.YtigkeokacagabagGreatDoor
namespace Go.Proofs.YtigkeokacagabagGreatDoor
def usrL (N:List (List Int)) (m n:Nat):List Int:=selTo (fun j=>(N.getD j []).contains (m:Int)) n
theorem usr_mem {N:List (List Int)} {m n:Nat} {x:Int}:x∈usrL N m n↔∃ j:Nat,x=j∧j<n∧(m:Int)∈N.getD j []:=by
 unfold usrL
 constructor
 ·intro h
  obtain ⟨j,h1,h2,h3⟩:=selTo_mem x h
  exact ⟨j,h1,h2,List.contains_iff_mem.1 h3⟩
 ·rintro ⟨j,rfl,h2,h3⟩
  exact sel_has h2 (List.contains_iff_mem.2 h3)
end Go.Proofs.YtigkeokacagabagGreatDoor
