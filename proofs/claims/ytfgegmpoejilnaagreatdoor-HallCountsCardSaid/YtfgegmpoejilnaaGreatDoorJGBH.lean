/-
  An outline that is right by all rules is right in each dim (plain); the number of a place and the place of that number.
-/
import Derived.BigRegion
import Derived.OneCell
import Derived.Test.YtfgegmpoejilnaaGreatDoorJGBE
import Derived.Test.YtfgegmpoejilnaaGreatDoorJGBF
import Derived.Test.YtfgegmpoejilnaaGreatDoorJGBG
namespace Go.Proofs.YtfgegmpoejilnaaGreatDoor
open Go.ChangeShapes Go.WideShapes Go.ChangeAt Go.RowKit
set_option maxRecDepth 20000
theorem ru_right {D:Nat→Dm} {n:Nat} (h:(ruErr D n).2.2=0):(allErr D n).2.2=0∧AllR D n:=by
 by_cases h1:(allErr D n).2.2=0
 ·refine ⟨h1,Classical.byContradiction fun hn=>?_⟩
  have hex:∃ i,i<n∧(rErr (D i)).2≠0:=Classical.byContradiction fun he=>hn fun i hi=>Classical.byContradiction fun hb=>he ⟨i,hi,hb⟩
  have hleast:∀ m,(∃ i,i<m∧i<n∧(rErr (D i)).2≠0)→∃ i,i<n∧(rErr (D i)).2≠0∧∀ j,j<i→(rErr (D j)).2=0:=by
   intro m
   induction m with
   | zero=>rintro ⟨i,h,-⟩;omega
   | succ m ih =>
    rintro ⟨i,h3,h4,h5⟩
    by_cases hm:∃ i,i<m∧i<n∧(rErr (D i)).2≠0
    ·exact ih hm
    ·exact ⟨i,h4,h5,fun j hj=>Classical.byContradiction fun hb=>hm ⟨j,by omega,by omega,hb⟩⟩
  obtain ⟨i0,hi0,hb0⟩:=hex
  obtain ⟨i,hi,hb,hf⟩:=hleast n ⟨i0,hi0,hi0,hb0⟩
  rw [ru1 h1 hi hb hf] at h
  exact hb h
 ·rw [ru0 h1] at h
  exact absurd h h1
theorem ru_zero {D:Nat→Dm} {n:Nat} (h1:(allErr D n).2.2=0) (h2:AllR D n):(ruErr D n).2.2=0:=by rw [ru2 h1 h2]
theorem num_lt {D:Nat→Dm} {n:Nat} {p:List Int} (h:InO D n p):∃ x:Nat,numI D p n=(x:Int)∧x<prodN D n∧placeL D n x=p:=by
 obtain ⟨h1,h2,-⟩:=numI_bound h (Nat.le_refl n)
 have h3:=place_num h
 exact ⟨(numI D p n).toNat,by omega,by omega,h3⟩
theorem good_getE {D:Nat→Dm} {n:Nat} {l:List En} (h:Ens D n l) (p:List Int):goodC (getE l p):=by
 unfold getE
 split
 ·exact good_zero
 ·rename_i e r he
  split
  ·exact good_zero
  ·have hm:e∈l:=List.mem_of_mem_drop (i:=cntE l p) (by rw [he];exact List.mem_cons_self ..)
   exact goodC_num (h.each e hm).2.2
theorem wr_at {D:Nat→Dm} {n:Nat} {l:List En} (h:Ens D n l) {j:Nat} (hj:j<prodN D n):(wrV D n l).getD j noC=getE l (placeL D n j):=by
 rw [wr_rwL h]
 simp [rwL,List.getD,hj]
end Go.Proofs.YtfgegmpoejilnaaGreatDoor
namespace Go.Proofs.YtfgegmpoejilnaaGreatDoor
def lettF (k:Nat):ByteArray:=⟨#[97,(97+k).toUInt8]⟩
def flatM (k:Nat):Mem:=match k with
 | 0=>⟨⟨#[97,108,108]⟩,-1,0,⟨#[]⟩⟩
 | k+1=>⟨lettF k,0,1,⟨#[]⟩⟩
def flatD (name:ByteArray) (n:Nat):Dm:=⟨name,0,n+1,flatM⟩
def squareD (n:Nat) (i:Nat):Dm:=flatD (if i=0 then ⟨#[120]⟩ else ⟨#[121]⟩) n
end Go.Proofs.YtfgegmpoejilnaaGreatDoor
namespace Go.Proofs.YtfgegmpoejilnaaGreatDoor
open Go.ChangeShapes Go.WideShapes Go.ChangeAt Go.RowKit
set_option maxRecDepth 20000
theorem own_ne {w:World} {B e T size:Nat} {v:Value} {n:Nat} {xs:List Value} {b:Nat} {cs:Array Value} {fr:Nat×Nat} (hown:w.ownsRow B e size v n xs) (hb:w.heap[b]?=some (.cells cs T fr)) (hTe:T≠e):v.ownBlock≠some b:=by
 rcases hown.2 with ⟨rfl,_⟩ | ⟨g,cap,cur,rfl,_,hg,_⟩
 ·simp [Value.ownBlock]
 ·intro h
  simp only [Value.ownBlock,Option.some.injEq] at h
  subst h
  rw [hg] at hb
  simp only [Option.some.injEq,Obj.cells.injEq] at hb
  exact hTe hb.2.1.symm
end Go.Proofs.YtfgegmpoejilnaaGreatDoor
namespace Go.Proofs.YtfgegmpoejilnaaGreatDoor
def cornP (n k:Nat):List Int:=[((1+k / n:Nat):Int),((1+k % n:Nat):Int)]
end Go.Proofs.YtfgegmpoejilnaaGreatDoor
namespace Go.Proofs.YtfgegmpoejilnaaGreatDoor
set_option maxRecDepth 20000
def someP (M:Nat→Mem) (f:Int→Int×Int) (k:Int):Bool := !((M k.toNat).sign == 0) && ((f k).1 == 1)
theorem parts_sum {M:Nat→Mem} {f:Int→Int×Int} (P:List Int) (a b:Int) (hs:∀ k∈P,-1≤(M k.toNat).sign∧(M k.toNat).sign≤1) (hf:∀ k∈P,((f k).1=1∨((f k).1=0∧(f k).2=0))∧-3000000000≤(f k).2∧(f k).2≤3000000000) (hab:a=1∨(a=0∧b=0)) (h1 : -(1000000000000-3000000000*(P.length:Int))≤b) (h2:b≤1000000000000-3000000000*(P.length:Int)) :
  P.foldl (partStep M f) (a,b)=(if (decide (a=1) || P.any (someP M f))=true then 1 else 0,b+sumP (fun k=>(M k.toNat).sign*(f k).2) P):=by
 induction P generalizing a b with
 | nil =>
  simp only [List.foldl_nil,List.any_nil,Bool.or_false,sumP,Int.add_zero]
  rcases hab with rfl | ⟨rfl,rfl⟩ <;> simp
 | cons k r ih =>
  have hsk:=hs k (List.mem_cons_self ..)
  obtain ⟨hfk,hb1,hb2⟩:=hf k (List.mem_cons_self ..)
  have hs':=fun j hj=>hs j (List.mem_cons_of_mem k hj)
  have hf':=fun j hj=>hf j (List.mem_cons_of_mem k hj)
  simp only [List.length_cons] at h1 h2
  have hlen:(0:Int)≤(r.length:Int):=by omega
  rw [List.foldl_cons,List.any_cons,sumP]
  have e3:(M k.toNat).sign=1∨(M k.toNat).sign = -1∨(M k.toNat).sign=0:=by omega
  rcases e3 with e3 | e3 | e3
  ·have hst:partStep M f (a,b) k=(if (decide (a=1) || decide ((f k).1=1))=true then 1 else 0,b+(f k).2):=by
    unfold partStep
    rw [if_pos e3]
    show plusP a b (f k).1 (f k).2=_
    rcases hab with rfl | ⟨rfl,rfl⟩
    ·rcases hfk with hk | ⟨hk,hk2⟩
     ·rw [hk];unfold plusP joinP;rw [ofP_in (by omega) (by omega)];rfl
     ·rw [hk,hk2];unfold plusP joinP;rw [ofP_in (by omega) (by omega)];rfl
    ·rcases hfk with hk | ⟨hk,hk2⟩
     ·rw [hk];unfold plusP joinP;rw [ofP_in (by omega) (by omega)];rfl
     ·rw [hk,hk2];rfl
   rw [hst,ih _ _ hs' hf' ?_ (by omega) (by omega)]
   ·have hsp:someP M f k=decide ((f k).1=1):=by
     unfold someP
     rw [e3]
     simp
     rfl
    rw [hsp]
    refine Prod.ext ?_ (by simp only [e3];omega)
    simp only
    by_cases ha:a=1
    ·simp [ha]
    ·by_cases hk:(f k).1=1
     ·simp [hk]
     ·simp [ha,hk]
   ·rcases hab with rfl | ⟨rfl,rfl⟩
    ·left;simp
    ·rcases hfk with hk | ⟨hk,hk2⟩
     ·left;simp [hk]
     ·right;simp [hk,hk2]
  ·have hst:partStep M f (a,b) k=(if (decide (a=1) || decide ((f k).1=1))=true then 1 else 0,b-(f k).2):=by
    unfold partStep
    rw [if_neg (by omega),if_pos e3]
    show minusP a b (f k).1 (f k).2=_
    rcases hab with rfl | ⟨rfl,rfl⟩
    ·rcases hfk with hk | ⟨hk,hk2⟩
     ·rw [hk];unfold minusP joinP;rw [ofP_in (by omega) (by omega)];rfl
     ·rw [hk,hk2];unfold minusP joinP;rw [ofP_in (by omega) (by omega)];rfl
    ·rcases hfk with hk | ⟨hk,hk2⟩
     ·rw [hk];unfold minusP joinP;rw [ofP_in (by omega) (by omega)];rfl
     ·rw [hk,hk2];rfl
   rw [hst,ih _ _ hs' hf' ?_ (by omega) (by omega)]
   ·have hsp:someP M f k=decide ((f k).1=1):=by
     unfold someP
     rw [e3]
     simp
     rfl
    rw [hsp]
    refine Prod.ext ?_ (by simp only [e3];omega)
    simp only
    by_cases ha:a=1
    ·simp [ha]
    ·by_cases hk:(f k).1=1
     ·simp [hk]
     ·simp [ha,hk]
   ·rcases hab with rfl | ⟨rfl,rfl⟩
    ·left;simp
    ·rcases hfk with hk | ⟨hk,hk2⟩
     ·left;simp [hk]
     ·right;simp [hk,hk2]
  ·have hst:partStep M f (a,b) k=(a,b):=by
    unfold partStep
    rw [if_neg (by omega),if_neg (by omega)]
   rw [hst,ih _ _ hs' hf' hab (by omega) (by omega)]
   have hsp:someP M f k=false:=by
    unfold someP
    rw [e3]
    rfl
   rw [hsp,e3,Int.zero_mul,Int.zero_add,Bool.false_or]
section
variable {D:Nat→Dm} {n dim:Nat} {l:List En} (hE:Ens D n l) (hd:dim<n) {S:Nat→Bool} (hS:S dim=false)
def addS (S:Nat→Bool) (dim:Nat) (k:Nat):Bool:=S k || decide (k=dim)
include hE hd
theorem leaf_dim {e:En} (he:e∈l):∃ j:Nat,e.pl.getD dim 0=j∧j<(D dim).n∧leafB (D dim).mem (D dim).n j=true:=by
 obtain ⟨h1,h2,-⟩:=hE.each e he
 have h3:=h1.lo dim hd
 have h4:=h1.hi dim hd
 have h5:=leaf_each h2 dim hd
 refine ⟨(e.pl.getD dim 0).toNat,by omega,by omega,h5⟩
include hS
theorem gw_bare {e:En} (he:e∈l) {p:List Int} {m:Nat} (hm:m<(D dim).n) (hp:p.getD dim 0=m) (hP:partsOf (D dim).mem (D dim).n (m:Int)=[]):gwTo D (addS S dim) p e.pl n=gwTo D S p e.pl n:=by
 have ht:Tr (D dim).mem (D dim).n:=Tr.of ((allErr_right hE.right).2 dim hd)
 obtain ⟨j,hj,hjn,-⟩:=leaf_dim hE hd he
 refine gw_congr n fun k hk=>?_
 by_cases e1:k=dim
 ·subst e1
  unfold facS addS
  rw [hS,hp,hj]
  simp only [decide_true,Bool.or_true,if_true,Bool.false_eq_true,if_false]
  by_cases e2:m=j
  ·subst e2
   rw [if_pos rfl,weightOf,pathOf_cons ht hm,wgt_hit]
  ·rw [if_neg (by omega),weightOf,wgt_out]
   intro h
   obtain ⟨q,h1,h2⟩:=part_has ht (j+1) j hjn (by omega) (fun h=>e2 h.symm) h
   have:=sel_in h1 h2
   rw [show selTo (partB (D k).mem (m:Int)) (D k).n=[] from hP] at this
   cases this
 ·unfold facS addS
  simp [e1]
omit hS
theorem gw_parts {e:En} (he:e∈l) {p:List Int} {m:Nat} (hp:p.getD dim 0=m) (hP:partsOf (D dim).mem (D dim).n (m:Int)≠[]) (pk:Int→List Int) (hpk:∀ k,k∈partsOf (D dim).mem (D dim).n (m:Int)→(pk k).getD dim 0=k∧∀ i,i<n→i≠dim→(pk k).getD i 0=p.getD i 0) :
  gwTo D (addS S dim) p e.pl n=sumP (fun k=>((D dim).mem k.toNat).sign*gwTo D (addS S dim) (pk k) e.pl n) (partsOf (D dim).mem (D dim).n (m:Int)) ∧
  (gwTo D (addS S dim) p e.pl n≠0↔∃ k,k∈partsOf (D dim).mem (D dim).n (m:Int)∧((D dim).mem k.toNat).sign≠0∧gwTo D (addS S dim) (pk k) e.pl n≠0):=by
 have ht:Tr (D dim).mem (D dim).n:=Tr.of ((allErr_right hE.right).2 dim hd)
 obtain ⟨j,hj,hjn,hjl⟩:=leaf_dim hE hd he
 have hne:j≠m:=fun e=>hP (by rw [←e];exact leaf_parts hjl)
 have hfac:∀ q:List Int,facS D (addS S dim) q e.pl dim=weightOf (D dim).mem (q.getD dim 0) (j:Int):=fun q=>by unfold facS addS;rw [hj];simp
 have hw:∀ q:List Int,gwTo D (addS S dim) q e.pl n=grTo D (addS S dim) dim q e.pl n*weightOf (D dim).mem (q.getD dim 0) (j:Int):=fun q=>by rw [gw_split D (addS S dim) dim q e.pl n,if_pos hd,hfac]
 obtain ⟨c,hc⟩:∃ c,grTo D (addS S dim) dim p e.pl n=c:=⟨_,rfl⟩
 have hwk:∀ k,k∈partsOf (D dim).mem (D dim).n (m:Int)→gwTo D (addS S dim) (pk k) e.pl n=c*weightOf (D dim).mem k (j:Int):=fun k hk=>by
  obtain ⟨h1,h2⟩:=hpk k hk
  rw [hw,h1,←hc,gr_congr n h2]
 rw [hw,hp,hc]
 rcases part_cases ht hjn hne with ⟨h0,hz⟩ | ⟨k0,hk0,hp0,h0,hz⟩
 ·have hall:∀ k,k∈partsOf (D dim).mem (D dim).n (m:Int)→gwTo D (addS S dim) (pk k) e.pl n=0:=fun k hk=>by
   obtain ⟨q,rfl,hq,hpq⟩:=selTo_mem k hk
   rw [hwk _ hk,hz q hq hpq,Int.mul_zero]
  rw [h0,Int.mul_zero]
  refine ⟨(sumP_zero fun k hk=>by rw [hall k hk,Int.mul_zero]).symm,fun h=>absurd rfl h,fun ⟨k,hk,_,h⟩=>absurd (hall k hk) h⟩
 ·have hk0m:(k0:Int)∈partsOf (D dim).mem (D dim).n (m:Int):=sel_in hk0 hp0
  have hkz:∀ q,q<(D dim).n→partB (D dim).mem (m:Int) q=true→q≠k0→gwTo D (addS S dim) (pk (q:Int)) e.pl n=0:=fun q hq hpq hqn=>by rw [hwk _ (sel_in hq hpq),hz q hq hpq hqn,Int.mul_zero]
  have e1:c*weightOf (D dim).mem (m:Int) (j:Int)=((D dim).mem k0).sign*gwTo D (addS S dim) (pk (k0:Int)) e.pl n:=by rw [h0,hwk _ hk0m,←Int.mul_assoc,Int.mul_comm c,Int.mul_assoc]
  rw [e1]
  refine ⟨?_,fun h=>⟨k0,hk0m,fun h1=>h (by rw [show ((k0:Int)).toNat=k0 by omega] at h1;rw [h1,Int.zero_mul]),fun h1=>h (by rw [h1,Int.mul_zero])⟩,fun ⟨k,hk,hs,hg⟩=>?_⟩
  ·have:=sel_single (f:=fun k=>((D dim).mem k.toNat).sign*gwTo D (addS S dim) (pk k) e.pl n) (D dim).n hk0 hp0 fun q hq hpq hqn=>by rw [hkz q hq hpq hqn,Int.mul_zero]
   exact this.symm
  ·obtain ⟨q,rfl,hq,hpq⟩:=selTo_mem k hk
   by_cases e2:q=k0
   ·subst e2
    rw [show ((q:Int)).toNat=q by omega] at hs
    exact Int.mul_ne_zero hs hg
   ·exact absurd (hkz q hq hpq e2) hg
end
theorem gN_parts {D:Nat→Dm} {n:Nat} {S:Nat→Bool} {p:List Int} {P:List Int} {sg:Int→Int} {pk:Int→List Int}:∀ l:List En,(∀ e∈l,gwTo D S p e.pl n=sumP (fun k=>sg k*gwTo D S (pk k) e.pl n) P)→gN D n S p l=sumP (fun k=>sg k*gN D n S (pk k) l) P
 | [],_=>by
  rw [gN]
  exact (sumP_zero fun k _=>by rw [gN,Int.mul_zero]).symm
 | e :: r,h=>by
  rw [gN,gN_parts r fun x hx=>h x (List.mem_cons_of_mem _ hx),h e (List.mem_cons_self ..),←sumP_mul,←sumP_add]
  exact sumP_congr fun k _=>by rw [gN,Int.mul_add,Int.mul_assoc]
section
variable {D:Nat→Dm} {n dim:Nat} {l:List En} (hE:Ens D n l) (hd:dim<n) {S:Nat→Bool}
include hE hd
theorem gL_fix {m:Nat}:FixAt D n dim m (gL D n (addS S dim) l):=fun y hy hm hP=>by
 rw [gL_len] at hy
 have hR:=hE.right
 obtain ⟨-,-,hp3,hdn⟩:=allErr_some hR
 have hdk:=(allErr_right hR).2 dim hd
 have hpos:∀ i,i<n→1≤(D i).n:=fun i hi=>(hdn i hi).1
 have ht:=Tr.of hdk
 have hsg:=Sg.of hdk
 rw [gL_at hy]
 obtain ⟨pk,hpkd⟩:∃ pk:Int→List Int,pk=fun k=>placeL D n (((y:Int)+(k-(m:Int))*(stepD D n dim:Int)).toNat):=⟨_,rfl⟩
 have hat:∀ k,k∈partsOf (D dim).mem (D dim).n (m:Int)→atP D n dim m y (gL D n (addS S dim) l) k=gV D n (addS S dim) l (pk k)∧((pk k).getD dim 0=k∧∀ i,i<n→i≠dim→(pk k).getD i 0=(placeL D n y).getD i 0):=fun k hk=>by
  obtain ⟨j,rfl,h1,h2,-⟩:=part_behind ht hk
  obtain ⟨z,hz,hzl,hzd,hzo⟩:=part_place hpos hd hy hm h2
  have e:pk (j:Int)=placeL D n z:=by rw [hpkd];simp only;rw [hz];rfl
  rw [e]
  refine ⟨?_,?_,fun i hi hne=>?_⟩
  ·unfold atP cAt
   rw [hz]
   exact gL_at hzl
  ·rw [placeL_at hd,digit_step hd,hzd]
  ·rw [placeL_at hi,placeL_at hi,hzo i hi hne]
 have hpd:(placeL D n y).getD dim 0=(m:Int):=by rw [placeL_at hd,digit_step hd,hm]
 have hgp:=fun e he=>gw_parts (S:=S) hE hd (e:=e) he hpd hP pk fun k hk=>(hat k hk).2
 unfold partsV
 rw [parts_same (g:=fun k=>gV D n (addS S dim) l (pk k)) _ _ fun k hk=>(hat k hk).1]
 have hfew:=hE.few
 have hPl:(partsOf (D dim).mem (D dim).n (m:Int)).length≤12:=Nat.le_trans (selTo_len _ _) (hdn dim hd).2
 rw [parts_sum _ 0 0 (fun k hk=>by obtain ⟨j,rfl,-,h2,-⟩:=part_behind ht hk;exact hsg j h2) (fun k _=>by
  have hb:=gN_bound (D:=D) (n:=n) (addS S dim) (pk k) l hE.each
  refine ⟨?_,by unfold gV;simp only;omega,by unfold gV;simp only;omega⟩
  unfold gV
  simp only
  cases ha:l.any (gB D n (addS S dim) (pk k))
  ·right;exact ⟨by simp,gN_none ha⟩
  ·left;simp) (Or.inr ⟨rfl,rfl⟩) (by omega) (by omega)]
 unfold gV
 refine Prod.ext ?_ ?_
 ·simp only
  have:l.any (gB D n (addS S dim) (placeL D n y))=(decide ((0:Int)=1) || (partsOf (D dim).mem (D dim).n (m:Int)).any (someP (D dim).mem fun k=>(if l.any (gB D n (addS S dim) (pk k))=true then 1 else 0,gN D n (addS S dim) (pk k) l))):=by
   rw [show decide ((0:Int)=1)=false from rfl,Bool.false_or,Bool.eq_iff_iff,List.any_eq_true,List.any_eq_true]
   constructor
   ·rintro ⟨e,he,hb⟩
    have hb':gwTo D (addS S dim) (placeL D n y) e.pl n≠0:=by unfold gB at hb;simpa using hb
    obtain ⟨k,hk,hs,hg⟩:=(hgp e he).2.1 hb'
    refine ⟨k,hk,?_⟩
    unfold someP
    have:l.any (gB D n (addS S dim) (pk k))=true:=List.any_eq_true.2 ⟨e,he,by unfold gB;simpa using hg⟩
    simp [this,hs]
   ·rintro ⟨k,hk,hb⟩
    unfold someP at hb
    simp only [Bool.and_eq_true] at hb
    have hs:((D dim).mem k.toNat).sign≠0:=by simpa using hb.1
    have hany:l.any (gB D n (addS S dim) (pk k))=true:=by
     cases ha:l.any (gB D n (addS S dim) (pk k))
     ·rw [ha] at hb;simp at hb
     ·rfl
    obtain ⟨e,he,hg⟩:=List.any_eq_true.1 hany
    refine ⟨e,he,?_⟩
    have:=(hgp e he).2.2 ⟨k,hk,hs,by unfold gB at hg;simpa using hg⟩
    unfold gB
    simpa using this
  rw [this]
 ·simp only [Int.zero_add]
  exact gN_parts l fun e he=>(hgp e he).1
end
end Go.Proofs.YtfgegmpoejilnaaGreatDoor
namespace Go.Proofs.YtfgegmpoejilnaaGreatDoor
open Go.ChangeShapes Go.WideShapes Go.ChangeAt Go.RowKit
open Go.Sort (putRow Holds grow holds_putRow)
set_option maxRecDepth 20000
theorem grow_later (w:World) (os:Array Obj):Below w.heap.size w (grow w os):=⟨rfl,rfl,rfl,by simp,fun k hk=>Sort.heap_grow_old _ _ hk⟩
theorem sorted_own {w:World} {base g n cap q:Nat} {zs ys:List Int} {os:Array Obj} (h:w.ownsRow base 3 1 (.slice (some ⟨g,0,none⟩) n cap) n (mapI zs)) (hy:ys.length=n):(grow (putRow (Value.int .i64) (Sort.ahead w q) g 0 ys.toArray) os).ownsRow base 3 1 (.slice (some ⟨g,0,none⟩) n cap) n (mapI ys):=by
 have h1:=Lib.ownsRow_putRow (enc:=Value.int .i64) (q:=q) (zs:=zs) (ys:=ys) (k:=n) h hy (Nat.le_refl _)
 rw [List.take_of_length_le (by omega)] at h1
 exact own_later h1 (grow_later _ _)
theorem sorted_off {w:World} {g n b:Nat} {d:Array Int} {os:Array Obj} (hb:b<w.heap.size) (hg:b≠g):(grow (putRow (Value.int .i64) (Sort.ahead w n) g 0 d) os).heap[b]?=w.heap[b]?:=by
 rw [Sort.heap_grow_old _ _ (by simpa using hb),put_offI hg]
 rfl
theorem srt_lt {L:List Int} (h:L.Nodup):(L.mergeSort fun a b=>decide (a≤b)).Pairwise (· < ·):=by
 have hnd:List.Pairwise (fun a b=>a≠b) (L.mergeSort fun a b=>decide (a≤b)):=(List.mergeSort_perm _ _).symm.pairwise h fun {a b} h e=>h e.symm
 exact ((srt_ints _).and hnd).imp fun h=>by omega
def RK (w:World) (W0:World) (bS bF bM N:Nat) (nx:Nat→List Int) (S:List Int) (k:Nat) (v:Value) (L:List Int):Prop:=RS w W0.heap.size bS bF bM v L∧ReI nx S L k∧k≤L.length∧InN N L∧Below W0.heap.size W0 w
set_option maxHeartbeats 16000000 in
theorem nreach_any (F:Nat) (fa cp:Array Value) (nx:Nat→List Int) (N:Nat) (hent:∀ (args:Array Value) (w:World),(callFunc F args).run Tryz.prog w=.ok (.enter F args) w) (A:Option Addr) (c:Nat) (S:List Int) (w:World) (hN:N≤3000) (hSl:S.length≤3000) (hS:IntT w A c S) (hSi:InN N S) (hxi:∀ y,y<N→InN N (nx y)) (hxl:∀ y,y<N→(nx y).length≤3000)
  (hF:∀ (y:Nat) (w':World),y<N→Below w.heap.size w w'→Calls Tryz.prog F (fa ++ #[.int .i64 y] ++ cp) w' fun e w''=>(∃ A' c',e=.returned (.tuple #[.slice A' (nx y).length c',.nilIface])∧IntT w'' A' c' (nx y)∧∀ a,A'=some a→a.block<w.heap.size∨w'.heap.size≤a.block)∧Below w'.heap.size w' w'') :
  Calls Tryz.prog 81 #[.slice A S.length c,.func (.func F) fa cp] w fun e w'=>(∃ v L,e=.returned (.tuple #[v,.nilIface])∧w'.ownsRow w.heap.size 3 1 v L.length (mapI L)∧L.Pairwise (· < ·)∧∀ z,z∈L↔Rea nx S z)∧Below w.heap.size w w':=by
 have hmm := @run_makeMap Tryz.prog
 have hR0:=RS.made w
 obtain ⟨W,hW⟩:∃ W,((w.alloc (.cells #[.slice none 0 0] 38)).alloc (.map #[] 0)).alloc (.cells #[.map (some (w.heap.size+1))] 178)=W:=⟨_,rfl⟩
 have hBW:Below w.heap.size w W:=by rw [←hW];go_grown
 rw [hW] at hR0
 rw [show w.heap.size+2=w.heap.size+1+1 from rfl] at hR0
 have hm1:=meet_any w (w.heap.size+1+1) w.heap.size (w.heap.size+1) N (.slice none 0 0) [] A c S W hN hSl hSi ⟨hR0,List.prefix_refl _,List.nodup_nil,fun z hz=>(by cases hz),fun z=>(by simp),hS.later hBW,fun a ha e=>(by cases e),hBW⟩
 have HMt:Hid (∀ v L A' c' T w',T.length≤3000→InN N T→RM w' w (w.heap.size+1+1) w.heap.size (w.heap.size+1) N L A' c' T 0 v L→Calls Tryz.prog 112 #[.slice A' T.length c',.pointer (some ⟨w.heap.size+1+1,0,none⟩),.pointer (some ⟨w.heap.size,0,none⟩)] w' fun e w''=>e=.returned (.tuple #[])∧∃ v' L',RM w'' w (w.heap.size+1+1) w.heap.size (w.heap.size+1) N L A' c' T T.length v' L'):=fun v L A' c' T w' h1 h2 h3=>meet_any w _ _ _ N v L A' c' T w' hN h1 h2 h3
 have HXi:=hid_of hxi
 have HXl:=hid_of hxl
 have HF:=hid_of hF
 have HN3:Hid (N≤3000):=hN
 obtain ⟨sl,hsl⟩:∃ sl,S.length=sl:=⟨_,rfl⟩
 have HSl:Hid (S.length=sl):=hsl
 rw [hsl] at hm1 ⊢
 have hem:=ent_meet
 clear hR0 hBW hF hxi hxl hS hSi hsl hSl
 go_enter Tryz.func81,Tryz.ntmps81
 go_wp2_with fail
 refine hm1.mono ?_
 rintro e w1 ⟨rfl,v1,L1,hR1⟩
 have HK1:Hid (∃ v L,RK w1 w (w.heap.size+1+1) w.heap.size (w.heap.size+1) N nx S 0 v L):=by
  obtain ⟨r1,r2,r3,r4,r5,r6,r7,r8⟩:=hR1
  refine ⟨v1,L1,r1,ReI.first r3 fun z=>?_,Nat.zero_le _,r4,r8⟩
  rw [r5 z,←HSl.out,List.take_length]
 clear hR1 hm1 hW
 go_wp2_with fail
 go_loopg [9] N (fun gg s9 wr => ∃ (k:Nat),k≤N∧gg=N-k∧s9=.int .i64 k∧Hid (∃ v L,RK wr w (w.heap.size+1+1) w.heap.size (w.heap.size+1) N nx S k v L))
 case atStart=>exact ⟨0,Nat.zero_le _,rfl,rfl,HK1⟩
 case round =>
  obtain ⟨k,hk,rfl,rfl,HK⟩:=hrel
  obtain ⟨v,L,hRK⟩:=HK.out
  have HR:=hid_of hRK
  obtain ⟨hRS,hRI,hkL,hin,hBw⟩:=hRK
  obtain ⟨c0,c1,f1,hbs,hbf⟩:=hRS.cells
  have hLN:=inN_few hin hRI.nd
  obtain ⟨AO,cO,hv⟩:∃ AO cO,v=.slice AO L.length cO:=by
   rcases hRS.own.2 with ⟨h1,h2⟩ | ⟨g,cap,cur,h1,-⟩
   ·exact ⟨none,0,by rw [h1,h2]⟩
   ·exact ⟨_,_,h1⟩
  subst hv
  obtain ⟨ln,hln⟩:∃ ln,L.length=ln:=⟨_,rfl⟩
  have HLn:Hid (L.length=ln):=hln
  rw [hln] at c1 hkL hLN
  have hlnI:(ln:Int)≤3000:=by omega
  by_cases hlt:k<ln
  ·have hki:(k:Int)<(ln:Int):=by omega
   have hkT:k<L.length:=by rw [HLn.out];exact hlt
   obtain ⟨y,hy,hyN⟩:=hin _ (getD_memI hkT)
   obtain ⟨A1,c1',e1,hI1⟩:=intT_own hRS.own
   cases e1
   obtain ⟨hcS,-,hS0 | ⟨bt,cs,fr,rfl,hbT,hcl⟩⟩:=hI1
   ·rw [hS0] at hkT;simp at hkT
   have cx:=hcl k hkT
   have hbt:bt<wr.heap.size:=(Array.getElem?_eq_some_iff.1 hbT).1
   rw [HLn.out] at hcS
   rw [hy] at cx
   have hcSI:(ln:Int)≤(cO:Int):=by omega
   have hf:=HF.out y wr hyN hBw
   have hxy:=HXl.out y hyN
   obtain ⟨T,hT⟩:∃ T,nx y=T:=⟨_,rfl⟩
   rw [hT] at hf hxy
   have HT:Hid (nx y=T):=hT
   have HNext:Hid (∀ A' c' w3,Below wr.heap.size wr w3→IntT w3 A' c' T→(∀ a,A'=some a→a.block<w.heap.size∨wr.heap.size≤a.block)→RM w3 w (w.heap.size+1+1) w.heap.size (w.heap.size+1) N L A' c' T 0 (.slice (some ⟨bt,0,none⟩) L.length cO) L):=fun A' c' w3 hb3 hI3 hA3=>by
    obtain ⟨g1,g2,g3,g4,g5⟩:=HR.out
    refine ⟨g1.later hb3,List.prefix_refl _,g2.nd,g4,fun z=>by simp,hI3,fun a ha e=>?_,onB g5 hb3⟩
    have h1:=own_blk g1.own e
    rcases hA3 a ha with h | h
    ·omega
    ·omega
   have HDone:Hid (∀ A' c' w4 v' L',RM w4 w (w.heap.size+1+1) w.heap.size (w.heap.size+1) N L A' c' T T.length v' L'→∃ v L,RK w4 w (w.heap.size+1+1) w.heap.size (w.heap.size+1) N nx S (k+1) v L):=fun A' c' w4 v' L' h=>by
    obtain ⟨r1,r2,r3,r4,r5,r6,r7,r8⟩:=h
    obtain ⟨g1,g2,g3,g4,g5⟩:=HR.out
    refine ⟨v',L',r1,g2.next hkT hy r2 r3 fun z=>?_,?_,r4,r8⟩
    ·rw [r5 z,List.take_length,HT.out]
    ·have:=r2.length_le
     omega
   have HTi:Hid (InN N T):=by rw [←hT];exact HXi.out y hyN
   obtain ⟨tl,htl⟩:∃ tl,T.length=tl:=⟨_,rfl⟩
   have HTl:Hid (T.length=tl):=htl
   rw [htl] at hf hxy
   have hty:(y:Int)<3000:=by have:=HN3.out;omega
   clear hRS hRI hin hBw hcl hbT hy hT htl f1
   go_wp2_with fail
   refine hf.mono ?_
   rintro e w3 ⟨⟨A',c',rfl,hI3,hA3⟩,hb3⟩
   have hmt:=HMt.out _ L A' c' T w3 (by rw [HTl.out];exact hxy) HTi.out (HNext.out A' c' w3 hb3 hI3 hA3)
   rw [HTl.out] at hmt
   clear hf hI3 hA3 hb3
   go_wp2_with fail
   refine hmt.mono ?_
   rintro e w4 ⟨rfl,v',L',hR4⟩
   have HK4:=hid_of (HDone.out A' c' w4 v' L' (by rw [HTl.out];exact hR4))
   clear hmt hR4
   go_wp2_with fail
   go_roundg (N-(k+1))
   case measure=>omega
   case rel=>exact ⟨k+1,by omega,rfl,by go_num,HK4⟩
  ·have hke:k=ln:=by omega
   subst hke
   have HAll:Hid (∀ z,z∈L↔Rea nx S z):=by
    have h:=hRI
    rw [←HLn.out] at h
    exact h.all
   have HLt:Hid ((L.mergeSort fun a b=>decide (a≤b)).Pairwise (· < ·)):=srt_lt hRI.nd
   have HMm:Hid (∀ z,z∈(L.mergeSort fun a b=>decide (a≤b))↔z∈L):=fun z=>(List.mergeSort_perm _ _).mem_iff
   have HLl:Hid ((L.mergeSort fun a b=>decide (a≤b)).length=k):=by show _=_;rw [List.length_mergeSort];exact HLn.out
   by_cases hz:Value.slice AO k cO=.slice none 0 0
   ·cases hz
    have hso:=Any.slices_Sort_int_none Tryz.lays189 none 0 wr
    have HZ0:Hid ((L.mergeSort fun a b=>decide (a≤b))=[]):=List.eq_nil_of_length_eq_zero HLl.out
    have HBw:Hid (Below w.heap.size w wr):=hBw
    clear hRS hRI hin hBw f1
    go_wp2_with fail
    refine Calls.mono hso ?_
    rintro e w4 ⟨rfl,rfl⟩
    go_wp2_with fail
    go_returns
    refine ⟨⟨_,L.mergeSort fun a b=>decide (a≤b),rfl,by rw [HZ0.out];exact World.ownsRow_nil _ _ _ _,HLt.out,fun z=>(HMm.out z).trans (HAll.out z)⟩,HBw.out⟩
   ·have hO:=hRS.own
    rw [HLn.out] at hO
    obtain ⟨gg,cc,hv2,hgb,hgl,hnc,hcm,-,hH⟩:=Lib.holds_of_ownsRow (enc:=Value.int .i64) (zs:=L) hO hz
    cases hv2
    have hso:=Any.slices_Sort_int Tryz.lays189 gg 0 cO L wr hH hgl (by have:=HLn.out;omega)
    rw [HLn.out] at hso
    obtain ⟨ys,hys⟩:∃ ys,(L.mergeSort fun x y=>decide (x≤y))=ys:=⟨_,rfl⟩
    rw [hys] at hso HLt HMm HLl
    have hne:w.heap.size≠gg:=fun e=>(hRS.ne.2.2.2 gg rfl).2.1 e.symm
    have HOs:Hid (∀ q2 os,(grow (putRow (Value.int .i64) (Sort.ahead wr q2) gg 0 ys.toArray) os).ownsRow w.heap.size 3 1 (.slice (some ⟨gg,0,none⟩) k cO) k (mapI ys)):=fun q2 os=>sorted_own hO HLl.out
    have HCs:Hid (∀ q2 os,(grow (putRow (Value.int .i64) (Sort.ahead wr q2) gg 0 ys.toArray) os).cell? ⟨w.heap.size,0,none⟩=some (.slice (some ⟨gg,0,none⟩) k cO)∧w.heap.size<(grow (putRow (Value.int .i64) (Sort.ahead wr q2) gg 0 ys.toArray) os).heap.size):=fun q2 os=>by
     have h:=(World.cell?_of_block (a:=⟨w.heap.size,0,none⟩) (sorted_off (w:=wr) (n:=q2) (d:=ys.toArray) (os:=os) hbf hne)).trans hRS.cells.2.1
     rw [HLn.out] at h
     exact ⟨h,(Array.getElem?_eq_some_iff.1 ((sorted_off (w:=wr) (n:=q2) (d:=ys.toArray) (os:=os) hbf hne).trans hRS.hF)).1⟩
    have HBs:Hid (∀ q2 os,Below w.heap.size w (grow (putRow (Value.int .i64) (Sort.ahead wr q2) gg 0 ys.toArray) os)):=fun q2 os=>sorted_belowI hBw hgb
    clear hRS hRI hin hBw hO hH hys f1
    go_wp2_with fail
    refine Calls.mono hso ?_
    rintro e w4 ⟨rfl,q2,os,hw4⟩
    have HO4:Hid (w4.ownsRow w.heap.size 3 1 (.slice (some ⟨gg,0,none⟩) k cO) k (mapI ys)):=by rw [hw4];exact HOs.out q2 os
    have HB4:Hid (Below w.heap.size w w4):=by rw [hw4];exact HBs.out q2 os
    have c4:w4.cell? ⟨w.heap.size,0,none⟩=some (.slice (some ⟨gg,0,none⟩) k cO):=by rw [hw4];exact (HCs.out q2 os).1
    have hs4:w.heap.size<w4.heap.size:=by rw [hw4];exact (HCs.out q2 os).2
    clear hw4 hso c0 c1
    go_wp2_with fail
    go_returns
    exact ⟨⟨_,ys,rfl,by rw [HLl.out];exact HO4.out,HLt.out,fun z=>(HMm.out z).trans (HAll.out z)⟩,HB4.out⟩
end Go.Proofs.YtfgegmpoejilnaaGreatDoor
namespace Go.Proofs.YtfgegmpoejilnaaGreatDoor
open Go.ChangeShapes Go.WideShapes Go.ChangeAt Go.RowKit
set_option maxRecDepth 20000
section
variable {D:Nat→Dm} {n:Nat}
theorem rows_in (hR:AllR D n) (hE:(allErr D n).2.2=0) (y:Nat) (hy:y<prodN D n):InN (prodN D n) ((rowsL D n).getD y []):=fun z hz=>by
 have:=rows_inn hR hE y (by rw [rows_len];exact hy) z hz
 rw [rows_len] at this
 exact ⟨z.toNat,by omega,by omega⟩
end
theorem rowF_mc (M:Nat→Mem) (n:Nat):rowF (mcV M) (n*4)=cellsMb M n:=by
 refine List.ext_getElem? fun j=>?_
 by_cases hj:j<n*4
 ·rw [rowF_get _ hj]
  obtain ⟨x0,x1,x2,x3⟩:=cellsMb_at M n (j / 4) (by omega)
  unfold mcV
  split
  ·rw [show (cellsMb M n)[j]?=(cellsMb M n)[j / 4*4]? from congrArg (fun t=>(cellsMb M n)[t]?) (by omega)];exact x0.symm
  ·split
   ·rw [show (cellsMb M n)[j]?=(cellsMb M n)[j / 4*4+1]? from congrArg (fun t=>(cellsMb M n)[t]?) (by omega)];exact x1.symm
   ·split
    ·rw [show (cellsMb M n)[j]?=(cellsMb M n)[j / 4*4+2]? from congrArg (fun t=>(cellsMb M n)[t]?) (by omega)];exact x2.symm
    ·rw [show (cellsMb M n)[j]?=(cellsMb M n)[j / 4*4+3]? from congrArg (fun t=>(cellsMb M n)[t]?) (by omega)];exact x3.symm
 ·rw [List.getElem?_eq_none (by rw [rowF_len];omega),List.getElem?_eq_none (by rw [cellsMb_len];omega)]
theorem rowF_dc (D:Nat→Dm) (A:Nat→Option Addr) (C:Nat→Nat) (n:Nat):rowF (dcV D A C) (n*3)=cellsDo D A C n:=by
 refine List.ext_getElem? fun j=>?_
 by_cases hj:j<n*3
 ·rw [rowF_get _ hj]
  obtain ⟨x0,x1,x2⟩:=cellsDo_at D A C n (j / 3) (by omega)
  unfold dcV
  split
  ·rw [show (cellsDo D A C n)[j]?=(cellsDo D A C n)[j / 3*3]? from congrArg (fun t=>(cellsDo D A C n)[t]?) (by omega)];exact x0.symm
  ·split
   ·rw [show (cellsDo D A C n)[j]?=(cellsDo D A C n)[j / 3*3+1]? from congrArg (fun t=>(cellsDo D A C n)[t]?) (by omega)];exact x1.symm
   ·rw [show (cellsDo D A C n)[j]?=(cellsDo D A C n)[j / 3*3+2]? from congrArg (fun t=>(cellsDo D A C n)[t]?) (by omega)];exact x2.symm
 ·rw [List.getElem?_eq_none (by rw [rowF_len];omega),List.getElem?_eq_none (by rw [cellsDo_len];omega)]
set_option maxHeartbeats 2000000 in
theorem mclone_own (b o c n:Nat) (M:Nat→Mem) (w:World) (hn0:0<n) (hn:n≤12) (hL:MemsAt w b o n M):Calls Tryz.prog 43 #[.slice (some ⟨b,o,none⟩) n c] w fun e w'=>(∃ g c',e=.returned (.slice (some ⟨g,0,none⟩) n c')∧w'.ownsRow w.heap.size 27 4 (.slice (some ⟨g,0,none⟩) n c') n (cellsMb M n))∧Below w.heap.size w w':=by
 have hq:∀ (w:World) (a:Option Addr) (n c n' c':Nat),(binOp .eql 28 (.slice a n c) (.slice none n' c')).run Tryz.prog w=.ok (.bool a.isNone) w:=fun w a n c n' c'=>Lib.run_eql_slice_nil w _ _ a n c n' c' Tryz.underlying28
 obtain ⟨i0,hi0,hz0,hz1,hz2⟩:=info_parts Tryz.infoMemH
 have HC:Hid (∀ j u,(rowF (mcV M) (n*4))[j]?=some u→w.cell? ((⟨b,o,none⟩:Addr).add j)=some u):=fun j u hj=>by
  obtain ⟨h1,rfl⟩:=rowF_at hj
  rw [plain_add]
  exact hL.mc h1
 have HF:Hid (∀ (w':World) (v:Value),w'.ownsRow w.heap.size 27 4 v n (rowF (mcV M) (n*4))→∃ g c',v=.slice (some ⟨g,0,none⟩) n c'∧w'.ownsRow w.heap.size 27 4 (.slice (some ⟨g,0,none⟩) n c') n (cellsMb M n)):=fun w' v h=>by
  rw [rowF_mc] at h
  rcases h.2 with ⟨rfl,h0⟩ | ⟨g,cap,cur,rfl,_⟩
  ·omega
  ·exact ⟨g,cap,rfl,h⟩
 have hl:(rowF (mcV M) (n*4)).length=n*4:=rowF_len _ _
 have h1:=mcV_one M (n*4)
 generalize rowF (mcV M) (n*4)=R at HC HF hl h1
 clear hL
 go_enter Tryz.func43,Tryz.ntmps43
 go_wp2_with (at_builtin;refine wpList_append_own _ rfl _ _ 28 rfl w.heap.size 27 i0 (.agg #[.string ⟨#[]⟩,.int .i64 0,.int .i64 0,.string ⟨#[]⟩]) 4 48 Tryz.underlying28 hi0 hz0 hz1 hz2 rfl (by decide) _ _ _ rfl (World.ownsRow_made w #[] 0 (Nat.le_refl _) (Nat.zero_le _) (by simp)) ⟨b,o,none⟩ n c R rfl ?qc1 ?qc2 ?qc3 ?qc4 ?qc5 ?qc6 ?_)
 case qc1=>exact hl
 case qc2=>exact fun j u hj=>Lib.cell?_alloc_some _ (HC.out j u hj)
 case qc3=>exact h1
 case qc4=>simp only [maxLen];omega
 case qc5=>omega
 case qc6=>simp
 intro v' w1 hown hgrow hnil
 obtain ⟨g,c',rfl,hg⟩:=HF.out _ _ (by simpa using hown)
 have HT:=hid_of hg
 have HB:Hid (Below w.heap.size w w1):=((Below.refl _ w).alloc (Nat.le_refl _) _).grown hgrow (by simp) (by intro k hk;simp [Value.ownBlock] at hk;omega)
 clear hown hgrow hnil hg
 go_wp2_with fail
 go_ret
 exact ⟨⟨g,c',rfl,HT.out⟩,HB.out⟩
set_option maxHeartbeats 2000000 in
theorem dclone_own (b o c n:Nat) (D:Nat→Dm) (A:Nat→Option Addr) (C:Nat→Nat) (w:World) (hn0:0<n) (hn:n≤4) (hL:DimsAt w b o n D A C):Calls Tryz.prog 41 #[.slice (some ⟨b,o,none⟩) n c] w fun e w'=>(∃ g c',e=.returned (.slice (some ⟨g,0,none⟩) n c')∧w'.ownsRow w.heap.size 30 3 (.slice (some ⟨g,0,none⟩) n c') n (cellsDo D A C n))∧Below w.heap.size w w':=by
 have hq:∀ (w:World) (a:Option Addr) (n c n' c':Nat),(binOp .eql 22 (.slice a n c) (.slice none n' c')).run Tryz.prog w=.ok (.bool a.isNone) w:=fun w a n c n' c'=>Lib.run_eql_slice_nil w _ _ a n c n' c' Tryz.underlying22
 obtain ⟨i0,hi0,hz0,hz1,hz2⟩:=info_parts Tryz.infoDimH
 have HC:Hid (∀ j u,(rowF (dcV D A C) (n*3))[j]?=some u→w.cell? ((⟨b,o,none⟩:Addr).add j)=some u):=fun j u hj=>by
  obtain ⟨h1,rfl⟩:=rowF_at hj
  rw [plain_add]
  exact hL.dc h1
 have HF:Hid (∀ (w':World) (v:Value),w'.ownsRow w.heap.size 30 3 v n (rowF (dcV D A C) (n*3))→∃ g c',v=.slice (some ⟨g,0,none⟩) n c'∧w'.ownsRow w.heap.size 30 3 (.slice (some ⟨g,0,none⟩) n c') n (cellsDo D A C n)):=fun w' v h=>by
  rw [rowF_dc] at h
  rcases h.2 with ⟨rfl,h0⟩ | ⟨g,cap,cur,rfl,_⟩
  ·omega
  ·exact ⟨g,cap,rfl,h⟩
 have hl:(rowF (dcV D A C) (n*3)).length=n*3:=rowF_len _ _
 have h1:=dcV_one D A C (n*3)
 generalize rowF (dcV D A C) (n*3)=R at HC HF hl h1
 clear hL
 go_enter Tryz.func41,Tryz.ntmps41
 go_wp2_with (at_builtin;refine wpList_append_own _ rfl _ _ 22 rfl w.heap.size 30 i0 (.agg #[.string ⟨#[]⟩,.int .i64 0,.slice none 0 0]) 3 48 Tryz.underlying22 hi0 hz0 hz1 hz2 rfl (by decide) _ _ _ rfl (World.ownsRow_made w #[] 0 (Nat.le_refl _) (Nat.zero_le _) (by simp)) ⟨b,o,none⟩ n c R rfl ?qc1 ?qc2 ?qc3 ?qc4 ?qc5 ?qc6 ?_)
 case qc1=>exact hl
 case qc2=>exact fun j u hj=>Lib.cell?_alloc_some _ (HC.out j u hj)
 case qc3=>exact h1
 case qc4=>simp only [maxLen];omega
 case qc5=>omega
 case qc6=>simp
 intro v' w1 hown hgrow hnil
 obtain ⟨g,c',rfl,hg⟩:=HF.out _ _ (by simpa using hown)
 have HT:=hid_of hg
 have HB:Hid (Below w.heap.size w w1):=((Below.refl _ w).alloc (Nat.le_refl _) _).grown hgrow (by simp) (by intro k hk;simp [Value.ownBlock] at hk;omega)
 clear hown hgrow hnil hg
 go_wp2_with fail
 go_ret
 exact ⟨⟨g,c',rfl,HT.out⟩,HB.out⟩
/-! rows of a call's own: what stays, what is stored -/
theorem ow_keep {w w':World} {B e size n:Nat} {v:Value} {xs:List Value} (h:w.ownsRow B e size v n xs) (hk:∀ b cs,B≤b→w.heap[b]?=some (.cells cs e (0,0))→w'.heap[b]?=w.heap[b]?):w'.ownsRow B e size v n xs:=by
 refine ⟨h.1,?_⟩
 rcases h.2 with h4 | ⟨g,cap,cur,h4,hb,hg,h5⟩
 ·exact Or.inl h4
 ·exact Or.inr ⟨g,cap,cur,h4,hb,(hk g cur hb hg).trans hg,h5⟩
theorem ow_base {w:World} {B B' e size n:Nat} {v:Value} {xs:List Value} (h:w.ownsRow B e size v n xs) (hB:B'≤B):w.ownsRow B' e size v n xs:=by
 refine ⟨h.1,?_⟩
 rcases h.2 with h4 | ⟨g,cap,cur,h4,hb,hg,h5⟩
 ·exact Or.inl h4
 ·exact Or.inr ⟨g,cap,cur,h4,Nat.le_trans hB hb,hg,h5⟩
theorem ow_same {w:World} {B e size n g cap j:Nat} {xs:List Value} {u:Value} (h:w.ownsRow B e size (.slice (some ⟨g,0,none⟩) n cap) n xs) (hu:xs[j]?=some u):(w.setCell ⟨g,j,none⟩ u).ownsRow B e size (.slice (some ⟨g,0,none⟩) n cap) n xs:=by
 have h1:=(h.stored j u).1
 rwa [show xs.set j u=xs from by
  refine List.ext_getElem? fun k=>?_
  rw [List.getElem?_set]
  split
  ·rename_i e;subst e;rw [hu];simp [(List.getElem?_eq_some_iff.1 hu).1]
  ·rfl] at h1
theorem ow_off {w:World} {B e size n g j:Nat} {v u:Value} {xs:List Value} (h:w.ownsRow B e size v n xs) (hne:v.ownBlock≠some g):(w.setCell ⟨g,j,none⟩ u).ownsRow B e size v n xs:=by
 refine ⟨h.1,?_⟩
 rcases h.2 with h4 | ⟨g',cap,cur,rfl,hb,hg,h5⟩
 ·exact Or.inl h4
 ·exact Or.inr ⟨g',cap,cur,rfl,hb,(setCell_off _ _ _ _ _ fun e=>hne (by rw [e];rfl)).trans hg,h5⟩
theorem ow_blk {w:World} {B e size n g cap:Nat} {xs:List Value} (h:w.ownsRow B e size (.slice (some ⟨g,0,none⟩) n cap) n xs):B≤g∧g<w.heap.size∧n≤cap∧cap≤maxLen∧∃ cur,w.heap[g]?=some (.cells cur e (0,0)):=by
 rcases h.2 with ⟨h',_⟩ | ⟨g',cap',cur,h',hb,hg,hnc,hcm,_⟩
 ·cases h'
 ·cases h'
  exact ⟨hb,(Array.getElem?_eq_some_iff.1 hg).1,hnc,hcm,cur,hg⟩
structure OwD (w:World) (B g cd n:Nat) (D:Nat→Dm) (G C:Nat→Nat):Prop where
 dims:w.ownsRow B 30 3 (.slice (some ⟨g,0,none⟩) n cd) n (cellsDo D (fun i=>some ⟨G i,0,none⟩) C n)
 mems:∀ i,i<n→w.ownsRow B 27 4 (.slice (some ⟨G i,0,none⟩) (D i).n (C i)) (D i).n (cellsMb (D i).mem (D i).n)
 apart:∀ i j,i<n→j<n→i≠j→G i≠G j
theorem OwD.keep {w w':World} {B g cd n:Nat} {D:Nat→Dm} {G C:Nat→Nat} (h:OwD w B g cd n D G C) (hk:∀ b cs e,B≤b→w.heap[b]?=some (.cells cs e (0,0))→e=30∨e=27→w'.heap[b]?=w.heap[b]?):OwD w' B g cd n D G C :=
 ⟨ow_keep h.dims fun b cs hb hg=>hk b cs _ hb hg (Or.inl rfl),fun i hi=>ow_keep (h.mems i hi) fun b cs hb hg=>hk b cs _ hb hg (Or.inr rfl),h.apart⟩
theorem OwD.later {w w':World} {B g cd n:Nat} {D:Nat→Dm} {G C:Nat→Nat} (h:OwD w B g cd n D G C) (hB:Below w.heap.size w w'):OwD w' B g cd n D G C :=
 h.keep fun b _ _ _ hg _=>hB.block b (Array.getElem?_eq_some_iff.1 hg).1
def FrW (w wr:World) (g cg k n:Nat) (D:Nat→Dm) (A:Nat→Option Addr) (C:Nat→Nat):Prop := ∃ G C':Nat→Nat,wr.ownsRow w.heap.size 30 3 (.slice (some ⟨g,0,none⟩) n cg) n (cellsDo D (fun i=>if i<k then some ⟨G i,0,none⟩ else A i) (fun i=>if i<k then C' i else C i) n)∧(∀ i,i<k→wr.ownsRow w.heap.size 27 4 (.slice (some ⟨G i,0,none⟩) (D i).n (C' i)) (D i).n (cellsMb (D i).mem (D i).n))∧∀ i j,i<k→j<k→i≠j→G i≠G j
theorem FrW.later {w wr w':World} {g cg k n:Nat} {D:Nat→Dm} {A:Nat→Option Addr} {C:Nat→Nat} (h:FrW w wr g cg k n D A C) (hB:Below wr.heap.size wr w'):FrW w w' g cg k n D A C:=by
 obtain ⟨G,C',h1,h2,h3⟩:=h
 exact ⟨G,C',own_later h1 hB,fun i hi=>own_later (h2 i hi) hB,h3⟩
theorem FrW.row {w wr:World} {g cg k n:Nat} {D:Nat→Dm} {A:Nat→Option Addr} {C:Nat→Nat} (h:FrW w wr g cg k n D A C) (hk:k<n):w.heap.size≤g∧g<wr.heap.size∧n≤cg∧wr.cell? ⟨g,k*3,none⟩=some (.string (D k).name)∧wr.cell? ⟨g,k*3+1,none⟩=some (.int .i64 (D k).solve)∧wr.cell? ⟨g,k*3+2,none⟩=some (.slice (A k) (D k).n (C k))∧∀ j,wr.frozen? ⟨g,j,none⟩=false:=by
 obtain ⟨G,C',h1,-,-⟩:=h
 obtain ⟨b1,b2,b3,-,-⟩:=ow_blk h1
 obtain ⟨x0,x1,x2⟩:=cellsDo_at D (fun i=>if i<k then some ⟨G i,0,none⟩ else A i) (fun i=>if i<k then C' i else C i) n k hk
 simp only [Nat.lt_irrefl,if_false] at x2
 exact ⟨b1,b2,b3,by rw [h1.cellAt _ (by omega)];exact x0,by rw [h1.cellAt _ (by omega)];exact x1,by rw [h1.cellAt _ (by omega)];exact x2,fun j=>h1.frozenAt j⟩
theorem FrW.name {w wr:World} {g cg k n:Nat} {D:Nat→Dm} {A:Nat→Option Addr} {C:Nat→Nat} (h:FrW w wr g cg k n D A C) (hk:k<n):FrW w (wr.setCell ⟨g,k*3,none⟩ (.string (D k).name)) g cg k n D A C:=by
 obtain ⟨G,C',h1,h2,h3⟩:=h
 obtain ⟨-,-,-,-,cur,hg⟩:=ow_blk h1
 exact ⟨G,C',ow_same h1 (cellsDo_at D _ _ n k hk).1,fun i hi=>ow_off (h2 i hi) (own_ne (h2 i hi) hg (by decide)),h3⟩
theorem FrW.put {w wy wr:World} {g cg k n gm cm:Nat} {D:Nat→Dm} {A:Nat→Option Addr} {C:Nat→Nat} (h:FrW w wy g cg k n D A C) (hk:k<n) (hB:Below wy.heap.size wy wr) (hww:w.heap.size≤wy.heap.size) (hm:wr.ownsRow wy.heap.size 27 4 (.slice (some ⟨gm,0,none⟩) (D k).n cm) (D k).n (cellsMb (D k).mem (D k).n)):FrW w (wr.setCell ⟨g,k*3+2,none⟩ (.slice (some ⟨gm,0,none⟩) (D k).n cm)) g cg (k+1) n D A C:=by
 obtain ⟨G,C',h1,h2,h3⟩:=h
 have g1:=own_later h1 hB
 obtain ⟨-,-,-,-,cur,hg⟩:=ow_blk g1
 have hgm:=(ow_blk hm).1
 have hlt:∀ i,i<k→G i<wy.heap.size:=fun i hi=>(ow_blk (h2 i hi)).2.1
 refine ⟨fun i=>if i=k then gm else G i,fun i=>if i=k then cm else C' i,?_,fun i hi=>?_,fun i j hi hj hne=>?_⟩
 ·have h4:=(g1.stored (k*3+2) (.slice (some ⟨gm,0,none⟩) (D k).n cm)).1
  rwa [show (cellsDo D (fun i=>if i<k then some ⟨G i,0,none⟩ else A i) (fun i=>if i<k then C' i else C i) n).set (k*3+2) (.slice (some ⟨gm,0,none⟩) (D k).n cm)=cellsDo D (fun i=>if i<k+1 then some ⟨if i=k then gm else G i,0,none⟩ else A i) (fun i=>if i<k+1 then (if i=k then cm else C' i) else C i) n from by
   refine List.ext_getElem? fun j=>?_
   rw [List.getElem?_set]
   by_cases hj:j<n*3
   ·obtain ⟨x0,x1,x2⟩:=cellsDo_at D (fun i=>if i<k then some ⟨G i,0,none⟩ else A i) (fun i=>if i<k then C' i else C i) n (j / 3) (by omega)
    obtain ⟨y0,y1,y2⟩:=cellsDo_at D (fun i=>if i<k+1 then some ⟨if i=k then gm else G i,0,none⟩ else A i) (fun i=>if i<k+1 then (if i=k then cm else C' i) else C i) n (j / 3) (by omega)
    rcases (by omega:j % 3=0∨j % 3=1∨j % 3=2) with e | e | e
    ·rw [if_neg (by omega),show j=j / 3*3 by omega,x0,y0]
    ·rw [if_neg (by omega),show j=j / 3*3+1 by omega,x1,y1]
    ·rw [show j=j / 3*3+2 by omega,x2,y2]
     by_cases e2:j / 3=k
     ·rw [if_pos (by omega),if_pos (by rw [cellsDo_len];omega),if_pos (by omega),if_pos e2,if_pos (by omega),if_pos e2,e2]
     ·rw [if_neg (by omega),if_neg e2,if_neg e2]
      by_cases e3:j / 3<k
      ·rw [if_pos e3,if_pos e3,if_pos (by omega),if_pos (by omega)]
      ·rw [if_neg e3,if_neg e3,if_neg (by omega),if_neg (by omega)]
   ·rw [if_neg (by omega),List.getElem?_eq_none (by rw [cellsDo_len];omega),List.getElem?_eq_none (by rw [cellsDo_len];omega)]] at h4
 ·dsimp only
  by_cases e:i=k
  ·subst e
   rw [if_pos rfl,if_pos rfl]
   exact ow_base (ow_off hm (own_ne hm hg (by decide))) hww
  ·rw [if_neg e,if_neg e]
   have h5:=own_later (h2 i (by omega)) hB
   exact ow_off h5 (own_ne h5 hg (by decide))
 ·dsimp only
  by_cases e1:i=k
  ·rw [if_pos e1,if_neg (by omega)]
   have:=hlt j (by omega)
   omega
  ·rw [if_neg e1]
   by_cases e2:j=k
   ·rw [if_pos e2]
    have:=hlt i (by omega)
    omega
   ·rw [if_neg e2]
    exact h3 i j (by omega) (by omega) hne
theorem FrW.all {w wr:World} {g cg n:Nat} {D:Nat→Dm} {A:Nat→Option Addr} {C:Nat→Nat} (h:FrW w wr g cg n n D A C):∃ G C',OwD wr w.heap.size g cg n D G C':=by
 obtain ⟨G,C',h1,h2,h3⟩:=h
 refine ⟨G,C',?_,h2,h3⟩
 rwa [cellsDo_same (A':=fun i=>some ⟨G i,0,none⟩) (C':=C') n fun i hi=>⟨if_pos hi,if_pos hi⟩] at h1
end Go.Proofs.YtfgegmpoejilnaaGreatDoor
