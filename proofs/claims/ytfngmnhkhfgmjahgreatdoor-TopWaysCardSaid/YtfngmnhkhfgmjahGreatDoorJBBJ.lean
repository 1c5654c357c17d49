/-
  A dim of two members, of whom the first refers to the second: what is needed there, and in which order.
-/
import Derived.OneCell
import Derived.Test.YtfngmnhkhfgmjahGreatDoorJBBG
import Derived.Test.YtfngmnhkhfgmjahGreatDoorJBBH
import Derived.Test.YtfngmnhkhfgmjahGreatDoorJBBI
namespace Go.Proofs.YtfngmnhkhfgmjahGreatDoor
open Go.ChangeShapes Go.WideShapes Go.ChangeAt Go.RowKit
set_option maxRecDepth 20000
theorem up_acyc {N:List (List Int)} (h:∀ (a:Int),∀ x∈rowN N a,a<x) (i:Nat):cycB N i=false:=by
 rw [cyc_not]
 intro hr
 have hlt:∀ {a b:Int},Rch N a b→a<b:=by
  intro a b hab
  induction hab with
  | one hx=>exact h _ _ hx
  | more hx _ ih=>have:=h _ _ hx;omega
 have:=hlt hr
 omega
end Go.Proofs.YtfngmnhkhfgmjahGreatDoor
namespace Go.Proofs.YtfngmnhkhfgmjahGreatDoor
set_option maxRecDepth 20000
section
variable {D:Nat→Dm} {n:Nat} {l:List En}
theorem gV_none (hE:Ens D n l) {p:List Int} (hp:InO D n p):gV D n (fun _=>false) l p=getE l p:=by
 obtain ⟨x,-,hx,rfl⟩:=num_lt hp
 have h:=wr_at hE hx
 rw [wr_gL hE] at h
 have h2:=gL_at (D:=D) (n:=n) (S:=fun _=>false) (l:=l) hx
 exact h2.symm.trans h
theorem roll_leaf (hE:Ens D n l) {p:List Int} (hp:InO D n p) (hno:∀ i,i<n→partsOf (D i).mem (D i).n (p.getD i 0)=[]):rollV D n l p=getE l p:=by
 have hall:∀ k,k≤n→gV D n (fun j=>decide (j<k)) l p=gV D n (fun _=>false) l p:=by
  intro k
  induction k with
  | zero=>intro _;exact gV_congr fun e _=>gw_congr n fun j _=>by unfold facS;simp
  | succ k ih =>
   intro hk
   rw [←ih (by omega)]
   have h0:=hp.lo k (by omega)
   have h1:=hp.hi k (by omega)
   refine gV_congr fun e he=>?_
   rw [←gw_bare hE (show k<n by omega) (S:=fun j=>decide (j<k)) (by simp) he (m:=(p.getD k 0).toNat) (by omega) (by omega) (by rw [Int.toNat_of_nonneg h0];exact hno k (by omega))]
   refine gw_congr n fun j _=>?_
   have:decide (j<k+1)=addS (fun j=>decide (j<k)) k j:=by
    unfold addS
    rw [Bool.eq_iff_iff]
    simp
    omega
   unfold facS
   simp only [this]
 rw [←gV_all (S:=fun j=>decide (j<n)) (fun j hj=>decide_eq_true hj),hall n (Nat.le_refl _),gV_none hE hp]
theorem roll_parts (hE:Ens D n l) {p:List Int} (hp:InO D n p) {b:Nat} (hb:b<n) (hP:partsOf (D b).mem (D b).n (p.getD b 0)≠[]):rollV D n l p=partsV (D b).mem (fun z=>rollV D n l (p.set b z)) (partsOf (D b).mem (D b).n (p.getD b 0)):=by
 obtain ⟨x,-,hx,rfl⟩:=num_lt hp
 have h0:=hp.lo b hb
 have hdg:=digit_at (D:=D) (n:=n) (x:=x) hb
 obtain ⟨m,hm⟩:∃ m,x / stepD D n b % (D b).n=m:=⟨_,rfl⟩
 have hpm:(placeL D n x).getD b 0=(m:Int):=by omega
 rw [hpm] at hP ⊢
 have hfix:=gL_fix hE hb (S:=fun _=>true) (m:=m) x (by rw [gL_len];exact hx) hm hP
 have hS:∀ j,j<n→addS (fun _=>true) b j=true:=fun j _=>by simp [addS]
 rw [gL_at hx,gV_all hS] at hfix
 rw [hfix]
 refine parts_same _ _ fun k hk=>?_
 obtain ⟨j,rfl,hj,-⟩:=selTo_mem k hk
 obtain ⟨y,h1,h2,h3⟩:=set_num hE.right hb hx hj
 rw [hm] at h1
 unfold atP cAt
 rw [h1,Int.toNat_natCast,gL_at h2,gV_all hS,h3]
theorem sol_roll (hE:Ens D n l) (hR:AllR D n) (hf:∀ i,i<n→∀ k,k<(D i).n→((D i).mem k).formula.size=0):∀ (m:Nat) (p:List Int),InO D n p→msrTo D p n<m→solV D n (getE l) p=rollV D n l p:=by
 intro m
 induction m with
 | zero=>intro p _ h;omega
 | succ m ih =>
  intro p hp hm
  rcases by_in D p n with h | ⟨b,h1,h2⟩
  ·rw [sol_leaf _ (by omega),roll_leaf hE hp]
   intro i hi
   have hb:∀ k,byTo D p k = -1→∀ j,j<k→leafB (D j).mem (D j).n (p.getD j 0).toNat=true:=by
    intro k
    induction k with
    | zero=>intro _ j hj;omega
    | succ k ihk =>
     intro he j hj
     unfold byTo at he
     split at he
     ·omega
     ·rename_i hc
      by_cases e:j=k
      ·subst e
       cases hl:leafB (D j).mem (D j).n (p.getD j 0).toNat with
       | true=>rfl
       | false=>exact absurd ⟨hl,Or.inl (by omega)⟩ hc
      ·exact ihk he j (by omega)
   have hl:=hb n h i hi
   have h0:=hp.lo i hi
   unfold leafB at hl
   rw [Bool.and_eq_true] at hl
   have h3 : ¬ 0≤findFrom (partB (D i).mem ((p.getD i 0).toNat:Int)) (D i).n 0:=by simpa using hl.2
   rw [Int.toNat_of_nonneg h0] at h3
   refine List.eq_nil_iff_forall_not_mem.2 fun z hz=>h3 ?_
   obtain ⟨q,rfl,hq,hq2⟩:=selTo_mem z hz
   rcases findFrom_cases (partB (D i).mem (p.getD i 0)) (D i).n 0 with ⟨h4,h5⟩ | ⟨q2,h4,-⟩
   ·have:=h5 q (Nat.zero_le _) (by omega)
    rw [hq2] at this
    cases this
   ·omega
  ·rw [sol_by hR (getE l) hp h1]
   have hp0:=hp.lo b h2
   have hp1:=hp.hi b h2
   have hlf:leafB (D b).mem (D b).n (p.getD b 0).toNat=false:=by
    have hb:∀ k,byTo D p k=(b:Int)→leafB (D b).mem (D b).n (p.getD b 0).toNat=false:=by
     intro k
     induction k with
     | zero=>intro he;unfold byTo at he;omega
     | succ k ihk =>
      intro he
      unfold byTo at he
      split at he
      ·rename_i hc
       have:k=b:=by omega
       subst this
       exact hc.1
      ·exact ihk he
    exact hb n h1
   have hfz:=hf b h2 (p.getD b 0).toNat (by omega)
   have hP:partsOf (D b).mem (D b).n (p.getD b 0)≠[]:=by
    intro he
    unfold leafB at hlf
    rw [decide_eq_true hfz,Bool.true_and] at hlf
    have h3:0≤findFrom (partB (D b).mem ((p.getD b 0).toNat:Int)) (D b).n 0:=by simpa using hlf
    rw [Int.toNat_of_nonneg hp0] at h3
    rcases findFrom_cases (partB (D b).mem (p.getD b 0)) (D b).n 0 with ⟨h4,-⟩ | ⟨q2,h4,h5,h6,h7,h8⟩
    ·omega
    ·have:=sel_in (p:=partB (D b).mem (p.getD b 0)) h6 h7
     rw [Nat.zero_add,show selTo (partB (D b).mem (p.getD b 0)) (D b).n=[] from he] at this
     cases this
   rw [roll_parts hE hp h2 hP]
   have e2:partsV (D b).mem (fun z=>rollV D n l (p.set b z)) (partsOf (D b).mem (D b).n (p.getD b 0))=oneV (D b) (fun z=>rollV D n l (p.set b z)) (p.getD b 0).toNat:=by
    unfold oneV partsV
    rw [if_pos hfz,Int.toNat_of_nonneg hp0]
   rw [e2,←parts_value hfz,←parts_value hfz]
   unfold partsV
   refine parts_same _ _ fun z hz=>?_
   have hxi:=mNd_in hz
   have hrk:=rk_less (hR b h2) (i:=(p.getD b 0).toNat) (by omega) hz
   rw [Int.toNat_of_nonneg hp0] at hrk
   have hms:=(msr_less (by rw [hp.len];exact h2) hrk n).2 h2
   exact ih _ (inO_set hp h2 hxi.1 hxi.2) (by omega)
end
end Go.Proofs.YtfngmnhkhfgmjahGreatDoor
namespace Go.Proofs.YtfngmnhkhfgmjahGreatDoor
open Go.ChangeShapes Go.WideShapes Go.ChangeAt Go.RowKit
set_option maxRecDepth 20000
structure CorS (n:Nat) (l:List En) (f:Nat→Int) (s:Int):Prop where
 ens:Ens (squareD n) 2 l
 at':∀ k,k<n*n→(getE l (cornP n k)).2=f k
 sum:rollN (squareD n) 2 [0,0] l=s
theorem sel_iff {p:Nat→Bool} {N m:Nat} (hm:m<N):(m:Int)∈selTo p N↔p m=true :=
 ⟨fun h=>by obtain ⟨j,hj,-,hp⟩:=selTo_mem _ h;have e:m=j:=(by omega);rw [e];exact hp,fun h=>sel_has hm h⟩
section
variable {D:Nat→Dm} {n:Nat}
theorem rows_in (hR:AllR D n) (hE:(allErr D n).2.2=0) (y:Nat) (hy:y<prodN D n):InN (prodN D n) ((rowsL D n).getD y []):=fun z hz=>by
 have:=rows_inn hR hE y (by rw [rows_len];exact hy) z hz
 rw [rows_len] at this
 exact ⟨z.toNat,by omega,by omega⟩
end
end Go.Proofs.YtfngmnhkhfgmjahGreatDoor
