/-
  A member added and taken out again leaves a cube as it was: plain data.
-/
import Derived.Test.YtglekooldbeklaaGreatDoorJGBR
namespace Go.Proofs.YtglekooldbeklaaGreatDoor
open Go.ChangeShapes Go.WideShapes Go.ChangeAt Go.RowKit Go.Lib
def dflM:Mem:=⟨⟨#[]⟩,-1,0,⟨#[]⟩⟩
def nrm (d:Dm):Dm:=⟨d.name,d.solve,d.n,fun x=>if x<d.n then d.mem x else dflM⟩
theorem nrm_out (d:Dm) {x:Nat} (h:d.n≤x):(nrm d).mem x=dflM:=if_neg (by omega)
theorem dims_nrm {w:World} {A0:Option Addr} {cap n:Nat} {D:Nat→Dm} {A:Nat→Option Addr} {C:Nat→Nat} (h:DimsV w A0 cap n D A C):DimsV w A0 cap n (fun i=>nrm (D i)) A C:=by
 obtain ⟨h1,h2 | ⟨b,o,h2,h3,h4⟩⟩:=h
 ·exact ⟨h1,Or.inl h2⟩
 ·refine ⟨h1,Or.inr ⟨b,o,h2,h3,fun i hi=>?_⟩⟩
  obtain ⟨x0,x1,x2,x3,x4⟩:=h4 i hi
  refine ⟨x0,x1,x2,x3,?_⟩
  rcases x4 with x4 | ⟨b',o',hA,hb,hm⟩
  ·exact Or.inl x4
  ·refine Or.inr ⟨b',o',hA,hb,fun j hj=>?_⟩
   have:(nrm (D i)).mem j=(D i).mem j:=if_pos hj
   rw [this]
   exact hm j hj
theorem rem_add {d:Dm} {m:Mem} (hN:∀ x,d.n≤x→d.mem x=dflM) (ht:∀ x,x<d.n→(d.mem x).parent≤(d.n:Int)):remD (addD d m) d.n=d:=by
 obtain ⟨nm,sv,dn,mm⟩:=d
 unfold remD
 simp only at hN ht ⊢
 show (⟨nm,sv,dn+1-1,_⟩:Dm)=_
 rw [Nat.add_sub_cancel]
 congr 1
 funext x
 unfold cutM addD
 simp only
 by_cases h:x<dn
 ·rw [if_pos h,if_neg (by omega)]
  have:wo (dn:Int) (mm x).parent=(mm x).parent:=if_neg (by have:=ht x h;omega)
  rw [this]
 ·rw [if_neg h,if_neg (by omega),hN (x+1) (by omega),hN x (by omega)]
  rfl
theorem rem_list {l:List En} {k:Nat} {i:Int} (h:∀ e∈l,k<e.pl.length∧e.pl.getD k 0<i):remL l k i=l:=by
 have hk:keptL l k i=l:=by
  unfold keptL
  rw [List.filter_eq_self]
  intro e he
  have:=(h e he).2
  simp only [Bool.not_eq_true',decide_eq_false_iff_not]
  omega
 unfold remL
 rw [hk]
 refine (List.map_congr_left fun e he=>?_).trans (List.map_id _)
 obtain ⟨h1,h2⟩:=h e he
 unfold movE
 have:wo i (e.pl.getD k 0)=e.pl.getD k 0:=if_neg (by omega)
 rw [this]
 obtain ⟨pl,nn⟩:=e
 simp only at h1 ⊢
 congr 1
 refine List.ext_getElem? fun j=>?_
 rw [List.getElem?_set]
 by_cases e:k=j
 ·subst e;simp [List.getD_eq_getElem?_getD,h1]
 ·simp [e]
theorem ens_add {D:Nat→Dm} {n k:Nat} {l:List En} {m:Mem} (hE:Ens D n l) (hk:k<n) (hA:(allErr (putD D k (addD (D k) m)) n).2.2=0) (hw:wrAt l k m.parent=false):Ens (putD D k (addD (D k) m)) n l:=by
 refine ⟨hA,fun e he=>?_,hE.rise⟩
 obtain ⟨h1,h2,h3⟩:=hE.each e he
 have hn:∀ i,(D i).n≤(putD D k (addD (D k) m) i).n:=fun i=>by
  by_cases hi:i=k
  ·subst hi;rw [putD_at];show (D i).n≤(D i).n+1;omega
  ·rw [putD_off D _ hi];exact Nat.le_refl _
 have hIn:InO (putD D k (addD (D k) m)) n e.pl:=⟨hA,h1.len,h1.lo,fun i hi=>by have:=h1.hi i hi;have:=hn i;omega⟩
 refine ⟨hIn,?_,h3⟩
 have hp1:placeErr D n e.pl=0:=h1.ok
 have hp2:placeErr (putD D k (addD (D k) m)) n e.pl=0:=hIn.ok
 unfold leafV at h2 ⊢
 rw [if_pos hp1] at h2
 rw [if_pos hp2]
 have hno:∀ i,i<n→notLeaf D e.pl i=false:=fun i hi=>by
  rcases findFrom_cases (notLeaf D e.pl) n 0 with ⟨_,h4⟩ | ⟨j,h4,_⟩
  ·exact h4 i (Nat.zero_le _) (by omega)
  ·rw [h4] at h2
   simp at h2
 rw [findFrom_none (p:=notLeaf (putD D k (addD (D k) m)) e.pl) fun i _ hi=>?_]
 ·rfl
 ·have hi':i<n:=by omega
  have h4:=hno i hi'
  by_cases hik:i=k
  ·subst hik
   have hlo:=h1.lo i hi'
   have hhi:=h1.hi i hi'
   unfold notLeaf at h4 ⊢
   rw [putD_at]
   obtain ⟨x,hx⟩:∃ x:Nat,e.pl.getD i 0=x:=⟨(e.pl.getD i 0).toNat,by omega⟩
   rw [hx,Int.toNat_natCast] at h4 ⊢
   have hxn:x<(D i).n:=by omega
   have hmx:(addD (D i) m).mem x=(D i).mem x:=if_neg (by omega)
   have hmp:m.parent≠(x:Int):=fun e2=>by
    have:wrAt l i m.parent=true:=by
     unfold wrAt
     rw [List.any_eq_true]
     exact ⟨e,he,by simp only [decide_eq_true_eq];rw [hx,e2]⟩
    rw [hw] at this
    cases this
   unfold leafB at h4 ⊢
   rw [hmx]
   have hf:findFrom (partB (addD (D i) m).mem x) (addD (D i) m).n 0<0↔findFrom (partB (D i).mem x) (D i).n 0<0:=by
    constructor
    ·intro h5
     rcases findFrom_cases (partB (D i).mem x) (D i).n 0 with ⟨h6,_⟩ | ⟨j,_,_,h7,h8,_⟩
     ·omega
     ·have h9:partB (addD (D i) m).mem x j=true:=by
       unfold partB at h8 ⊢
       rwa [show (addD (D i) m).mem j=(D i).mem j from if_neg (by omega)]
      have:=findFrom_nonneg (q:=partB (addD (D i) m).mem x) (n:=(addD (D i) m).n) (i:=j) (by show j<(D i).n+1;omega) h9
      omega
    ·intro h5
     rcases findFrom_cases (partB (addD (D i) m).mem x) (addD (D i) m).n 0 with ⟨h6,_⟩ | ⟨j,_,_,h7,h8,_⟩
     ·omega
     ·have hj:j<(D i).n+1:=by have h10:j<0+(addD (D i) m).n:=h7;have:(addD (D i) m).n=(D i).n+1:=rfl;omega
      by_cases hjn:j=(D i).n
      ·unfold partB at h8
       rw [show (addD (D i) m).mem j=m from if_pos hjn] at h8
       exact absurd (by simpa using h8) hmp
      ·have h9:partB (D i).mem x j=true:=by
        unfold partB at h8 ⊢
        rwa [show (addD (D i) m).mem j=(D i).mem j from if_neg hjn] at h8
       have:=findFrom_nonneg (q:=partB (D i).mem x) (n:=(D i).n) (i:=j) (by omega) h9
       omega
   simp only [Bool.not_eq_false',Bool.and_eq_true,decide_eq_true_eq,Bool.not_eq_true',decide_eq_false_iff_not] at h4 ⊢
   exact ⟨h4.1,by have:=hf.2 (by omega);omega⟩
  ·unfold notLeaf at h4 ⊢
   rw [putD_off D _ hik]
   exact h4
theorem grow_back {D:Nat→Dm} {n k:Nat} {l:List En} {nm:ByteArray} {tgt sign:Int} (hk:k<n) (hN:∀ i,i<n→∀ x,(D i).n≤x→(D i).mem x=dflM) (h:chE D n l ⟨1,k,0,nm,tgt,sign⟩=0) :
  (chD D ⟨1,k,0,nm,tgt,sign⟩ k).n=(D k).n+1∧chL D n l ⟨1,k,0,nm,tgt,sign⟩=l∧chE (chD D ⟨1,k,0,nm,tgt,sign⟩) n l ⟨2,k,((D k).n:Int),⟨#[]⟩,0,0⟩=0∧chD (chD D ⟨1,k,0,nm,tgt,sign⟩) ⟨2,k,((D k).n:Int),⟨#[]⟩,0,0⟩=D∧chL (chD D ⟨1,k,0,nm,tgt,sign⟩) n l ⟨2,k,((D k).n:Int),⟨#[]⟩,0,0⟩=l:=by
 have hD1:chD D ⟨1,k,0,nm,tgt,sign⟩=putD D k (addD (D k) ⟨nm,tgt,sign,⟨#[]⟩⟩):=by
  show putD D ((k:Int).toNat) (cgD (D ((k:Int).toNat)) _)=_
  rw [Int.toNat_natCast]
  rfl
 have hL1:chL D n l ⟨1,k,0,nm,tgt,sign⟩=l:=by
  unfold chL
  rw [if_pos h]
  show (if (1:Int)=2 then _ else l)=l
  exact if_neg (by decide)
 rw [hL1]
 unfold chE at h
 simp only [Int.toNat_natCast] at h
 by_cases hcu:cuErr D n l=0
 case neg=>rw [if_pos hcu] at h;exact absurd h hcu
 rw [if_neg (by simpa using hcu),if_neg (by omega)] at h
 by_cases hs:cgE (D k) l k ⟨1,k,0,nm,tgt,sign⟩=0
 case neg=>rw [if_pos hs] at h;exact absurd h hs
 rw [if_neg (by simpa using hs)] at h
 have hs2:addE (D k) l k ⟨nm,tgt,sign,⟨#[]⟩⟩=0:=hs
 unfold addE at hs2
 by_cases hde:(dimErr (addD (D k) ⟨nm,tgt,sign,⟨#[]⟩⟩)).2=0
 case neg=>rw [if_pos hde] at hs2;exact absurd hs2 hde
 rw [if_neg (by simpa using hde)] at hs2
 have hwr:wrAt l k tgt=false:=by
  cases hw:wrAt l k tgt
  ·rfl
  ·rw [if_pos hw] at hs2;cases hs2
 have hru:(ruErr (putD D k (addD (D k) ⟨nm,tgt,sign,⟨#[]⟩⟩)) n).2.2=0:=h
 obtain ⟨hr0,hens⟩:=cu_parts hcu
 have hens1:=ens_add (m:=⟨nm,tgt,sign,⟨#[]⟩⟩) hens hk (ru_parts hru).1 hwr
 have hcu1:cuErr (putD D k (addD (D k) ⟨nm,tgt,sign,⟨#[]⟩⟩)) n l=0:=by
  unfold cuErr
  rw [if_neg (by simpa using hru)]
  exact hens1.ok
 have htr:=Tr.of hde
 have htr0:=Tr.of ((allErr_right (ru_parts hr0).1).2 k hk)
 have hback:remD (addD (D k) ⟨nm,tgt,sign,⟨#[]⟩⟩) (D k).n=D k:=rem_add (hN k hk) fun x hx=>by have:=htr0 x hx;omega
 have hrem:remE (addD (D k) ⟨nm,tgt,sign,⟨#[]⟩⟩) (D k).n=0:=by
  unfold remE
  rw [if_neg]
  rintro (e | e)
  ·have h1:=(allErr_some (ru_parts hr0).1).2.2.2 k hk
   have:(addD (D k) ⟨nm,tgt,sign,⟨#[]⟩⟩).n=(D k).n+1:=rfl
   omega
  ·rcases findFrom_cases (fun j=>decide (((addD (D k) ⟨nm,tgt,sign,⟨#[]⟩⟩).mem j).parent=((D k).n:Int))) (addD (D k) ⟨nm,tgt,sign,⟨#[]⟩⟩).n 0 with ⟨h6,_⟩ | ⟨j,_,_,h7,h8,_⟩
   ·omega
   ·have h9:=htr j (by omega)
    have h10:=of_decide_eq_true h8
    have:(addD (D k) ⟨nm,tgt,sign,⟨#[]⟩⟩).n=(D k).n+1:=rfl
    omega
 have hcg2:cgE (addD (D k) ⟨nm,tgt,sign,⟨#[]⟩⟩) l k ⟨2,k,((D k).n:Int),⟨#[]⟩,0,0⟩=0:=by
  show (if (2:Int)=1 then _ else if ((D k).n:Int)<0∨(((D k).n+1:Nat):Int)≤((D k).n:Int) then _ else if (2:Int)=2 then remE (addD (D k) ⟨nm,tgt,sign,⟨#[]⟩⟩) ((D k).n:Int).toNat else _)=0
  rw [if_neg (by decide),if_neg (by omega),if_pos rfl,Int.toNat_natCast]
  exact hrem
 have hd2:chD (putD D k (addD (D k) ⟨nm,tgt,sign,⟨#[]⟩⟩)) ⟨2,k,((D k).n:Int),⟨#[]⟩,0,0⟩=D:=by
  unfold chD
  simp only [Int.toNat_natCast]
  rw [putD_at,show cgD (addD (D k) ⟨nm,tgt,sign,⟨#[]⟩⟩) ⟨2,k,((D k).n:Int),⟨#[]⟩,0,0⟩=remD (addD (D k) ⟨nm,tgt,sign,⟨#[]⟩⟩) (D k).n from rfl,hback,putD_twice,putD_self]
 have hE2:chE (putD D k (addD (D k) ⟨nm,tgt,sign,⟨#[]⟩⟩)) n l ⟨2,k,((D k).n:Int),⟨#[]⟩,0,0⟩=0:=by
  have hd2':=hd2
  unfold chD at hd2'
  unfold chE
  rw [if_neg (by simpa using hcu1)]
  simp only [Int.toNat_natCast] at hd2' ⊢
  rw [if_neg (by omega),putD_at,hcg2,if_neg (by decide)]
  rw [putD_at] at hd2'
  rw [hd2']
  exact hr0
 rw [hD1]
 refine ⟨by rw [putD_at];rfl,rfl,hE2,hd2,?_⟩
 unfold chL
 rw [if_pos hE2]
 show remL l k (((D k).n:Int).toNat:Int)=l
 rw [Int.toNat_natCast]
 exact rem_list fun e he=>by
  have h1:=(hens.each e he).1
  exact ⟨by rw [h1.len];exact hk,h1.hi k hk⟩
end Go.Proofs.YtglekooldbeklaaGreatDoor
