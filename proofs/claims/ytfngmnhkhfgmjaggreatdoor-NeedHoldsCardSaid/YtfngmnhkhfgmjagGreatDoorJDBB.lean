/-
  By which dim a place is told, as the document tells it, in whatever memory.
-/
import Derived.Lib.AppendZerosOnto
import Derived.Test.YtfngmnhkhfgmjagGreatDoorJDBA
namespace Go.Proofs.YtfngmnhkhfgmjagGreatDoor
open Go.ChangeShapes Go.WideShapes Go.ChangeAt Go.RowKit
set_option maxRecDepth 20000
theorem by_hit {D:Nat→Dm} {p:List Int} {k:Nat} (h1:leafB (D k).mem (D k).n (p.getD k 0).toNat=false) (h2:byTo D p k<0∨(D (byTo D p k).toNat).solve<(D k).solve):byTo D p (k+1)=(k:Int):=by rw [byTo,if_pos ⟨h1,h2⟩]
theorem by_miss {D:Nat→Dm} {p:List Int} {k:Nat} (h : ¬ (leafB (D k).mem (D k).n (p.getD k 0).toNat=false∧(byTo D p k<0∨(D (byTo D p k).toNat).solve<(D k).solve))):byTo D p (k+1)=byTo D p k:=by rw [byTo,if_neg h]
noncomputable def cuErr (D:Nat→Dm) (n:Nat) (l:List En):Int:=if (ruErr D n).2.2≠0 then (ruErr D n).2.2 else entsErr D n l
end Go.Proofs.YtfngmnhkhfgmjagGreatDoor
namespace Go.Proofs.YtfngmnhkhfgmjagGreatDoor
open Go Go.ChangeShapes Go.WideShapes Go.ChangeAt Go.RowKit
set_option maxRecDepth 20000
def rwL (D:Nat→Dm) (n:Nat) (l:List En) (m:Nat):List (Int×Int):=(List.range m).map fun x=>getE l (placeL D n x)
theorem rwL_len (D:Nat→Dm) (n:Nat) (l:List En) (m:Nat):(rwL D n l m).length=m:=by simp [rwL]
theorem wr_none {D:Nat→Dm} {n x:Nat}:∀ (l:List En) (L:List (Int×Int)),(∀ e∈l,InO D n e.pl)→L.length=prodN D n→(∀ e∈l,(numI D e.pl n).toNat≠x)→(l.foldl (wrStep D n) L).getD x (0,0)=L.getD x (0,0)
 | [],_,_,_,_=>rfl
 | e :: r,L,hi,hL,h=>by
  obtain ⟨h1,h2,-⟩:=numI_bound (hi e (List.mem_cons_self ..)) (Nat.le_refl n)
  rw [List.foldl_cons,wr_none r _ (fun y hy=>hi y (List.mem_cons_of_mem _ hy)) (by unfold wrStep;rw [List.length_set];exact hL) fun y hy=>h y (List.mem_cons_of_mem _ hy)]
  unfold wrStep
  have:=h e (List.mem_cons_self ..)
  simp [List.getD,List.getElem?_set_ne this]
theorem wr_some {D:Nat→Dm} {n:Nat} {e:En}:∀ (l:List En) (L:List (Int×Int)),(∀ y∈l,InO D n y.pl)→(l.Pairwise fun a b=>lessL a.pl b.pl=true)→L.length=prodN D n→e∈l→(l.foldl (wrStep D n) L).getD (numI D e.pl n).toNat (0,0)=(1,e.n)
 | [],_,_,_,_,h=>by cases h
 | y :: r,L,hi,hr,hL,h=>by
  have hr':=List.pairwise_cons.1 hr
  have hiy:=hi y (List.mem_cons_self ..)
  have hir:=fun z hz=>hi z (List.mem_cons_of_mem y hz)
  obtain ⟨h1,h2,-⟩:=numI_bound hiy (Nat.le_refl n)
  rw [List.foldl_cons]
  have hL':(wrStep D n L y).length=prodN D n:=by unfold wrStep;rw [List.length_set];exact hL
  rcases List.mem_cons.1 h with rfl | h
  ·rw [wr_none r _ hir hL' fun z hz=>by
    have h3:=less_num hiy (hir z hz) (hr'.1 z hz)
    obtain ⟨h4,-,-⟩:=numI_bound (hir z hz) (Nat.le_refl n)
    omega]
   unfold wrStep
   have:(numI D e.pl n).toNat<L.length:=by omega
   simp [List.getD,this]
  ·exact wr_some r _ hir hr'.2 hL' h
theorem wr_rwL {D:Nat→Dm} {n:Nat} {l:List En} (h:Ens D n l):wrV D n l=rwL D n l (prodN D n):=by
 apply List.ext_getElem (by rw [wrV_len,rwL_len])
 intro x h1 h2
 rw [wrV_len] at h1
 have e1:(wrV D n l).getD x (0,0)=getE l (placeL D n x):=by
  unfold wrV
  by_cases hx:∃ e,e∈l∧(numI D e.pl n).toNat=x
  ·obtain ⟨e,he,hn⟩:=hx
   have h3:=wr_some l (List.replicate (prodN D n) (0,0)) (fun y hy=>(h.each y hy).1) h.rise (by simp) he
   rw [hn] at h3
   rw [h3,←hn,place_num (h.each e he).1,get_mem h.rise he]
  ·rw [wr_none l _ (fun y hy=>(h.each y hy).1) (by simp) fun e he hn=>hx ⟨e,he,hn⟩]
   rw [(get_none h.rise fun e he e2=>hx ⟨e,he,by rw [e2,num_place h.right h1];omega⟩).1]
   simp [List.getD,h1]
 have h3:x<(wrV D n l).length:=by rw [wrV_len];exact h1
 rw [List.getD_eq_getElem?_getD,List.getElem?_eq_getElem h3] at e1
 simp only [Option.getD_some] at e1
 rw [e1]
 simp [rwL]
end Go.Proofs.YtfngmnhkhfgmjagGreatDoor
namespace Go.Proofs.YtfngmnhkhfgmjagGreatDoor
open Go.ChangeShapes Go.WideShapes Go.ChangeAt Go.RowKit
set_option maxRecDepth 20000
def ToldP (D:Nat→Dm) (n:Nat) (p:List Int) (T:List Int):Prop:=T.Pairwise (· < ·)∧T.length≤12∧∀ z,z∈T↔∃ b:Nat,byTo D p n=(b:Int)∧∃ x∈mNd (D b) (p.getD b 0).toNat,z=numI D (p.set b x) n
end Go.Proofs.YtfngmnhkhfgmjagGreatDoor
namespace Go.Proofs.YtfngmnhkhfgmjagGreatDoor
section
variable {D:Nat→Dm} {n:Nat}
theorem told_less (hR:AllR D n) (hE:(allErr D n).2.2=0) {i:Nat} {T:List Int} (hT:ToldP D n (placeL D n i) T) {z:Int} (hz:z∈T):∃ j:Nat,z=(j:Int)∧j<prodN D n∧msrTo D (placeL D n j) n<msrTo D (placeL D n i) n:=by
 obtain ⟨b,hb,x,hx,rfl⟩:=(hT.2.2 z).1 hz
 have hI:InO D n (placeL D n i):=placeL_in hE
 have hbn:b<n:=by
  rcases by_in D (placeL D n i) n with h | ⟨b',h1,h2⟩
  ·omega
  ·omega
 have hxi:=mNd_in hx
 have hI2:=inO_set hI hbn hxi.1 hxi.2
 have hp0:=hI.lo b hbn
 have hp1:=hI.hi b hbn
 have hrk:=rk_less (hR b hbn) (i:=((placeL D n i).getD b 0).toNat) (by omega) hx
 rw [Int.toNat_of_nonneg hp0] at hrk
 have hms:=(msr_less (by rw [hI.len];exact hbn) hrk n).2 hbn
 obtain ⟨j,hj⟩:∃ j:Nat,numI D ((placeL D n i).set b x) n=(j:Int):=⟨(numI D ((placeL D n i).set b x) n).toNat,by have:=(numI_bound hI2 (Nat.le_refl n)).1;omega⟩
 refine ⟨j,hj,by have:=(numI_bound hI2 (Nat.le_refl n)).2.1;omega,?_⟩
 have hpn:=place_num hI2
 rw [hj,Int.toNat_natCast] at hpn
 rw [hpn]
 exact hms
end
end Go.Proofs.YtfngmnhkhfgmjagGreatDoor
namespace Go.Proofs.YtfngmnhkhfgmjagGreatDoor
open Go.ChangeShapes Go.WideShapes Go.ChangeAt Go.RowKit
section
variable {D:Nat→Dm} {n:Nat}
theorem told_inn (hR:AllR D n) (hE:(allErr D n).2.2=0) {N:List (List Int)} (hl:N.length=prodN D n) (hT:∀ i,i<prodN D n→ToldP D n (placeL D n i) (N.getD i [])):Inn N:=fun i hi x hx=>by
 obtain ⟨j,h1,h2,-⟩:=told_less hR hE (hT i (by omega)) hx
 omega
theorem told_acyc (hR:AllR D n) (hE:(allErr D n).2.2=0) {N:List (List Int)} (hl:N.length=prodN D n) (hT:∀ i,i<prodN D n→ToldP D n (placeL D n i) (N.getD i [])) (i:Nat) (hi:i<N.length):cycB N i=false:=by
 rw [cyc_not]
 intro hr
 have key:∀ {a b:Int},Rch N a b→∀ x:Nat,a=(x:Int)→x<prodN D n→∃ y:Nat,b=(y:Int)∧y<prodN D n∧msrTo D (placeL D n y) n<msrTo D (placeL D n x) n:=by
  intro a b hab
  induction hab with
  | one hx =>
   intro x hax hxn
   subst hax
   unfold rowN at hx
   rw [Int.toNat_natCast] at hx
   exact told_less hR hE (hT x hxn) hx
  | more hx _ ih =>
   intro x hax hxn
   subst hax
   unfold rowN at hx
   rw [Int.toNat_natCast] at hx
   obtain ⟨y,h1,h2,h3⟩:=told_less hR hE (hT x hxn) hx
   obtain ⟨z,h4,h5,h6⟩:=ih y h1 h2
   exact ⟨z,h4,h5,by omega⟩
 obtain ⟨y,h1,-,h3⟩:=key hr i rfl (by omega)
 have:y=i:=by omega
 subst this
 omega
end
section
variable {D:Nat→Dm} {n:Nat}
def StpN (D:Nat→Dm) (n i j:Nat):Prop := ∃ b:Nat,byTo D (placeL D n i) n=(b:Int)∧∃ x∈mNd (D b) ((placeL D n i).getD b 0).toNat,(j:Int)=numI D ((placeL D n i).set b x) n
theorem stp_iff {i j:Nat} {T:List Int} (hT:ToldP D n (placeL D n i) T):StpN D n i j↔(j:Int)∈T:=(hT.2.2 _).symm
inductive Ndd (D:Nat→Dm) (n:Nat):Nat→Nat→Prop
 | refl (i:Nat):Ndd D n i i
 | step {i j k:Nat}:StpN D n i j→Ndd D n j k→Ndd D n i k
theorem Ndd.snoc {i j k:Nat} (h:Ndd D n i j) (hs:StpN D n j k):Ndd D n i k:=by
 induction h with
 | refl i=>exact .step hs (.refl _)
 | step h1 _ ih=>exact .step h1 (ih hs)
noncomputable def ndB (D:Nat→Dm) (n i j:Nat):Bool := @decide (Ndd D n i j) (Classical.propDecidable _)
theorem ndB_iff {i j:Nat}:ndB D n i j=true↔Ndd D n i j:=by unfold ndB;exact @decide_eq_true_iff _ (Classical.propDecidable _)
noncomputable def dirB (D:Nat→Dm) (n:Nat) (at':List Int) (i:Nat):Bool := @decide (∃ a:Nat,(a:Int)∈at'∧Ndd D n i a) (Classical.propDecidable _)
theorem dirB_iff {at':List Int} {i:Nat}:dirB D n at' i=true↔∃ a:Nat,(a:Int)∈at'∧Ndd D n i a:=by unfold dirB;exact @decide_eq_true_iff _ (Classical.propDecidable _)
noncomputable def blwB (D:Nat→Dm) (n s j:Nat):Bool:=ndB D n s j && leafV D n (placeL D n j)
noncomputable def blwL (D:Nat→Dm) (n s:Nat):List Int:=selTo (blwB D n s) (prodN D n)
noncomputable def drtL (D:Nat→Dm) (n:Nat) (at':List Int):List Int:=selTo (dirB D n at') (prodN D n)
end
section
variable {D:Nat→Dm} {n:Nat}
noncomputable def stpB (D:Nat→Dm) (n i j:Nat):Bool := @decide (StpN D n i j) (Classical.propDecidable _)
theorem stpB_iff {i j:Nat}:stpB D n i j=true↔StpN D n i j:=by unfold stpB;exact @decide_eq_true_iff _ (Classical.propDecidable _)
noncomputable def telL (D:Nat→Dm) (n i:Nat):List Int:=selTo (stpB D n i) (prodN D n)
theorem told_eq (hR:AllR D n) (hE:(allErr D n).2.2=0) {i:Nat} {T:List Int} (hT:ToldP D n (placeL D n i) T):T=telL D n i :=
 rise_eq _ _ hT.1 (sel_rise _ _) fun x=>⟨fun hx=>by
  obtain ⟨j,rfl,hj,-⟩:=told_less hR hE hT hx
  exact sel_has hj (stpB_iff.2 ((stp_iff hT).2 hx)),fun hx=>by
  obtain ⟨m,rfl,-,hp⟩:=selTo_mem _ hx
  exact (stp_iff hT).1 (stpB_iff.1 hp)⟩
noncomputable def rowsL (D:Nat→Dm) (n:Nat):List (List Int):=(List.range (prodN D n)).map (telL D n)
theorem rows_len:(rowsL D n).length=prodN D n:=by simp [rowsL]
theorem rows_at {i:Nat} (hi:i<prodN D n):(rowsL D n).getD i []=telL D n i:=by
 unfold rowsL
 rw [List.getD_eq_getElem?_getD,List.getElem?_map,List.getElem?_range hi]
 rfl
noncomputable def caL (D:Nat→Dm) (n:Nat) (l:List En):List (Int×Int):=if cuErr D n l=0 then (List.range (prodN D n)).map (fun j=>solV D n (getE l) (placeL D n j)) else []
theorem caL_bad {l:List En} (h:cuErr D n l≠0):caL D n l=[]:=by unfold caL;rw [if_neg h]
theorem caL_len {l:List En} (h:cuErr D n l=0):(caL D n l).length=prodN D n:=by unfold caL;rw [if_pos h];simp
theorem caL_at {l:List En} (h:cuErr D n l=0) {j:Nat} (hj:j<prodN D n):(caL D n l).getD j noC=solV D n (getE l) (placeL D n j):=by
 unfold caL
 rw [if_pos h,List.getD_eq_getElem?_getD,List.getElem?_map,List.getElem?_range hj]
 rfl
theorem ca_eq {l:List En} (h:cuErr D n l=0) {L:List (Int×Int)} (hl:L.length=prodN D n) (hv:∀ j,j<prodN D n→L.getD j noC=solV D n (getE l) (placeL D n j)):L=caL D n l:=by
 refine List.ext_getElem (by rw [hl,caL_len h]) fun i h1 h2=>?_
 have h3:i<prodN D n:=by omega
 have e:=(hv i h3).trans (caL_at h h3).symm
 rw [List.getD_eq_getElem?_getD,List.getElem?_eq_getElem h1,List.getD_eq_getElem?_getD,List.getElem?_eq_getElem h2] at e
 exact e
end
end Go.Proofs.YtfngmnhkhfgmjagGreatDoor
namespace Go.Proofs.YtfngmnhkhfgmjagGreatDoor
open Go Go.ChangeShapes Go.WideShapes Go.ChangeAt Go.RowKit
set_option maxRecDepth 20000
structure PL where
 p:List Int
 A:Option Addr
 c:Nat
def noP:PL:=⟨[],none,0⟩
def lP (xs:List PL):List (List Int):=xs.map PL.p
theorem map_take {X:List Int} {h:List Int} {j:Nat} (hj:j<X.length):(X.take (j+1)).map (fun x=>h ++ [x])=(X.take j).map (fun x=>h ++ [x]) ++ [h ++ [X.getD j 0]]:=by
 rw [List.take_succ_eq_append_getElem hj,List.map_append,List.getD_eq_getElem?_getD,List.getElem?_eq_getElem hj]
 rfl
end Go.Proofs.YtfngmnhkhfgmjagGreatDoor
namespace Go.Proofs.YtfngmnhkhfgmjagGreatDoor
open Go.ChangeShapes Go.WideShapes Go.ChangeAt Go.RowKit
section
variable {D:Nat→Dm} {n:Nat}
theorem sol_clean (hR:AllR D n) (hE:(allErr D n).2.2=0) {inp inp':List Int→Int×Int} {m:Nat} (hin:∀ i:Nat,i<prodN D n→i≠m→inp (placeL D n i)=inp' (placeL D n i)):∀ (k i:Nat),i<prodN D n→msrTo D (placeL D n i) n<k→¬ Ndd D n i m→solV D n inp (placeL D n i)=solV D n inp' (placeL D n i):=by
 intro k
 induction k with
 | zero=>intro i _ h;omega
 | succ k ih =>
  intro i hi hk hn
  have hI:InO D n (placeL D n i):=placeL_in hE
  rcases by_in D (placeL D n i) n with h | ⟨b,hb,hbn⟩
  ·rw [sol_leaf _ (by omega),sol_leaf _ (by omega)]
   exact hin i hi fun e=>hn (e ▸ .refl _)
  ·rw [sol_by hR inp hI hb,sol_by hR inp' hI hb]
   have hp0:=hI.lo b hbn
   have hp1:=hI.hi b hbn
   have hrb:=hR b hbn
   obtain ⟨hd,hm,-,-⟩:=rErr_right hrb
   refine oneV_same hd (hm _ (by omega)) fun x hx=>?_
   have hxi:=mNd_in hx
   have hI2:=inO_set hI hbn hxi.1 hxi.2
   have hbd:=numI_bound hI2 (Nat.le_refl n)
   obtain ⟨j,hj⟩:∃ j:Nat,numI D ((placeL D n i).set b x) n=(j:Int):=⟨(numI D ((placeL D n i).set b x) n).toNat,by have:=hbd.1;omega⟩
   have hpn:=place_num hI2
   rw [hj,Int.toNat_natCast] at hpn
   have hrk:=rk_less hrb (i:=((placeL D n i).getD b 0).toNat) (by omega) hx
   rw [Int.toNat_of_nonneg hp0] at hrk
   have hms:=(msr_less (by rw [hI.len];exact hbn) hrk n).2 hbn
   rw [←hpn] at hms ⊢
   exact ih j (by have:=hbd.2.1;omega) (by omega) fun h=>hn (.step ⟨b,hb,x,hx,hj.symm⟩ h)
end
end Go.Proofs.YtfngmnhkhfgmjagGreatDoor
namespace Go.Proofs.YtfngmnhkhfgmjagGreatDoor
open Go.ChangeShapes Go.WideShapes Go.ChangeAt Go.RowKit
set_option maxRecDepth 20000
def omA:Mem:=⟨⟨#[98]⟩,-1,0,⟨#[99,43,49]⟩⟩
def omB:Mem:=⟨⟨#[99]⟩,-1,0,⟨#[]⟩⟩
def oneM (i:Nat):Mem:=if i=0 then omA else omB
def oneDm:Dm:=⟨⟨#[97]⟩,0,2,oneM⟩
theorem one_nd:ndL oneDm=[[1],[]]:=by decide +kernel
theorem up_acyc {N:List (List Int)} (h:∀ (a:Int),∀ x∈rowN N a,a<x) (i:Nat):cycB N i=false:=by
 rw [cyc_not]
 intro hr
 have hlt:∀ {a b:Int},Rch N a b→a<b:=by
  intro a b hab
  induction hab with
  | one hx=>exact h _ _ hx
  | more hx _ ih=>have:=h _ _ hx;omega
 have:=hlt hr
 omega
theorem one_acyc (i:Nat):cycB (ndL oneDm) i=false:=by
 rw [one_nd]
 refine up_acyc (fun a x hx=>?_) i
 unfold rowN at hx
 rcases h:a.toNat with _ | _ | k
 ·rw [h] at hx
  simp at hx
  omega
 ·rw [h] at hx
  simp at hx
 ·rw [h] at hx
  simp at hx
end Go.Proofs.YtfngmnhkhfgmjagGreatDoor
namespace Go.Proofs.YtfngmnhkhfgmjagGreatDoor
def misC (N:List (List Int)) (out:List Int) (j:Nat):Nat:=((N.getD j []).filter fun x => !(out.contains x)).length
def usrL (N:List (List Int)) (m n:Nat):List Int:=selTo (fun j=>(N.getD j []).contains (m:Int)) n
theorem usr_mem {N:List (List Int)} {m n:Nat} {x:Int}:x∈usrL N m n↔∃ j:Nat,x=j∧j<n∧(m:Int)∈N.getD j []:=by
 unfold usrL
 constructor
 ·intro h
  obtain ⟨j,h1,h2,h3⟩:=selTo_mem x h
  exact ⟨j,h1,h2,List.contains_iff_mem.1 h3⟩
 ·rintro ⟨j,rfl,h2,h3⟩
  exact sel_has h2 (List.contains_iff_mem.2 h3)
theorem usr_rise (N:List (List Int)) (m n:Nat):(usrL N m n).Pairwise (· < ·):=sel_rise _ _
theorem mis_none {N:List (List Int)} {out:List Int} {j:Nat}:misC N out j=0↔∀ x∈N.getD j [],x∈out:=by
 unfold misC
 rw [List.length_eq_zero_iff,List.filter_eq_nil_iff]
 refine forall_congr' fun x=>forall_congr' fun _=>?_
 simp
theorem mis_first (N:List (List Int)) (j:Nat):misC N [] j=(N.getD j []).length:=by
 unfold misC
 rw [List.filter_eq_self.2 fun x _=>by simp]
theorem mis_le (N:List (List Int)) (out:List Int) (j:Nat):misC N out j≤(N.getD j []).length:=List.length_filter_le _ _
theorem filt_one:∀ (L out:List Int) (m:Int),L.Pairwise (· < ·)→m∉out→(L.filter fun x => !(out.contains x)).length=(L.filter fun x => !((out ++ [m]).contains x)).length+(if m∈L then 1 else 0)
 | [],_,_,_,_=>rfl
 | a :: L,out,m,hL,hm=>by
  obtain ⟨h1,h2⟩:=List.pairwise_cons.1 hL
  have ih:=filt_one L out m h2 hm
  have hc:∀ x,(out ++ [m]).contains x=(out.contains x || x == m):=fun x=>by
   rw [Bool.eq_iff_iff,Bool.or_eq_true,List.contains_iff_mem,List.contains_iff_mem,List.mem_append,List.mem_singleton,beq_iff_eq]
  rw [List.filter_cons,List.filter_cons]
  by_cases ha:a=m
  ·subst ha
   have hn:a∉L:=fun h=>by have:=h1 a h;omega
   have e1:out.contains a=false:=by rw [←Bool.not_eq_true,List.contains_iff_mem];exact hm
   rw [hc a,e1]
   rw [if_neg hn] at ih
   simp only [Bool.not_false,if_true,beq_self_eq_true,Bool.or_true,Bool.not_true,Bool.false_eq_true,if_false,List.length_cons,List.mem_cons,true_or]
   omega
  ·have hb:(a == m)=false:=by simpa using ha
   have e2:(m∈a :: L)↔m∈L:=by
    rw [List.mem_cons]
    exact ⟨fun h=>h.resolve_left (fun e=>ha e.symm),Or.inr⟩
   rw [hc a,hb,Bool.or_false]
   cases out.contains a
   ·simp only [Bool.not_false,if_true,List.length_cons,e2]
    omega
   ·simp only [Bool.not_true,Bool.false_eq_true,if_false,e2]
    exact ih
theorem mis_next {N:List (List Int)} {out:List Int} {m j:Nat} (hr:(N.getD j []).Pairwise (· < ·)) (hm:(m:Int)∉out):misC N out j=misC N (out ++ [(m:Int)]) j+(if (m:Int)∈N.getD j [] then 1 else 0):=filt_one _ _ _ hr hm
theorem ord_closed (N:List (List Int)) (k:Nat):∀ j:Nat,(j:Int)∈ordTo N k→∀ x∈N.getD j [],x∈ordTo N k:=by
 induction k with
 | zero=>intro j hj;cases hj
 | succ k ih =>
  intro j hj x hx
  rw [ordTo,List.mem_append] at hj ⊢
  rcases hj with hj | hj
  ·exact Or.inl (ih j hj x hx)
  ·split at hj
   ·rename_i h
    obtain ⟨m,h1,-,h3,-⟩:=next_some h
    rw [List.mem_singleton,h1] at hj
    have:j=m:=by omega
    subst this
    exact Or.inl ((ok_out h3).2 x hx)
   ·cases hj
def RdyP (N:List (List Int)) (out R:List Int):Prop:=R.Pairwise (· < ·)∧∀ x,x∈R↔∃ j:Nat,x=j∧j<N.length∧okN N out j=true
def RdyI (N:List (List Int)) (out:List Int) (m i:Nat) (R:List Int):Prop:=R.Pairwise (· < ·)∧∀ x,x∈R↔∃ j:Nat,x=j∧j<N.length∧((okN N out j=true∧j≠m)∨((j:Int)∈(usrL N m N.length).take i∧misC N out j=1))
def misI (N:List (List Int)) (out:List Int) (m i j:Nat):Nat:=misC N out j-(if (j:Int)∈(usrL N m N.length).take i then 1 else 0)
theorem rdy_first {N:List (List Int)} {R:List Int} (hR:R=selTo (fun j=>(N.getD j []).isEmpty) N.length):RdyP N [] R:=by
 subst hR
 refine ⟨sel_rise _ _,fun x=>?_⟩
 constructor
 ·intro h
  obtain ⟨j,h1,h2,h3⟩:=selTo_mem x h
  refine ⟨j,h1,h2,ok_of (by simp) fun y hy=>?_⟩
  rw [List.isEmpty_iff] at h3
  rw [h3] at hy
  cases hy
 ·rintro ⟨j,rfl,h2,h3⟩
  refine sel_has h2 ?_
  rw [List.isEmpty_iff]
  have:=(ok_out h3).2
  cases h:N.getD j [] with
  | nil=>rfl
  | cons a r=>exact absurd (this a (by rw [h];simp)) (by simp)
theorem rdy_head {N:List (List Int)} (hN:Inn N) (hc:∀ i:Nat,i<N.length→cycB N i=false) {k:Nat} (hk:k<N.length) {R:List Int} (hR:RdyP N (ordTo N k) R):∃ (m:Nat) (R':List Int),R=(m:Int) :: R'∧m<N.length∧okN N (ordTo N k) m=true∧ordTo N (k+1)=ordTo N k ++ [(m:Int)]∧RdyI N (ordTo N k) m 0 R':=by
 obtain ⟨m,-,h2,h3,h4,h5⟩:=ord_snoc hN hc hk
 obtain ⟨hr,hm⟩:=hR
 have hmR:=(hm m).2 ⟨m,rfl,h2,h3⟩
 cases R with
 | nil=>cases hmR
 | cons a R' =>
  obtain ⟨r1,r2⟩:=List.pairwise_cons.1 hr
  have ham:a=(m:Int):=by
   obtain ⟨j,e1,e2,e3⟩:=(hm a).1 (by simp)
   rcases List.mem_cons.1 hmR with h | h
   ·exact h.symm
   ·have h6:=r1 _ h
    rw [h4 j (by omega)] at e3
    cases e3
  subst ham
  refine ⟨m,R',rfl,h2,h3,h5,r2,fun x=>?_⟩
  constructor
  ·intro hx
   obtain ⟨j,e1,e2,e3⟩:=(hm x).1 (List.mem_cons_of_mem _ hx)
   refine ⟨j,e1,e2,Or.inl ⟨e3,fun e=>?_⟩⟩
   have:=r1 x hx
   omega
  ·rintro ⟨j,rfl,e2,(⟨e3,e4⟩ | ⟨e3,-⟩)⟩
   ·rcases List.mem_cons.1 ((hm j).2 ⟨j,rfl,e2,e3⟩) with h | h
    ·omega
    ·exact h
   ·simp at e3
theorem rdy_end {N:List (List Int)} (hN:Inn N) (hc:∀ i:Nat,i<N.length→cycB N i=false) {R:List Int} (hR:RdyP N (ordTo N N.length) R):R=[]:=by
 refine List.eq_nil_iff_forall_not_mem.2 fun x hx=>?_
 obtain ⟨j,rfl,h2,h3⟩:=(hR.2 x).1 hx
 have hj:=(ok_out h3).1
 obtain ⟨h1,h4⟩:=ord_in N N.length
 have:=few N.length ((j:Int) :: ordTo N N.length) (List.nodup_cons.2 ⟨hj,h1⟩) fun y hy=>by
  rcases List.mem_cons.1 hy with rfl | hy
  ·omega
  ·exact h4 y hy
 rw [List.length_cons,ord_len hN hc N.length (Nat.le_refl _)] at this
 omega
def insL (R:List Int) (k:Int):List Int:=R.take (R.countP (· < k)) ++ k :: R.drop (R.countP (· < k))
theorem ins_parts:∀ (R:List Int) (k:Int),R.Pairwise (· < ·)→k∉R→(∀ a∈R.take (R.countP (· < k)),a<k)∧∀ b∈R.drop (R.countP (· < k)),k<b
 | [],k,_,_=>⟨fun a h=>by simp at h,fun b h=>by simp at h⟩
 | a :: R,k,hR,hk=>by
  obtain ⟨h1,h2⟩:=List.pairwise_cons.1 hR
  have hk2:k≠a∧k∉R:=by simpa using hk
  by_cases h:a<k
  ·obtain ⟨i1,i2⟩:=ins_parts R k h2 hk2.2
   rw [List.countP_cons_of_pos (by simpa using h),List.take_succ_cons,List.drop_succ_cons]
   refine ⟨fun x hx=>?_,i2⟩
   rcases List.mem_cons.1 hx with rfl | hx
   ·exact h
   ·exact i1 x hx
  ·have h0:(a :: R).countP (· < k)=0:=by
    rw [List.countP_eq_zero]
    intro x hx
    rcases List.mem_cons.1 hx with rfl | hx
    ·simpa using h
    ·have:=h1 x hx
     simp;omega
   rw [h0]
   refine ⟨fun x hx=>by simp at hx,fun x hx=>?_⟩
   rcases List.mem_cons.1 (show x∈a :: R from hx) with rfl | hx
   ·omega
   ·have:=h1 x hx;omega
theorem ins_rise {R:List Int} {k:Int} (hR:R.Pairwise (· < ·)) (hk:k∉R):(insL R k).Pairwise (· < ·)∧∀ x,x∈insL R k↔x=k∨x∈R:=by
 obtain ⟨h1,h2⟩:=ins_parts R k hR hk
 have hsp:R.take (R.countP (· < k)) ++ R.drop (R.countP (· < k))=R:=List.take_append_drop _ _
 refine ⟨?_,fun x=>?_⟩
 ·unfold insL
  rw [List.pairwise_append]
  refine ⟨hR.sublist (List.take_sublist _ _),List.pairwise_cons.2 ⟨h2,hR.sublist (List.drop_sublist _ _)⟩,fun a ha b hb=>?_⟩
  rcases List.mem_cons.1 hb with rfl | hb
  ·exact h1 a ha
  ·have:=h1 a ha
   have:=h2 b hb
   omega
 ·unfold insL
  rw [List.mem_append,List.mem_cons]
  have:x∈R↔x∈R.take (R.countP (· < k))∨x∈R.drop (R.countP (· < k)):=by rw [←List.mem_append,hsp]
  rw [this]
  constructor
  ·rintro (h | h | h)
   ·exact Or.inr (Or.inl h)
   ·exact Or.inl h
   ·exact Or.inr (Or.inr h)
  ·rintro (h | h | h)
   ·exact Or.inr (Or.inl h)
   ·exact Or.inl h
   ·exact Or.inr (Or.inr h)
theorem usr_take {N:List (List Int)} {m i:Nat} (hi:i<(usrL N m N.length).length) (x:Int):x∈(usrL N m N.length).take (i+1)↔x∈(usrL N m N.length).take i∨x=(usrL N m N.length).getD i 0:=by
 rw [List.take_succ_eq_append_getElem hi,List.mem_append,List.mem_singleton,List.getD_eq_getElem?_getD,List.getElem?_eq_getElem hi]
 rfl
theorem usr_new {N:List (List Int)} {m i:Nat} (hi:i<(usrL N m N.length).length):(usrL N m N.length).getD i 0∉(usrL N m N.length).take i:=by
 intro h
 rw [List.getD_eq_getElem?_getD,List.getElem?_eq_getElem hi,Option.getD_some] at h
 obtain ⟨j,hj,e⟩:=List.getElem_of_mem h
 have hj2:j<i:=by have:=hj;rw [List.length_take] at this;omega
 rw [List.getElem_take] at e
 have:=List.pairwise_iff_getElem.1 (usr_rise N m N.length) j i (by omega) hi hj2
 omega
theorem usr_step {N:List (List Int)} (hr:∀ j,j<N.length→(N.getD j []).Pairwise (· < ·)) {out:List Int} {m i:Nat} (hm:okN N out m=true) (hi:i<(usrL N m N.length).length):∃ u:Nat,(usrL N m N.length).getD i 0=(u:Int)∧u<N.length∧misI N out m i u=misC N out u∧1≤misC N out u∧misI N out m (i+1) u+1=misC N out u∧(∀ j,j≠u→misI N out m (i+1) j=misI N out m i j)∧∀ R,RdyI N out m i R→(u:Int)∉R∧(misC N out u=1→RdyI N out m (i+1) (insL R u))∧(misC N out u≠1→RdyI N out m (i+1) R):=by
 have hmo:=(ok_out hm).1
 have hmem:(usrL N m N.length).getD i 0∈usrL N m N.length:=by
  rw [List.getD_eq_getElem?_getD,List.getElem?_eq_getElem hi];exact List.getElem_mem hi
 obtain ⟨u,e1,e2,e3⟩:=usr_mem.1 hmem
 have hnew:=usr_new hi
 rw [e1] at hnew
 have h1:1≤misC N out u:=by
  have:=mis_next (hr u e2) hmo
  rw [if_pos e3] at this
  omega
 have hnk:okN N out u=false:=by
  rw [←Bool.not_eq_true]
  intro h
  exact hmo ((ok_out h).2 _ e3)
 have ht:=fun x=>usr_take (N:=N) (m:=m) hi x
 rw [e1] at ht
 refine ⟨u,e1,e2,by unfold misI;rw [if_neg hnew];omega,h1,?_,fun j hj=>?_,fun R hR=>?_⟩
 ·unfold misI
  rw [if_pos ((ht u).2 (Or.inr rfl))]
  omega
 ·unfold misI
  have:((j:Int)∈(usrL N m N.length).take (i+1))↔(j:Int)∈(usrL N m N.length).take i:=by
   rw [ht]
   exact ⟨fun h=>h.resolve_right (by omega),Or.inl⟩
  simp only [this]
 ·have hnR:(u:Int)∉R:=fun h=>by
   obtain ⟨j,f1,f2,(⟨f3,-⟩ | ⟨f3,-⟩)⟩:=(hR.2 u).1 h
   ·have:j=u:=by omega
    subst this
    rw [hnk] at f3
    cases f3
   ·have:j=u:=by omega
    subst this
    exact hnew f3
  refine ⟨hnR,fun h=>?_,fun h=>⟨hR.1,fun x=>?_⟩⟩
  ·obtain ⟨i1,i2⟩:=ins_rise hR.1 hnR
   refine ⟨i1,fun x=>?_⟩
   rw [i2,hR.2]
   constructor
   ·rintro (rfl | ⟨j,f1,f2,f3⟩)
    ·exact ⟨u,rfl,e2,Or.inr ⟨(ht u).2 (Or.inr rfl),h⟩⟩
    ·refine ⟨j,f1,f2,?_⟩
     rcases f3 with f3 | ⟨f3,f4⟩
     ·exact Or.inl f3
     ·exact Or.inr ⟨(ht j).2 (Or.inl f3),f4⟩
   ·rintro ⟨j,f1,f2,(f3 | ⟨f3,f4⟩)⟩
    ·exact Or.inr ⟨j,f1,f2,Or.inl f3⟩
    ·rcases (ht j).1 f3 with f5 | f5
     ·exact Or.inr ⟨j,f1,f2,Or.inr ⟨f5,f4⟩⟩
     ·exact Or.inl (f1.trans f5)
  ·rw [hR.2]
   constructor
   ·rintro ⟨j,f1,f2,f3⟩
    refine ⟨j,f1,f2,?_⟩
    rcases f3 with f3 | ⟨f3,f4⟩
    ·exact Or.inl f3
    ·exact Or.inr ⟨(ht j).2 (Or.inl f3),f4⟩
   ·rintro ⟨j,f1,f2,(f3 | ⟨f3,f4⟩)⟩
    ·exact ⟨j,f1,f2,Or.inl f3⟩
    ·rcases (ht j).1 f3 with f5 | f5
     ·exact ⟨j,f1,f2,Or.inr ⟨f5,f4⟩⟩
     ·have:j=u:=by omega
      subst this
      exact absurd f4 h
theorem usr_end {N:List (List Int)} (hr:∀ j,j<N.length→(N.getD j []).Pairwise (· < ·)) {k m:Nat} (hm:okN N (ordTo N k) m=true):(∀ j,j<N.length→misI N (ordTo N k) m (usrL N m N.length).length j=misC N (ordTo N k ++ [(m:Int)]) j)∧∀ R,RdyI N (ordTo N k) m (usrL N m N.length).length R→RdyP N (ordTo N k ++ [(m:Int)]) R:=by
 have hmo:=(ok_out hm).1
 have hmn:=(ok_out hm).2
 refine ⟨fun j hj=>?_,fun R hR=>⟨hR.1,fun x=>?_⟩⟩
 ·unfold misI
  rw [List.take_length]
  have h1:=mis_next (hr j hj) hmo
  by_cases h:(m:Int)∈N.getD j []
  ·rw [if_pos (usr_mem.2 ⟨j,rfl,hj,h⟩)]
   rw [if_pos h] at h1
   omega
  ·have hnu:(j:Int)∉usrL N m N.length:=fun e=>by
    obtain ⟨i,e1,-,e3⟩:=usr_mem.1 e
    have e2:i=j:=by omega
    rw [e2] at e3
    exact h e3
   rw [if_neg hnu]
   rw [if_neg h] at h1
   omega
 ·rw [hR.2,List.take_length]
  constructor
  ·rintro ⟨j,f1,f2,f3⟩
   refine ⟨j,f1,f2,?_⟩
   rcases f3 with ⟨f3,f4⟩ | ⟨f3,f4⟩
   ·obtain ⟨g1,g2⟩:=ok_out f3
    refine ok_of ?_ fun y hy=>List.mem_append.2 (Or.inl (g2 y hy))
    rw [List.mem_append,List.mem_singleton]
    rintro (h | h)
    ·exact g1 h
    ·omega
   ·obtain ⟨i,e1,e2,e3⟩:=usr_mem.1 f3
    have:i=j:=by omega
    subst this
    have h1:=mis_next (hr i e2) hmo
    rw [if_pos e3,f4] at h1
    refine ok_of ?_ (mis_none.1 (by omega))
    rw [List.mem_append,List.mem_singleton]
    rintro (h | h)
    ·exact hmo (ord_closed N k i h _ e3)
    ·have:i=m:=by omega
     subst this
     exact hmo (hmn _ e3)
  ·rintro ⟨j,f1,f2,f3⟩
   obtain ⟨g1,g2⟩:=ok_out f3
   rw [List.mem_append,List.mem_singleton] at g1
   refine ⟨j,f1,f2,?_⟩
   by_cases h:(m:Int)∈N.getD j []
   ·refine Or.inr ⟨usr_mem.2 ⟨j,rfl,f2,h⟩,?_⟩
    have h1:=mis_next (hr j f2) hmo
    rw [if_pos h,mis_none.2 g2] at h1
    omega
   ·refine Or.inl ⟨ok_of (fun e=>g1 (Or.inl e)) fun y hy=>?_,fun e=>g1 (Or.inr (by omega))⟩
    rcases List.mem_append.1 (g2 y hy) with h2 | h2
    ·exact h2
    ·rw [List.mem_singleton] at h2
     rw [h2] at hy
     exact absurd hy h
end Go.Proofs.YtfngmnhkhfgmjagGreatDoor
