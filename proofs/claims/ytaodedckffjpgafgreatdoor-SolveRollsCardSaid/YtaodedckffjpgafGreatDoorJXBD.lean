/-
  The text of a tree, on plain data: it is read as its words, and so as its nodes.
-/
import Derived.SizedLaws
import Derived.Test.YtaodedckffjpgafGreatDoorJXBB
import Derived.Test.YtaodedckffjpgafGreatDoorJXBC
namespace Go.Proofs.YtaodedckffjpgafGreatDoor
def bytesOf (ts:List ByteArray):List UInt8:=ts.flatMap fun t=>t.data.toList
end Go.Proofs.YtaodedckffjpgafGreatDoor
namespace Go.Proofs.YtaodedckffjpgafGreatDoor
open Go.ChangeShapes Go.WideShapes Go.ChangeAt Go.RowKit
set_option maxRecDepth 20000
set_option maxHeartbeats 2000000 in
theorem leafs_any (d:Dm) (A:Option Addr) (cap:Nat) (i:Int) (w:World) (hM:MemsV w A cap d.n d.mem):Calls Tryz.prog 129 #[dimV d A cap,.int .i64 i] w fun e w'=>(∃ A' c',e=.returned (.tuple #[.slice A' (lst (treeErr d [i]) (leafsOf d.mem d.n i)).length c',errV (treeErr d [i])])∧IntsAt w' A' c' (lst (treeErr d [i]) (leafsOf d.mem d.n i)))∧Below w.heap.size w w':=by
 have hB0:=ownQ_below w d A cap i 24 3
 have hck:=tcheck_any d A cap _ 1 [i] (ownQ w d A cap i 24 3) (hM.later hB0) (by simp) (ownQ_ints ..)
 have HB0:Hid (Below w.heap.size w (ownQ w d A cap i 24 3)):=hB0
 have HM:Hid (MemsV w A cap d.n d.mem):=hM
 unfold dimV at hck ⊢
 simp only [List.length_singleton] at hck
 clear hM hB0
 by_cases he:treeErr d [i]=0
 ·obtain ⟨hd,k,rfl,hk⟩:=treeErr_in he
  rw [he,errV_zero] at hck
  obtain ⟨-,-,hd2,-⟩:=dimErr_right hd
  have ht:Tr d.mem d.n:=Tr.of hd
  have HR:Hid (lst (treeErr d [(k:Int)]) (leafsOf d.mem d.n k)=selTo (leafIn d.mem d.n k) d.n):=lst_ok he _
  have HE:Hid (errV (treeErr d [(k:Int)])=.nilIface):=by show _=_;rw [he];rfl
  have HT:Hid (Tr d.mem d.n):=ht
  clear he hd ht
  go_enter Tryz.func129,Tryz.ntmps129
  go_wp2_with fail
  refine hck.mono ?_
  rintro e w1 ⟨rfl,hb1⟩
  have hB:Below w.heap.size w w1:=onB HB0.out hb1
  have hz:w.heap.size+1<w1.heap.size:=by have:=hb1.size;rw [ownQ_size] at this;omega
  have hz0:w.heap.size<w1.heap.size:=by omega
  have h2:w1.cell? ⟨w.heap.size,2,none⟩=some (.slice A d.n cap):=(hb1.cell (p:=⟨w.heap.size,2,none⟩) (by show w.heap.size<_;rw [ownQ_size];omega)).trans (ownQ_dim ..)
  have h3:w1.cell? ⟨w.heap.size+1,0,none⟩=some (.int .i64 k):=(hb1.cell (p:=⟨w.heap.size+1,0,none⟩) (by show w.heap.size+1<_;rw [ownQ_size];omega)).trans (ownQ_int ..)
  obtain ⟨hcap,h0 | ⟨b,o,rfl,hMs⟩⟩:=HM.out.later hB
  ·omega
  have hpl:=places_any 161 w.heap.size (w.heap.size+1) leafs1_in (some ⟨b,o,none⟩) d.n cap (leafIn d.mem d.n k) w1 hd2 (fun j w' hj hw'=>leafs1_any b o d.n cap j w.heap.size (w.heap.size+1) d.mem k w' hj hd2 HT.out (hMs.later hw') (Nat.lt_of_lt_of_le hz0 hw'.size) (Nat.lt_of_lt_of_le hz hw'.size) ((hw'.cell (p:=⟨w.heap.size,2,none⟩) hz0).trans h2) ((hw'.cell (p:=⟨w.heap.size+1,0,none⟩) hz).trans h3))
  have HB:Hid (Below w.heap.size w w1):=hB
  clear hb1 hck hMs h3 hB
  go_wp2_with fail
  refine hpl.mono ?_
  rintro e w2 ⟨⟨A',c',rfl,hI⟩,hb2⟩
  go_wp2_with fail
  go_ret2
  rw [HR.out,HE.out]
  exact ⟨⟨A',c',rfl,hI⟩,onB HB.out hb2⟩
 ·have HR:Hid (lst (treeErr d [i]) (leafsOf d.mem d.n i)=[]):=lst_bad he _
  have HE:Hid (errV (treeErr d [i])=.iface 77 (.int .i64 (treeErr d [i]))):=errV_some he
  rw [errV_some he] at hck
  clear he
  generalize treeErr d [i]=c at hck HR HE
  go_enter Tryz.func129,Tryz.ntmps129
  go_wp2_with fail
  refine hck.mono ?_
  rintro e w1 ⟨rfl,hb1⟩
  go_wp2_with fail
  go_ret2
  rw [HR.out,HE.out]
  exact ⟨⟨none,0,rfl,IntsAt.nil _ _ _⟩,onB HB0.out hb1⟩
theorem getD_set {L:List (Int×Int)} {x y:Nat} {c:Int×Int} (hx:x<L.length):(L.set x c).getD y (0,0)=if y=x then c else L.getD y (0,0):=by
 by_cases e:y=x
 ·subst e;rw [if_pos rfl];simp [List.getD,hx]
 ·rw [if_neg e];simp [List.getD,List.getElem?_set_ne (fun h=>e h.symm)]
theorem list_same {a b:List (Int×Int)} (hl:a.length=b.length) (h:∀ y,y<a.length→a.getD y (0,0)=b.getD y (0,0)):a=b:=by
 apply List.ext_getElem hl
 intro y h1 h2
 have:=h y h1
 simpa [List.getD,h1,h2] using this
section
variable {D:Nat→Dm} {n dim:Nat} (hp:∀ i,i<n→1≤(D i).n) (hd:dim<n) (ht:Tr (D dim).mem (D dim).n)
include hp hd ht
def FixAt (D:Nat→Dm) (n dim m:Nat) (L:List (Int×Int)):Prop := ∀ y,y<L.length→y / stepD D n dim % (D dim).n=m→partsOf (D dim).mem (D dim).n (m:Int)≠[]→L.getD y (0,0)=partsV (D dim).mem (atP D n dim m y L) (partsOf (D dim).mem (D dim).n m)
end
end Go.Proofs.YtaodedckffjpgafGreatDoor
namespace Go.Proofs.YtaodedckffjpgafGreatDoor
def lfs (D:Nat→Dm) (p:List Int) (i:Nat):List Int:=leafsOf (D i).mem (D i).n (p.getD i 0)
def cnts (d:Dm) (i:Int) (X:List Int):List Int:=(List.range d.n).map fun (k:Nat)=>if (k:Int)∈X then weightOf d.mem i (k:Int) else 0
theorem cnts_len (d:Dm) (i:Int) (X:List Int):(cnts d i X).length=d.n:=by simp [cnts]
theorem cnts_nil (d:Dm) (i:Int):cnts d i []=List.replicate d.n 0:=by
 apply List.ext_getElem
 ·simp [cnts]
 ·intro j h1 h2;simp [cnts]
theorem cnts_at {d:Dm} {i:Int} {X:List Int} {k:Nat} (hk:k<d.n):(cnts d i X).getD k 0=if (k:Int)∈X then weightOf d.mem i k else 0:=by
 simp [cnts,List.getD,hk]
theorem cnts_set {d:Dm} {i:Int} {X:List Int} {k:Nat}:(cnts d i X).set k (weightOf d.mem i k)=cnts d i (X ++ [(k:Int)]):=by
 apply List.ext_getElem
 ·simp [cnts]
 ·intro j h1 h2
  rw [List.getElem_set]
  by_cases e:k=j
  ·subst e;simp [cnts]
  ·have e' : ¬ ((j:Int)=(k:Int)):=by omega
   rw [if_neg e];simp [cnts,e']
theorem sel_in {p:Nat→Bool} {k m:Nat} (hm:m<k) (hp:p m=true):(m:Int)∈selTo p k:=by
 induction k with
 | zero=>omega
 | succ k ih =>
  by_cases e:m=k
  ·subst e;rw [selTo_hit hp];simp
  ·have h1:=ih (by omega)
   cases hk:p k
   ·rw [selTo_miss hk];exact h1
   ·rw [selTo_hit hk];simp [h1]
theorem lfs_mem {D:Nat→Dm} {p:List Int} {i:Nat}:∀ j∈lfs D p i,∃ m:Nat,j=m∧m<(D i).n∧leafIn (D i).mem (D i).n (p.getD i 0) m=true:=selTo_mem
theorem lfs_len (D:Nat→Dm) (p:List Int) (i:Nat):(lfs D p i).length≤(D i).n:=selTo_len _ _
def wts (D:Nat→Dm) (p:List Int) (i:Nat):List Int:=cnts (D i) (p.getD i 0) (lfs D p i)
theorem wts_at {D:Nat→Dm} {p:List Int} {i k:Nat} (hk:k<(D i).n) (hl:leafB (D i).mem (D i).n k=true):(wts D p i).getD k 0=weightOf (D i).mem (p.getD i 0) k:=by
 unfold wts
 rw [cnts_at hk]
 by_cases h:(k:Int)∈lfs D p i
 ·rw [if_pos h]
 ·rw [if_neg h]
  have h1:inB (pathOf (D i).mem k) (p.getD i 0)=false:=by
   cases hb:inB (pathOf (D i).mem k) (p.getD i 0)
   ·rfl
   ·exact absurd (sel_in hk (by unfold leafIn;rw [hl,hb];rfl)) h
  have h2:p.getD i 0∉pathOf (D i).mem k:=by unfold inB at h1;exact of_decide_eq_false h1
  rw [weightOf,wgt_out _ h2]
theorem wts_small {D:Nat→Dm} {n:Nat} (hR:(allErr D n).2.2=0) (p:List Int) {i:Nat} (hi:i<n) (k:Nat) : -1≤(wts D p i).getD k 0∧(wts D p i).getD k 0≤1:=by
 by_cases hk:k<(D i).n
 ·unfold wts
  rw [cnts_at hk]
  split
  ·have hd:=(allErr_right hR).2 i hi
   refine wgt_small (Sg.of hd) _ _ (fun j hj=>?_) 1 (by omega)
   have:=pathOf_mem (Tr.of hd) (D i).n k (by omega) (by omega) j hj
   omega
  ·omega
 ·have:(wts D p i).getD k 0=0:=by unfold wts;rw [List.getD_eq_getElem?_getD,List.getElem?_eq_none (by rw [cnts_len];omega)];rfl
  rw [this];omega
def prTo (R:Nat→List Int) (q:List Int):Nat→Int
 | 0=>1
 | k+1=>prTo R q k*(R k).getD (q.getD k 0).toNat 0
theorem leaf_each {D:Nat→Dm} {n:Nat} {q:List Int} (h:leafV D n q=true):∀ k,k<n→leafB (D k).mem (D k).n (q.getD k 0).toNat=true:=by
 unfold leafV at h
 split at h
 ·intro k hk
  cases hb:leafB (D k).mem (D k).n (q.getD k 0).toNat
  ·have h1:∀ m i,i≤k→k<i+m→0≤findFrom (notLeaf D q) m i:=by
    intro m
    induction m with
    | zero=>intro i h1 h2;omega
    | succ m ih =>
     intro i h1 h2
     cases hn:notLeaf D q i
     ·rw [findFrom_miss _ hn]
      refine ih (i+1) ?_ (by omega)
      rcases Nat.lt_or_ge i k with h3 | h3
      ·omega
      ·have:i=k:=by omega
       subst this
       unfold notLeaf at hn
       rw [hb] at hn
       cases hn
     ·rw [findFrom_hit _ hn];omega
   have:=h1 n 0 (by omega) (by omega)
   rw [decide_eq_true this] at h
   cases h
  ·rfl
 ·cases h
theorem pr_wts {D:Nat→Dm} {n:Nat} {q:List Int} (hq:InO D n q) (hl:leafV D n q=true) (p:List Int):∀ k,k≤n→prTo (wts D p) q k=pwTo D p q k
 | 0,_=>rfl
 | k+1,hk=>by
  have hlo:=hq.lo k (by omega)
  have hhi:=hq.hi k (by omega)
  rw [prTo,pwTo,pr_wts hq hl p k (by omega),wts_at (by omega) (leaf_each hl k (by omega)),show ((q.getD k 0).toNat:Int)=q.getD k 0 by omega]
theorem prTo_small {D:Nat→Dm} {n:Nat} (hR:(allErr D n).2.2=0) (p q:List Int):∀ k,k≤n→-1≤prTo (wts D p) q k∧prTo (wts D p) q k≤1
 | 0,_=>by simp [prTo]
 | k+1,hk=>by
  rw [prTo]
  exact small_mul (prTo_small hR p q k (by omega)) (wts_small hR p (by omega) _)
theorem cnt_pw {D:Nat→Dm} {n:Nat} {p:List Int} {e:En}:cntR D n p e = !(pwTo D p e.pl n == 0):=by
 unfold cntR
 cases h:inTo D p e.pl n
 ·rw [pwTo_out h];rfl
 ·rfl
theorem roll_none {D:Nat→Dm} {n:Nat} {p:List Int}:∀ {l:List En},l.any (cntR D n p)=false→rollN D n p l=0
 | [],_=>rfl
 | e :: r,h=>by
  rw [List.any_cons,Bool.or_eq_false_iff] at h
  rw [rollN,roll_none h.2,if_neg (by rw [h.1];simp)]
  rfl
def facS (D:Nat→Dm) (S:Nat→Bool) (p q:List Int) (k:Nat):Int:=if S k=true then weightOf (D k).mem (p.getD k 0) (q.getD k 0) else if p.getD k 0=q.getD k 0 then 1 else 0
def gwTo (D:Nat→Dm) (S:Nat→Bool) (p q:List Int):Nat→Int
 | 0=>1
 | k+1=>gwTo D S p q k*facS D S p q k
theorem gw_congr {D:Nat→Dm} {S S':Nat→Bool} {p p' q:List Int}:∀ k,(∀ j,j<k→facS D S p q j=facS D S' p' q j)→gwTo D S p q k=gwTo D S' p' q k
 | 0,_=>rfl
 | k+1,h=>by rw [gwTo,gwTo,gw_congr k fun j hj=>h j (by omega),h k (by omega)]
def grTo (D:Nat→Dm) (S:Nat→Bool) (dim:Nat) (p q:List Int):Nat→Int
 | 0=>1
 | k+1=>grTo D S dim p q k*(if k=dim then 1 else facS D S p q k)
theorem gw_split (D:Nat→Dm) (S:Nat→Bool) (dim:Nat) (p q:List Int):∀ k,gwTo D S p q k=grTo D S dim p q k*(if dim<k then facS D S p q dim else 1)
 | 0=>by simp [gwTo,grTo]
 | k+1=>by
  rw [gwTo,grTo,gw_split D S dim p q k]
  rcases Nat.lt_trichotomy dim k with h | h | h
  ·rw [if_pos h,if_pos (show dim<k+1 by omega),if_neg (show ¬ k=dim by omega),Int.mul_assoc,Int.mul_comm (facS D S p q dim),←Int.mul_assoc]
  ·subst h
   rw [if_neg (show ¬ dim<dim by omega),if_pos (show dim<dim+1 by omega),if_pos (show dim=dim from rfl)]
  ·rw [if_neg (show ¬ dim<k by omega),if_neg (show ¬ dim<k+1 by omega),if_neg (show ¬ k=dim by omega),Int.mul_one,Int.mul_one]
theorem gr_congr {D:Nat→Dm} {S:Nat→Bool} {dim:Nat} {p p' q:List Int}:∀ k,(∀ j,j<k→j≠dim→p.getD j 0=p'.getD j 0)→grTo D S dim p q k=grTo D S dim p' q k
 | 0,_=>rfl
 | k+1,h=>by
  rw [grTo,grTo,gr_congr k fun j hj=>h j (by omega)]
  by_cases e:k=dim
  ·rw [if_pos e,if_pos e]
  ·rw [if_neg e,if_neg e]
   unfold facS
   rw [h k (by omega) e]
theorem fac_small {D:Nat→Dm} {n:Nat} {q:List Int} (hq:InO D n q) (S:Nat→Bool) (p:List Int) {k:Nat} (hk:k<n) : -1≤facS D S p q k∧facS D S p q k≤1:=by
 unfold facS
 split
 ·exact weight_small hq hk _
 ·split <;> omega
theorem gw_small {D:Nat→Dm} {n:Nat} {q:List Int} (hq:InO D n q) (S:Nat→Bool) (p:List Int):∀ k,k≤n→-1≤gwTo D S p q k∧gwTo D S p q k≤1
 | 0,_=>by simp [gwTo]
 | k+1,hk=>by
  rw [gwTo]
  exact small_mul (gw_small hq S p k (by omega)) (fac_small hq S p (by omega))
def gN (D:Nat→Dm) (n:Nat) (S:Nat→Bool) (p:List Int):List En→Int
 | []=>0
 | e :: r=>gwTo D S p e.pl n*e.n+gN D n S p r
def gB (D:Nat→Dm) (n:Nat) (S:Nat→Bool) (p:List Int) (e:En):Bool := !(gwTo D S p e.pl n == 0)
def gV (D:Nat→Dm) (n:Nat) (S:Nat→Bool) (l:List En) (p:List Int):Int×Int:=(if l.any (gB D n S p)=true then 1 else 0,gN D n S p l)
def gL (D:Nat→Dm) (n:Nat) (S:Nat→Bool) (l:List En):List (Int×Int):=(List.range (prodN D n)).map fun x=>gV D n S l (placeL D n x)
theorem gL_len (D:Nat→Dm) (n:Nat) (S:Nat→Bool) (l:List En):(gL D n S l).length=prodN D n:=by simp [gL]
theorem gL_at {D:Nat→Dm} {n:Nat} {S:Nat→Bool} {l:List En} {x:Nat} (hx:x<prodN D n):(gL D n S l).getD x (0,0)=gV D n S l (placeL D n x):=by simp [gL,List.getD,hx]
theorem gV_congr {D:Nat→Dm} {n:Nat} {S S':Nat→Bool} {p p':List Int}:∀ {l:List En},(∀ e∈l,gwTo D S p e.pl n=gwTo D S' p' e.pl n)→gV D n S l p=gV D n S' l p'
 | [],_=>rfl
 | e :: r,h=>by
  have ih:=gV_congr (l:=r) fun x hx=>h x (List.mem_cons_of_mem _ hx)
  have he:=h e (List.mem_cons_self ..)
  unfold gV at ih ⊢
  simp only [Prod.mk.injEq] at ih
  have hb:gB D n S p e=gB D n S' p' e:=by unfold gB;rw [he]
  rw [List.any_cons,List.any_cons,hb,gN,gN,he,ih.2]
  refine Prod.ext ?_ rfl
  have h1:=ih.1
  simp only at h1 ⊢
  cases gB D n S' p' e
  ·simpa using h1
  ·simp
theorem gN_bound {D:Nat→Dm} {n:Nat} (S:Nat→Bool) (p:List Int):∀ l:List En,(∀ e∈l,InO D n e.pl∧leafV D n e.pl=true∧numOk e.n=true)→-1000000*(l.length:Int)≤gN D n S p l∧gN D n S p l≤1000000*(l.length:Int)
 | [],_=>by simp [gN]
 | e :: r,h=>by
  obtain ⟨h1,-,h2⟩:=h e (List.mem_cons_self ..)
  have ih:=gN_bound S p r fun x hx=>h x (List.mem_cons_of_mem _ hx)
  have hw:=gw_small h1 S p n (Nat.le_refl _)
  have hn : -1000000≤e.n∧e.n≤1000000:=by simpa [numOk] using h2
  have hv : -1000000≤gwTo D S p e.pl n*e.n∧gwTo D S p e.pl n*e.n≤1000000:=by
   have h3:gwTo D S p e.pl n = -1∨gwTo D S p e.pl n=0∨gwTo D S p e.pl n=1:=by omega
   rcases h3 with h3 | h3 | h3 <;> rw [h3] <;> omega
  rw [gN,List.length_cons]
  omega
theorem gN_none {D:Nat→Dm} {n:Nat} {S:Nat→Bool} {p:List Int}:∀ {l:List En},l.any (gB D n S p)=false→gN D n S p l=0
 | [],_=>rfl
 | e :: r,h=>by
  rw [List.any_cons,Bool.or_eq_false_iff] at h
  have:gwTo D S p e.pl n=0:=by have:=h.1;unfold gB at this;simpa using this
  rw [gN,gN_none h.2,this]
  simp
theorem gw_all {D:Nat→Dm} {S:Nat→Bool} {p q:List Int}:∀ k,(∀ j,j<k→S j=true)→gwTo D S p q k=pwTo D p q k
 | 0,_=>rfl
 | k+1,h=>by rw [gwTo,pwTo,gw_all k fun j hj=>h j (by omega),facS,if_pos (h k (by omega))]
theorem gV_all {D:Nat→Dm} {n:Nat} {S:Nat→Bool} (hS:∀ j,j<n→S j=true) (l:List En) (p:List Int):gV D n S l p=rollV D n l p:=by
 have h1:∀ l:List En,l.any (gB D n S p)=l.any (cntR D n p):=fun l=>by
  induction l with
  | nil=>rfl
  | cons e r ih=>rw [List.any_cons,List.any_cons,ih,cnt_pw,gB,gw_all n hS]
 have h2:∀ l:List En,gN D n S p l=rollN D n p l:=fun l=>by
  induction l with
  | nil=>rfl
  | cons e r ih =>
   rw [gN,rollN,ih,gw_all n hS,cnt_pw]
   by_cases h:pwTo D p e.pl n=0
   ·rw [h];simp
   ·rw [if_pos (by simpa using h)];rfl
 unfold gV rollV rollK
 rw [h1,h2]
theorem gw_none {D:Nat→Dm} {p q:List Int}:∀ k,gwTo D (fun _=>false) p q k=if ∀ j,j<k→p.getD j 0=q.getD j 0 then 1 else 0
 | 0=>by simp [gwTo]
 | k+1=>by
  rw [gwTo,gw_none k,facS]
  simp only [Bool.false_eq_true,if_false]
  by_cases h:∀ j,j<k→p.getD j 0=q.getD j 0
  ·rw [if_pos h]
   by_cases e:p.getD k 0=q.getD k 0
   ·rw [if_pos e,if_pos]
    ·rfl
    ·intro j hj
     rcases Nat.lt_succ_iff_lt_or_eq.1 hj with h1 | rfl
     ·exact h j h1
     ·exact e
   ·rw [if_neg e,if_neg]
    ·rfl
    ·exact fun h1=>e (h1 k (by omega))
  ·rw [if_neg h,if_neg (show ¬ ∀ j,j<k+1→p.getD j 0=q.getD j 0 from fun h1=>h fun j hj=>h1 j (by omega)),Int.zero_mul]
theorem gw_num {D:Nat→Dm} {n x:Nat} {q:List Int} (hq:InO D n q) (hx:x<prodN D n):gwTo D (fun _=>false) (placeL D n x) q n=if (numI D q n).toNat=x then 1 else 0:=by
 rw [gw_none]
 by_cases h:(numI D q n).toNat=x
 ·rw [if_pos h,if_pos]
  intro j _
  rw [←h,place_num hq]
 ·rw [if_neg h,if_neg]
  intro h1
  have e:placeL D n x=q:=by
   apply List.ext_getElem (by rw [placeL_len];exact hq.len.symm)
   intro j h2 h3
   have:=h1 j (by rw [placeL_len] at h2;exact h2)
   simpa [List.getD,h2,h3] using this
  apply h
  rw [←e,num_place hq.right hx]
  omega
theorem wr_get {D:Nat→Dm} {n:Nat} {x:Nat} (hx:x<prodN D n):∀ (l:List En) (L:List (Int×Int)),L.length=prodN D n→(∀ e∈l,InO D n e.pl)→(l.Pairwise fun a b=>lessL a.pl b.pl=true)→(l.foldl (wrStep D n) L).getD x (0,0)=if l.any (gB D n (fun _=>false) (placeL D n x))=true then (1,gN D n (fun _=>false) (placeL D n x) l) else L.getD x (0,0)
 | [],L,_,_,_=>by simp
 | e :: r,L,hL,hi,hr=>by
  have hie:=hi e (List.mem_cons_self ..)
  have hr':=List.pairwise_cons.1 hr
  obtain ⟨hb1,hb2,-⟩:=numI_bound hie (Nat.le_refl n)
  rw [List.foldl_cons,wr_get hx r _ (by unfold wrStep;rw [List.length_set];exact hL) (fun y hy=>hi y (List.mem_cons_of_mem _ hy)) hr'.2,List.any_cons,gN]
  have hg:=gw_num hie hx
  unfold wrStep
  rw [getD_set (by omega)]
  by_cases h:(numI D e.pl n).toNat=x
  ·have hno:r.any (gB D n (fun _=>false) (placeL D n x))=false:=by
    rw [Bool.eq_false_iff]
    intro ha
    obtain ⟨y,hy,hyb⟩:=List.any_eq_true.1 ha
    have hiy:=hi y (List.mem_cons_of_mem _ hy)
    have h1:=gw_num hiy hx
    have h2:=less_num hie hiy (hr'.1 y hy)
    obtain ⟨h3,-,-⟩:=numI_bound hiy (Nat.le_refl n)
    rw [if_neg (by omega)] at h1
    unfold gB at hyb
    rw [h1] at hyb
    simp at hyb
   rw [if_pos h] at hg
   have hbe:gB D n (fun _=>false) (placeL D n x) e=true:=by unfold gB;rw [hg];rfl
   rw [hno,hbe,gN_none hno,hg]
   simp [h]
  ·rw [if_neg h] at hg
   have hbe:gB D n (fun _=>false) (placeL D n x) e=false:=by unfold gB;rw [hg];rfl
   rw [hbe,hg,if_neg (show ¬ x=(numI D e.pl n).toNat from fun e=>h e.symm)]
   simp
theorem wr_gL {D:Nat→Dm} {n:Nat} {l:List En} (h:Ens D n l):wrV D n l=gL D n (fun _=>false) l:=by
 refine list_same (by rw [wrV_len,gL_len]) fun x hx=>?_
 rw [wrV_len] at hx
 rw [gL_at hx]
 unfold wrV
 rw [wr_get hx l _ (by simp) (fun e he=>(h.each e he).1) h.rise]
 unfold gV
 split
 ·rfl
 ·rename_i hn
  rw [gN_none (by simpa using hn)]
  simp [List.getD,hx]
def sumP (f:Int→Int):List Int→Int
 | []=>0
 | k :: r=>f k+sumP f r
theorem sumP_congr {f g:Int→Int}:∀ {P:List Int},(∀ k∈P,f k=g k)→sumP f P=sumP g P
 | [],_=>rfl
 | k :: r,h=>by rw [sumP,sumP,h k (List.mem_cons_self ..),sumP_congr fun j hj=>h j (List.mem_cons_of_mem _ hj)]
theorem sumP_add (f g:Int→Int):∀ P:List Int,sumP (fun k=>f k+g k) P=sumP f P+sumP g P
 | []=>rfl
 | k :: r=>by rw [sumP,sumP,sumP,sumP_add f g r];omega
theorem sumP_mul (f:Int→Int) (c:Int):∀ P:List Int,sumP (fun k=>f k*c) P=sumP f P*c
 | []=>by simp [sumP]
 | k :: r=>by rw [sumP,sumP,sumP_mul f c r,Int.add_mul]
theorem sumP_append (f:Int→Int):∀ (P Q:List Int),sumP f (P ++ Q)=sumP f P+sumP f Q
 | [],Q=>by simp [sumP]
 | k :: r,Q=>by rw [List.cons_append,sumP,sumP,sumP_append f r Q];omega
theorem sumP_zero {f:Int→Int}:∀ {P:List Int},(∀ k∈P,f k=0)→sumP f P=0
 | [],_=>rfl
 | k :: r,h=>by rw [sumP,h k (List.mem_cons_self ..),sumP_zero fun j hj=>h j (List.mem_cons_of_mem _ hj)];rfl
theorem sel_single {f:Int→Int} {p:Nat→Bool} {k0:Nat}:∀ n,k0<n→p k0=true→(∀ k,k<n→p k=true→k≠k0→f k=0)→sumP f (selTo p n)=f k0
 | 0,h,_,_=>by omega
 | n+1,h,hp,hz=>by
  by_cases e:k0=n
  ·subst e
   have h0:sumP f (selTo p k0)=0:=sumP_zero fun k hk=>by
    obtain ⟨m,rfl,hm,hpm⟩:=selTo_mem k hk
    exact hz m (by omega) hpm (by omega)
   rw [selTo_hit hp,sumP_append,h0]
   simp [sumP]
  ·have ih:=sel_single n (by omega) hp fun k hk=>hz k (by omega)
   cases hn:p n
   ·rw [selTo_miss hn];exact ih
   ·rw [selTo_hit hn,sumP_append,ih,sumP,sumP,hz n (by omega) hn (fun h=>e h.symm)];omega
theorem sumTo_none {f:Nat→Nat}:∀ n,sumTo f n=0→∀ k,k<n→f k=0
 | 0,_,k,hk=>by omega
 | n+1,h,k,hk=>by
  rw [sumTo] at h
  by_cases e:k=n
  ·rw [e];omega
  ·exact sumTo_none n (by omega) k (by omega)
theorem sumTo_only {f:Nat→Nat}:∀ n,sumTo f n=1→∃ k,k<n∧f k=1∧∀ j,j<n→j≠k→f j=0
 | 0,h=>by simp [sumTo] at h
 | n+1,h=>by
  rw [sumTo] at h
  by_cases e:f n=0
  ·obtain ⟨k,h1,h2,h3⟩:=sumTo_only (f:=f) n (by omega)
   refine ⟨k,by omega,h2,fun j hj hne=>?_⟩
   by_cases e2:j=n
   ·rw [e2];exact e
   ·exact h3 j (by omega) hne
  ·have h0:sumTo f n=0:=by omega
   refine ⟨n,by omega,by omega,fun j hj hne=>sumTo_none n h0 j (by omega)⟩
theorem part_cases {M:Nat→Mem} {n:Nat} (ht:Tr M n) {m j:Nat} (hj:j<n) (hne:j≠m) :
  (weightOf M (m:Int) (j:Int)=0∧∀ k,k<n→partB M (m:Int) k=true→weightOf M (k:Int) (j:Int)=0) ∨
  ∃ k0,k0<n∧partB M (m:Int) k0=true∧weightOf M (m:Int) (j:Int)=(M k0).sign*weightOf M (k0:Int) (j:Int)∧∀ k,k<n→partB M (m:Int) k=true→k≠k0→weightOf M (k:Int) (j:Int)=0:=by
 have hs:=steps_one ht (i:=m) (j+1) j hj (by omega)
 have hd:decide (j=m)=false:=decide_eq_false hne
 rw [hd] at hs
 cases hin:inB (pathOf M (j:Int)) (m:Int)
 ·left
  rw [hin] at hs
  have h0:sumTo (fun p=>one (partB M m p && inB (pathOf M j) p)) n=0:=hs
  refine ⟨wgt_out _ (inB_false.1 hin) _,fun k hk hp=>wgt_out _ (inB_false.1 ?_) _⟩
  have:=sumTo_none n h0 k hk
  simp only [hp,Bool.true_and] at this
  cases h:inB (pathOf M (j:Int)) (k:Int)
  ·rfl
  ·rw [h] at this;cases this
 ·right
  rw [hin] at hs
  have h1:sumTo (fun p=>one (partB M m p && inB (pathOf M j) p)) n=1:=hs
  obtain ⟨k0,hk0,h2,h3⟩:=sumTo_only n h1
  have h4:partB M (m:Int) k0=true∧inB (pathOf M (j:Int)) (k0:Int)=true:=by
   cases ha:partB M (m:Int) k0
   ·simp [ha,one] at h2
   ·cases hb:inB (pathOf M (j:Int)) (k0:Int)
    ·simp [hb,one] at h2
    ·exact ⟨rfl,rfl⟩
  refine ⟨k0,hk0,h4.1,?_,fun k hk hp hne=>wgt_out _ (inB_false.1 ?_) _⟩
  ·rw [Int.mul_comm]
   exact part_weight ht hk0 (by simpa [partB] using h4.1) (j+1) j 1 hj (by omega) (inB_true.1 h4.2)
  ·have:=h3 k hk hne
   simp only [hp,Bool.true_and] at this
   cases h:inB (pathOf M (j:Int)) (k:Int)
   ·rfl
   ·rw [h] at this;cases this
end Go.Proofs.YtaodedckffjpgafGreatDoor
namespace Go.Proofs.YtaodedckffjpgafGreatDoor
set_option maxRecDepth 20000
def someP (M:Nat→Mem) (f:Int→Int×Int) (k:Int):Bool := !((M k.toNat).sign == 0) && ((f k).1 == 1)
theorem parts_sum {M:Nat→Mem} {f:Int→Int×Int} (P:List Int) (a b:Int) (hs:∀ k∈P,-1≤(M k.toNat).sign∧(M k.toNat).sign≤1) (hf:∀ k∈P,((f k).1=1∨((f k).1=0∧(f k).2=0))∧-3000000000≤(f k).2∧(f k).2≤3000000000) (hab:a=1∨(a=0∧b=0)) (h1 : -(1000000000000-3000000000*(P.length:Int))≤b) (h2:b≤1000000000000-3000000000*(P.length:Int)) :
  P.foldl (partStep M f) (a,b)=(if (decide (a=1) || P.any (someP M f))=true then 1 else 0,b+sumP (fun k=>(M k.toNat).sign*(f k).2) P):=by
 induction P generalizing a b with
 | nil =>
  simp only [List.foldl_nil,List.any_nil,Bool.or_false,sumP,Int.add_zero]
  rcases hab with rfl | ⟨rfl,rfl⟩ <;> simp
 | cons k r ih =>
  have hsk:=hs k (List.mem_cons_self ..)
  obtain ⟨hfk,hb1,hb2⟩:=hf k (List.mem_cons_self ..)
  have hs':=fun j hj=>hs j (List.mem_cons_of_mem k hj)
  have hf':=fun j hj=>hf j (List.mem_cons_of_mem k hj)
  simp only [List.length_cons] at h1 h2
  have hlen:(0:Int)≤(r.length:Int):=by omega
  rw [List.foldl_cons,List.any_cons,sumP]
  have e3:(M k.toNat).sign=1∨(M k.toNat).sign = -1∨(M k.toNat).sign=0:=by omega
  rcases e3 with e3 | e3 | e3
  ·have hst:partStep M f (a,b) k=(if (decide (a=1) || decide ((f k).1=1))=true then 1 else 0,b+(f k).2):=by
    unfold partStep
    rw [if_pos e3]
    show plusP a b (f k).1 (f k).2=_
    rcases hab with rfl | ⟨rfl,rfl⟩
    ·rcases hfk with hk | ⟨hk,hk2⟩
     ·rw [hk];unfold plusP joinP;rw [ofP_in (by omega) (by omega)];rfl
     ·rw [hk,hk2];unfold plusP joinP;rw [ofP_in (by omega) (by omega)];rfl
    ·rcases hfk with hk | ⟨hk,hk2⟩
     ·rw [hk];unfold plusP joinP;rw [ofP_in (by omega) (by omega)];rfl
     ·rw [hk,hk2];rfl
   rw [hst,ih _ _ hs' hf' ?_ (by omega) (by omega)]
   ·have hsp:someP M f k=decide ((f k).1=1):=by
     unfold someP
     rw [e3]
     simp
     rfl
    rw [hsp]
    refine Prod.ext ?_ (by simp only [e3];omega)
    simp only
    by_cases ha:a=1
    ·simp [ha]
    ·by_cases hk:(f k).1=1
     ·simp [hk]
     ·simp [ha,hk]
   ·rcases hab with rfl | ⟨rfl,rfl⟩
    ·left;simp
    ·rcases hfk with hk | ⟨hk,hk2⟩
     ·left;simp [hk]
     ·right;simp [hk,hk2]
  ·have hst:partStep M f (a,b) k=(if (decide (a=1) || decide ((f k).1=1))=true then 1 else 0,b-(f k).2):=by
    unfold partStep
    rw [if_neg (by omega),if_pos e3]
    show minusP a b (f k).1 (f k).2=_
    rcases hab with rfl | ⟨rfl,rfl⟩
    ·rcases hfk with hk | ⟨hk,hk2⟩
     ·rw [hk];unfold minusP joinP;rw [ofP_in (by omega) (by omega)];rfl
     ·rw [hk,hk2];unfold minusP joinP;rw [ofP_in (by omega) (by omega)];rfl
    ·rcases hfk with hk | ⟨hk,hk2⟩
     ·rw [hk];unfold minusP joinP;rw [ofP_in (by omega) (by omega)];rfl
     ·rw [hk,hk2];rfl
   rw [hst,ih _ _ hs' hf' ?_ (by omega) (by omega)]
   ·have hsp:someP M f k=decide ((f k).1=1):=by
     unfold someP
     rw [e3]
     simp
     rfl
    rw [hsp]
    refine Prod.ext ?_ (by simp only [e3];omega)
    simp only
    by_cases ha:a=1
    ·simp [ha]
    ·by_cases hk:(f k).1=1
     ·simp [hk]
     ·simp [ha,hk]
   ·rcases hab with rfl | ⟨rfl,rfl⟩
    ·left;simp
    ·rcases hfk with hk | ⟨hk,hk2⟩
     ·left;simp [hk]
     ·right;simp [hk,hk2]
  ·have hst:partStep M f (a,b) k=(a,b):=by
    unfold partStep
    rw [if_neg (by omega),if_neg (by omega)]
   rw [hst,ih _ _ hs' hf' hab (by omega) (by omega)]
   have hsp:someP M f k=false:=by
    unfold someP
    rw [e3]
    rfl
   rw [hsp,e3,Int.zero_mul,Int.zero_add,Bool.false_or]
section
variable {D:Nat→Dm} {n dim:Nat} {l:List En} (hE:Ens D n l) (hd:dim<n) {S:Nat→Bool} (hS:S dim=false)
def addS (S:Nat→Bool) (dim:Nat) (k:Nat):Bool:=S k || decide (k=dim)
include hE hd
theorem leaf_dim {e:En} (he:e∈l):∃ j:Nat,e.pl.getD dim 0=j∧j<(D dim).n∧leafB (D dim).mem (D dim).n j=true:=by
 obtain ⟨h1,h2,-⟩:=hE.each e he
 have h3:=h1.lo dim hd
 have h4:=h1.hi dim hd
 have h5:=leaf_each h2 dim hd
 refine ⟨(e.pl.getD dim 0).toNat,by omega,by omega,h5⟩
include hS
theorem gw_bare {e:En} (he:e∈l) {p:List Int} {m:Nat} (hm:m<(D dim).n) (hp:p.getD dim 0=m) (hP:partsOf (D dim).mem (D dim).n (m:Int)=[]):gwTo D (addS S dim) p e.pl n=gwTo D S p e.pl n:=by
 have ht:Tr (D dim).mem (D dim).n:=Tr.of ((allErr_right hE.right).2 dim hd)
 obtain ⟨j,hj,hjn,-⟩:=leaf_dim hE hd he
 refine gw_congr n fun k hk=>?_
 by_cases e1:k=dim
 ·subst e1
  unfold facS addS
  rw [hS,hp,hj]
  simp only [decide_true,Bool.or_true,if_true,Bool.false_eq_true,if_false]
  by_cases e2:m=j
  ·subst e2
   rw [if_pos rfl,weightOf,pathOf_cons ht hm,wgt_hit]
  ·rw [if_neg (by omega),weightOf,wgt_out]
   intro h
   obtain ⟨q,h1,h2⟩:=part_has ht (j+1) j hjn (by omega) (fun h=>e2 h.symm) h
   have:=sel_in h1 h2
   rw [show selTo (partB (D k).mem (m:Int)) (D k).n=[] from hP] at this
   cases this
 ·unfold facS addS
  simp [e1]
omit hS
theorem gw_parts {e:En} (he:e∈l) {p:List Int} {m:Nat} (hp:p.getD dim 0=m) (hP:partsOf (D dim).mem (D dim).n (m:Int)≠[]) (pk:Int→List Int) (hpk:∀ k,k∈partsOf (D dim).mem (D dim).n (m:Int)→(pk k).getD dim 0=k∧∀ i,i<n→i≠dim→(pk k).getD i 0=p.getD i 0) :
  gwTo D (addS S dim) p e.pl n=sumP (fun k=>((D dim).mem k.toNat).sign*gwTo D (addS S dim) (pk k) e.pl n) (partsOf (D dim).mem (D dim).n (m:Int)) ∧
  (gwTo D (addS S dim) p e.pl n≠0↔∃ k,k∈partsOf (D dim).mem (D dim).n (m:Int)∧((D dim).mem k.toNat).sign≠0∧gwTo D (addS S dim) (pk k) e.pl n≠0):=by
 have ht:Tr (D dim).mem (D dim).n:=Tr.of ((allErr_right hE.right).2 dim hd)
 obtain ⟨j,hj,hjn,hjl⟩:=leaf_dim hE hd he
 have hne:j≠m:=fun e=>hP (by rw [←e];exact leaf_parts hjl)
 have hfac:∀ q:List Int,facS D (addS S dim) q e.pl dim=weightOf (D dim).mem (q.getD dim 0) (j:Int):=fun q=>by unfold facS addS;rw [hj];simp
 have hw:∀ q:List Int,gwTo D (addS S dim) q e.pl n=grTo D (addS S dim) dim q e.pl n*weightOf (D dim).mem (q.getD dim 0) (j:Int):=fun q=>by rw [gw_split D (addS S dim) dim q e.pl n,if_pos hd,hfac]
 obtain ⟨c,hc⟩:∃ c,grTo D (addS S dim) dim p e.pl n=c:=⟨_,rfl⟩
 have hwk:∀ k,k∈partsOf (D dim).mem (D dim).n (m:Int)→gwTo D (addS S dim) (pk k) e.pl n=c*weightOf (D dim).mem k (j:Int):=fun k hk=>by
  obtain ⟨h1,h2⟩:=hpk k hk
  rw [hw,h1,←hc,gr_congr n h2]
 rw [hw,hp,hc]
 rcases part_cases ht hjn hne with ⟨h0,hz⟩ | ⟨k0,hk0,hp0,h0,hz⟩
 ·have hall:∀ k,k∈partsOf (D dim).mem (D dim).n (m:Int)→gwTo D (addS S dim) (pk k) e.pl n=0:=fun k hk=>by
   obtain ⟨q,rfl,hq,hpq⟩:=selTo_mem k hk
   rw [hwk _ hk,hz q hq hpq,Int.mul_zero]
  rw [h0,Int.mul_zero]
  refine ⟨(sumP_zero fun k hk=>by rw [hall k hk,Int.mul_zero]).symm,fun h=>absurd rfl h,fun ⟨k,hk,_,h⟩=>absurd (hall k hk) h⟩
 ·have hk0m:(k0:Int)∈partsOf (D dim).mem (D dim).n (m:Int):=sel_in hk0 hp0
  have hkz:∀ q,q<(D dim).n→partB (D dim).mem (m:Int) q=true→q≠k0→gwTo D (addS S dim) (pk (q:Int)) e.pl n=0:=fun q hq hpq hqn=>by rw [hwk _ (sel_in hq hpq),hz q hq hpq hqn,Int.mul_zero]
  have e1:c*weightOf (D dim).mem (m:Int) (j:Int)=((D dim).mem k0).sign*gwTo D (addS S dim) (pk (k0:Int)) e.pl n:=by rw [h0,hwk _ hk0m,←Int.mul_assoc,Int.mul_comm c,Int.mul_assoc]
  rw [e1]
  refine ⟨?_,fun h=>⟨k0,hk0m,fun h1=>h (by rw [show ((k0:Int)).toNat=k0 by omega] at h1;rw [h1,Int.zero_mul]),fun h1=>h (by rw [h1,Int.mul_zero])⟩,fun ⟨k,hk,hs,hg⟩=>?_⟩
  ·have:=sel_single (f:=fun k=>((D dim).mem k.toNat).sign*gwTo D (addS S dim) (pk k) e.pl n) (D dim).n hk0 hp0 fun q hq hpq hqn=>by rw [hkz q hq hpq hqn,Int.mul_zero]
   exact this.symm
  ·obtain ⟨q,rfl,hq,hpq⟩:=selTo_mem k hk
   by_cases e2:q=k0
   ·subst e2
    rw [show ((q:Int)).toNat=q by omega] at hs
    exact Int.mul_ne_zero hs hg
   ·exact absurd (hkz q hq hpq e2) hg
end
theorem gN_parts {D:Nat→Dm} {n:Nat} {S:Nat→Bool} {p:List Int} {P:List Int} {sg:Int→Int} {pk:Int→List Int}:∀ l:List En,(∀ e∈l,gwTo D S p e.pl n=sumP (fun k=>sg k*gwTo D S (pk k) e.pl n) P)→gN D n S p l=sumP (fun k=>sg k*gN D n S (pk k) l) P
 | [],_=>by
  rw [gN]
  exact (sumP_zero fun k _=>by rw [gN,Int.mul_zero]).symm
 | e :: r,h=>by
  rw [gN,gN_parts r fun x hx=>h x (List.mem_cons_of_mem _ hx),h e (List.mem_cons_self ..),←sumP_mul,←sumP_add]
  exact sumP_congr fun k _=>by rw [gN,Int.mul_add,Int.mul_assoc]
section
variable {D:Nat→Dm} {n dim:Nat} {l:List En} (hE:Ens D n l) (hd:dim<n) {S:Nat→Bool}
include hE hd
theorem gL_fix {m:Nat}:FixAt D n dim m (gL D n (addS S dim) l):=fun y hy hm hP=>by
 rw [gL_len] at hy
 have hR:=hE.right
 obtain ⟨-,-,hp3,hdn⟩:=allErr_some hR
 have hdk:=(allErr_right hR).2 dim hd
 have hpos:∀ i,i<n→1≤(D i).n:=fun i hi=>(hdn i hi).1
 have ht:=Tr.of hdk
 have hsg:=Sg.of hdk
 rw [gL_at hy]
 obtain ⟨pk,hpkd⟩:∃ pk:Int→List Int,pk=fun k=>placeL D n (((y:Int)+(k-(m:Int))*(stepD D n dim:Int)).toNat):=⟨_,rfl⟩
 have hat:∀ k,k∈partsOf (D dim).mem (D dim).n (m:Int)→atP D n dim m y (gL D n (addS S dim) l) k=gV D n (addS S dim) l (pk k)∧((pk k).getD dim 0=k∧∀ i,i<n→i≠dim→(pk k).getD i 0=(placeL D n y).getD i 0):=fun k hk=>by
  obtain ⟨j,rfl,h1,h2,-⟩:=part_behind ht hk
  obtain ⟨z,hz,hzl,hzd,hzo⟩:=part_place hpos hd hy hm h2
  have e:pk (j:Int)=placeL D n z:=by rw [hpkd];simp only;rw [hz];rfl
  rw [e]
  refine ⟨?_,?_,fun i hi hne=>?_⟩
  ·unfold atP cAt
   rw [hz]
   exact gL_at hzl
  ·rw [placeL_at hd,digit_step hd,hzd]
  ·rw [placeL_at hi,placeL_at hi,hzo i hi hne]
 have hpd:(placeL D n y).getD dim 0=(m:Int):=by rw [placeL_at hd,digit_step hd,hm]
 have hgp:=fun e he=>gw_parts (S:=S) hE hd (e:=e) he hpd hP pk fun k hk=>(hat k hk).2
 unfold partsV
 rw [parts_same (g:=fun k=>gV D n (addS S dim) l (pk k)) _ _ fun k hk=>(hat k hk).1]
 have hfew:=hE.few
 have hPl:(partsOf (D dim).mem (D dim).n (m:Int)).length≤12:=Nat.le_trans (selTo_len _ _) (hdn dim hd).2
 rw [parts_sum _ 0 0 (fun k hk=>by obtain ⟨j,rfl,-,h2,-⟩:=part_behind ht hk;exact hsg j h2) (fun k _=>by
  have hb:=gN_bound (D:=D) (n:=n) (addS S dim) (pk k) l hE.each
  refine ⟨?_,by unfold gV;simp only;omega,by unfold gV;simp only;omega⟩
  unfold gV
  simp only
  cases ha:l.any (gB D n (addS S dim) (pk k))
  ·right;exact ⟨by simp,gN_none ha⟩
  ·left;simp) (Or.inr ⟨rfl,rfl⟩) (by omega) (by omega)]
 unfold gV
 refine Prod.ext ?_ ?_
 ·simp only
  have:l.any (gB D n (addS S dim) (placeL D n y))=(decide ((0:Int)=1) || (partsOf (D dim).mem (D dim).n (m:Int)).any (someP (D dim).mem fun k=>(if l.any (gB D n (addS S dim) (pk k))=true then 1 else 0,gN D n (addS S dim) (pk k) l))):=by
   rw [show decide ((0:Int)=1)=false from rfl,Bool.false_or,Bool.eq_iff_iff,List.any_eq_true,List.any_eq_true]
   constructor
   ·rintro ⟨e,he,hb⟩
    have hb':gwTo D (addS S dim) (placeL D n y) e.pl n≠0:=by unfold gB at hb;simpa using hb
    obtain ⟨k,hk,hs,hg⟩:=(hgp e he).2.1 hb'
    refine ⟨k,hk,?_⟩
    unfold someP
    have:l.any (gB D n (addS S dim) (pk k))=true:=List.any_eq_true.2 ⟨e,he,by unfold gB;simpa using hg⟩
    simp [this,hs]
   ·rintro ⟨k,hk,hb⟩
    unfold someP at hb
    simp only [Bool.and_eq_true] at hb
    have hs:((D dim).mem k.toNat).sign≠0:=by simpa using hb.1
    have hany:l.any (gB D n (addS S dim) (pk k))=true:=by
     cases ha:l.any (gB D n (addS S dim) (pk k))
     ·rw [ha] at hb;simp at hb
     ·rfl
    obtain ⟨e,he,hg⟩:=List.any_eq_true.1 hany
    refine ⟨e,he,?_⟩
    have:=(hgp e he).2.2 ⟨k,hk,hs,by unfold gB at hg;simpa using hg⟩
    unfold gB
    simpa using this
  rw [this]
 ·simp only [Int.zero_add]
  exact gN_parts l fun e he=>(hgp e he).1
end
end Go.Proofs.YtaodedckffjpgafGreatDoor
namespace Go.Proofs.YtaodedckffjpgafGreatDoor
open Go.ChangeShapes Go.WideShapes Go.ChangeAt Go.RowKit
set_option maxRecDepth 20000
def omA:Mem:=⟨⟨#[98]⟩,-1,0,⟨#[99,43,49]⟩⟩
def omB:Mem:=⟨⟨#[99]⟩,-1,0,⟨#[]⟩⟩
def oneM (i:Nat):Mem:=if i=0 then omA else omB
def oneDm:Dm:=⟨⟨#[97]⟩,0,2,oneM⟩
theorem one_nd:ndL oneDm=[[1],[]]:=by decide +kernel
theorem one_acyc (i:Nat):cycB (ndL oneDm) i=false:=by
 rw [one_nd]
 refine up_acyc (fun a x hx=>?_) i
 unfold rowN at hx
 rcases h:a.toNat with _ | _ | k
 ·rw [h] at hx
  simp at hx
  omega
 ·rw [h] at hx
  simp at hx
 ·rw [h] at hx
  simp at hx
def SlB (w:World) (g n k:Nat) (L:Nat→List Int):Prop := ∃ cur:Array Value,w.heap[g]?=some (.cells cur 27 (0,0))∧cur.size=n∧∀ j,j<n→∃ A l c,cur[j]?=some (.slice A l c)∧(j<k→l=(L j).length∧IntsAt w A c (L j))
section
variable {w w':World} {g n k:Nat} {L:Nat→List Int}
theorem SlB.lt (h:SlB w g n k L):g<w.heap.size:=by
 obtain ⟨cur,h1,_⟩:=h
 exact (Array.getElem?_eq_some_iff.1 h1).1
theorem SlB.at (h:SlB w g n k L) {j:Nat} (hj:j<n):∃ A l c,w.cell? ⟨g,j,none⟩=some (.slice A l c)∧(j<k→l=(L j).length∧IntsAt w A c (L j)):=by
 obtain ⟨cur,h1,h2,h3⟩:=h
 obtain ⟨A,l,c,h4,h5⟩:=h3 j hj
 exact ⟨A,l,c,by simp [World.cell?,h1,h4],h5⟩
theorem SlB.get (h:SlB w g n n L) {j:Nat} (hj:j<n):∃ A c,w.cell? ⟨g,j,none⟩=some (.slice A (L j).length c)∧IntsAt w A c (L j):=by
 obtain ⟨A,l,c,h1,h2⟩:=h.at hj
 obtain ⟨rfl,h3⟩:=h2 hj
 exact ⟨A,c,h1,h3⟩
theorem SlB.frozen (h:SlB w g n k L) (j:Nat):w.frozen? ⟨g,j,none⟩=false:=by
 obtain ⟨cur,h1,_⟩:=h
 exact Lib.frozen_of_heap h1 j
theorem SlB.later (h:SlB w g n k L) (hB:Below w.heap.size w w'):SlB w' g n k L:=by
 have hlt:=h.lt
 obtain ⟨cur,h1,h2,h3⟩:=h
 refine ⟨cur,(hB.block g hlt).trans h1,h2,fun j hj=>?_⟩
 obtain ⟨A,l,c,h4,h5⟩:=h3 j hj
 exact ⟨A,l,c,h4,fun hk=>⟨(h5 hk).1,(h5 hk).2.later hB⟩⟩
theorem IntsAt.off {A:Option Addr} {c:Nat} {X:List Int} {cur:Array Value} {T:Nat} (h:IntsAt w A c X) (hg:w.heap[g]?=some (.cells cur T (0,0))) (hs:∀ x y,cur[0]?=some (.int x y)→False) (hb:∀ i,i<w.heap.size→i≠g→w'.heap[i]?=w.heap[i]?) (hz:w.heap.size≤w'.heap.size):IntsAt w' A c X:=by
 obtain ⟨h1,h2 | ⟨b,h2,h3,h4⟩⟩:=h
 ·exact ⟨h1,Or.inl h2⟩
 ·by_cases h0:X.length=0
  ·exact ⟨h1,Or.inl (List.eq_nil_of_length_eq_zero h0)⟩
  ·have hne:b≠g:=fun e=>by
    have:=h4 0 (by omega)
    rw [e] at this
    simp only [World.cell?,hg] at this
    exact hs _ _ this
   exact ⟨h1,Or.inr ⟨b,h2,Nat.lt_of_lt_of_le h3 hz,fun j hj=>(World.cell?_of_block (a:=⟨b,j,none⟩) (hb b h3 hne)).trans (h4 j hj)⟩⟩
theorem SlB.set (h:SlB w g n k L) (hk:k<n) {A:Option Addr} {c:Nat} (hI:IntsAt w A c (L k)):SlB (w.setCell ⟨g,k,none⟩ (.slice A (L k).length c)) g n (k+1) L:=by
 obtain ⟨cur,h1,h2,h3⟩:=h
 have hs:∀ x y,cur[0]?=some (.int x y)→False:=fun x y e=>by
  obtain ⟨A,l,c,h4,-⟩:=h3 0 (by omega)
  rw [h4] at e
  cases e
 have hb:∀ i,i<w.heap.size→i≠g→(w.setCell ⟨g,k,none⟩ (.slice A (L k).length c)).heap[i]?=w.heap[i]?:=fun i _ hi=>Below.heap_setCell w ⟨g,k,none⟩ _ i hi
 have hz:w.heap.size≤(w.setCell ⟨g,k,none⟩ (.slice A (L k).length c)).heap.size:=by simp [World.setCell]
 refine ⟨cur.setIfInBounds k (.slice A (L k).length c),by simp [World.setCell,Array.getElem?_modify,h1],by simpa using h2,fun j hj=>?_⟩
 by_cases e:j=k
 ·subst e
  exact ⟨A,_,c,by simp [h2,hj],fun _=>⟨rfl,hI.off h1 hs hb hz⟩⟩
 ·obtain ⟨A',l,c',h4,h5⟩:=h3 j hj
  refine ⟨A',l,c',?_,fun hjk=>⟨(h5 (by omega)).1,(h5 (by omega)).2.off h1 hs hb hz⟩⟩
  rw [Array.getElem?_setIfInBounds_ne (fun h=>e h.symm)]
  exact h4
theorem SlB.made (w:World) (n:Nat) (L:Nat→List Int):SlB (w.alloc (.cells (madeCells #[.slice none 0 0] n) 27)) w.heap.size n 0 L:=by
 refine ⟨_,heap_alloc_new w _,by simp [madeCells],fun j hj=>⟨none,0,0,?_,fun h=>by cases h⟩⟩
 simp [madeCells,hj,Nat.mod_one]
end
theorem Tryz.infoSl:(Tryz.prog.info? 27).map (fun i=>(i.zero,i.size,i.bytes))=some (some (.slice none 0 0),1,24):=by kernel_rfl
def Four (W:World) (q b o:Nat) (v0 v1 v2 x:Value):Prop:=(q<W.heap.size∧b<W.heap.size)∧W.cell? ⟨q,0,none⟩=some v0∧W.cell? ⟨q,1,none⟩=some v1∧W.cell? ⟨q,2,none⟩=some v2∧W.cell? ⟨b,o,none⟩=some x
theorem keep4 {W w':World} {q b o:Nat} {v0 v1 v2 x:Value} (h:Four W q b o v0 v1 v2 x) (hB:Below W.heap.size W w'):Below W.heap.size W w'∧w'.cell? ⟨q,0,none⟩=some v0∧w'.cell? ⟨q,1,none⟩=some v1∧w'.cell? ⟨q,2,none⟩=some v2∧w'.cell? ⟨b,o,none⟩=some x:=by
 obtain ⟨⟨h1,h2⟩,c0,c1,c2,c3⟩:=h
 exact ⟨hB,(hB.cell (p:=⟨q,0,none⟩) h1).trans c0,(hB.cell (p:=⟨q,1,none⟩) h1).trans c1,(hB.cell (p:=⟨q,2,none⟩) h1).trans c2,(hB.cell (p:=⟨b,o,none⟩) h2).trans c3⟩
set_option maxHeartbeats 4000000 in
theorem rls_any (A0:Option Addr) (cap n:Nat) (D:Nat→Dm) (A:Nat→Option Addr) (C:Nat→Nat) (Ap:Option Addr) (cp:Nat) (p:List Int) (w:World) (hp:InO D n p) (hM:DimsV w A0 cap n D A C) (hP:PlAt w Ap cp p):Calls Tryz.prog 85 #[.agg #[.slice A0 n cap],.slice Ap p.length cp] w fun e w'=>(∃ g,e=.returned (.tuple #[.slice (some ⟨g,0,none⟩) n n,.nilIface])∧SlB w' g n n (lfs D p))∧Below w.heap.size w w':=by
 have hB0:=ownOut_below w A0 n cap 42
 have h:=pcheck_any A0 cap n D A C Ap cp p (ownOut w A0 n cap 42) (hM.later hB0) (hP.later hB0)
 have HB0:Hid (Below w.heap.size w (ownOut w A0 n cap 42)):=hB0
 have HM:Hid (DimsV w A0 cap n D A C):=hM
 have HI:Hid (InO D n p):=hp
 rw [hp.ok,errV_zero] at h
 obtain ⟨hn1,hn4,-,hd⟩:=allErr_some hp.right
 have HD:Hid (∀ i,i<n→(dimErr (D i)).2=0):=(allErr_right hp.right).2
 have hl:=hp.len
 obtain ⟨hcp,h0 | ⟨bp,op,rfl,hbp,hcell⟩⟩:=hP
 ·rw [h0] at hl;simp at hl;omega
 rw [hl] at h hcp
 rw [hl]
 have HC:Hid (∀ j,j<n→w.cell? ⟨bp,op+j,none⟩=some (.int .i64 (p.getD j 0))):=fun j hj=>hcell j (by omega)
 have hn':(n:Int)≤4:=by omega
 have hmk:=run_make_row' (P:=Tryz.prog) 70 27 (.slice none 0 0) 24 Tryz.underlying70 Tryz.infoSl rfl .i64 .i64 n (by omega) (by omega)
 clear hB0 hM hp hl hcell hd
 go_enter Tryz.func85,Tryz.ntmps85
 go_wp2_with fail
 refine h.mono ?_
 rintro e w1 ⟨rfl,hb1⟩
 have hB:Below w.heap.size w w1:=onB HB0.out hb1
 have hz:w.heap.size<w1.heap.size:=by have:=hb1.size;rw [ownOut_size] at this;omega
 have h2:w1.cell? ⟨w.heap.size,0,none⟩=some (.slice A0 n cap):=(hb1.cell (p:=⟨w.heap.size,0,none⟩) (by show w.heap.size<_;rw [ownOut_size];omega)).trans (ownOut_at ..)
 obtain ⟨hcap,h0 | ⟨b,o,rfl,hMs⟩⟩:=HM.out.later hB
 ·omega
 have HMs:Hid (DimsAt w1 b o n D A C):=hMs
 have HB:Hid (Below w.heap.size w w1):=hB
 have HC1:Hid (∀ j,j<n→w1.cell? ⟨bp,op+j,none⟩=some (.int .i64 (p.getD j 0))):=fun j hj=>(hB.cell (p:=⟨bp,op+j,none⟩) hbp).trans (HC.out j hj)
 have hbp1:bp<w1.heap.size:=Nat.lt_of_lt_of_le hbp hB.size
 clear hb1 h hMs hB
 go_wp2_with fail
 clear hmk
 go_loopg [25] n (fun g s25 wr => ∃ (k:Nat),k≤n∧g=n-k∧s25=.int .i64 k∧SlB wr w1.heap.size n k (lfs D p)∧Below w1.heap.size w1 wr)
 case atStart=>exact ⟨0,Nat.zero_le _,rfl,rfl,SlB.made w1 n _,by go_grown⟩
 case round =>
  obtain ⟨k,hk,rfl,rfl,hS,hBw⟩:=hrel
  have HBw:Hid (Below w1.heap.size w1 wr):=hBw
  have HS:Hid (SlB wr w1.heap.size n k (lfs D p)):=hS
  by_cases hlt:k<n
  ·have hki:(k:Int)<(n:Int):=by omega
   obtain ⟨d0,d1,d2,h4⟩:=(HMs.out.later hBw).2 k hlt
   have hdk:=HD.out k hlt
   have e1:=(hBw.cell (p:=⟨bp,op+k,none⟩) hbp1).trans (HC1.out k hlt)
   have hbq:bp<wr.heap.size:=Nat.lt_of_lt_of_le hbp1 hBw.size
   have hte:treeErr (D k) [p.getD k 0]=0:=by
    have:=HI.out.lo k hlt
    have:=HI.out.hi k hlt
    rw [treeErr_one hdk,if_neg (by omega)]
   have HLf:Hid (∀ w',Below wr.heap.size wr w'→Calls Tryz.prog 129 #[dimV (D k) (A k) (C k),.int .i64 (p.getD k 0)] w' fun e w''=>(∃ A' c',e=.returned (.tuple #[.slice A' (lfs D p k).length c',.nilIface])∧IntsAt w'' A' c' (lfs D p k))∧Below w'.heap.size w' w''):=fun w' hw'=>by
    have:=leafs_any (D k) (A k) (C k) (p.getD k 0) w' (h4.later hw')
    rw [hte,errV_zero] at this
    exact this
   unfold dimV at HLf
   have hBx:Below wr.heap.size wr (ownDim wr (D k) (A k) (C k) 24):=ownDim_below ..
   have hFo:Four (ownDim wr (D k) (A k) (C k) 24) wr.heap.size bp (op+k) (.string (D k).name) (.int .i64 (D k).solve) (.slice (A k) (D k).n (C k)) (.int .i64 (p.getD k 0)):=by
    obtain ⟨x0,x1,x2⟩:=ownDim_at wr (D k) (A k) (C k) 24
    exact ⟨⟨by rw [ownDim_size];omega,Nat.lt_of_lt_of_le hbq hBx.size⟩,x0,x1,x2,(hBx.cell (p:=⟨bp,op+k,none⟩) hbq).trans e1⟩
   obtain ⟨Wx,hWx⟩:∃ W,ownDim wr (D k) (A k) (C k) 24=W:=⟨_,rfl⟩
   rw [hWx] at hFo hBx
   unfold ownDim at hWx
   have HFo:Hid (Four Wx wr.heap.size bp (op+k) (.string (D k).name) (.int .i64 (D k).solve) (.slice (A k) (D k).n (C k)) (.int .i64 (p.getD k 0))):=hFo
   have HBx:Hid (Below wr.heap.size wr Wx):=hBx
   generalize p.getD k 0=x at HLf HFo e1
   generalize (D k).name=dn at HLf HFo d0 hWx
   generalize (D k).solve=ds at HLf HFo d1 hWx
   generalize A k=Ak at HLf HFo d2 hWx
   generalize C k=Ck at HLf HFo d2 hWx
   generalize (D k).n=dk at HLf HFo d2 hWx
   obtain ⟨X,hX⟩:∃ X,lfs D p k=X:=⟨_,rfl⟩
   have HX:Hid (lfs D p k=X):=hX
   rw [hX] at HLf
   clear hFo hBx hS hBw h4 hdk hte hX
   go_wp2_with fail
   clear hWx
   go_cut [10,11] (fun s10 s11 wx => ∃ A' c',s10=.slice A' X.length c'∧s11=.nilIface∧IntsAt wx A' c' X∧Below Wx.heap.size Wx wx)
   case first=>as_aux_lemma =>
    go_region_held3 (fun w'=>Below Wx.heap.size Wx w'∧w'.cell? ⟨wr.heap.size,0,none⟩=some (.string dn)∧w'.cell? ⟨wr.heap.size,1,none⟩=some (.int .i64 ds)∧w'.cell? ⟨wr.heap.size,2,none⟩=some (.slice Ak dk Ck)∧w'.cell? ⟨bp,op+k,none⟩=some (.int .i64 x))
     ((refine keep4 HFo.out ?_;go_grown;done))
     (first | (go_at_call 129;refine (HLf.out _ (onB HBx.out (by go_grown))).mono ?_;rintro e w3 ⟨⟨A',c',rfl,hI⟩,hb3⟩;have hN3:=onB (W0:=Wx) (by go_grown) hb3;have hy3:=hN3.size;clear hb3))
    all_goals go_wp2_with fail
    all_goals go_meet
    all_goals exact ⟨_,_,rfl,rfl,by first | assumption | (refine IntsAt.later (by assumption) ?_;go_grown),by go_grown⟩
   case rest=>as_aux_lemma =>
   obtain ⟨A',c',rfl,rfl,hI,hb⟩:=hcut
   obtain ⟨w2,rfl⟩:∃ w2:World,w2=wc:=⟨_,rfl⟩
   have hB2:Below wr.heap.size wr w2:=onB HBx.out hb
   have hS2:=HS.out.later hB2
   obtain ⟨A1,l1,c1,hc1,-⟩:=hS2.at hlt
   have hfr:=hS2.frozen k
   have HB2:Hid (Below w1.heap.size w1 w2):=onB HBw.out hB2
   have HS2:Hid (SlB w2 w1.heap.size n k (lfs D p)):=hS2
   have HI2:Hid (IntsAt w2 A' c' X):=hI
   clear hb hB2 hS2 hI HLf HFo d0 d1 d2 e1
   go_wp2_with fail
   go_roundg (n-(k+1))
   case measure=>omega
   case rel =>
    refine ⟨k+1,by omega,rfl,by go_num,?_,HB2.out.setCell (by show w1.heap.size≤w1.heap.size;omega) _⟩
    have:=HS2.out.set hlt (A:=A') (c:=c') (by rw [HX.out];exact HI2.out)
    rw [HX.out] at this
    exact this
  ·have hke:k=n:=by omega
   subst hke
   clear hBw hS
   go_wp2_with fail
   go_ret2
   exact ⟨⟨_,rfl,HS.out⟩,onB HB.out HBw.out⟩
end Go.Proofs.YtaodedckffjpgafGreatDoor
namespace Go.Proofs.YtaodedckffjpgafGreatDoor
open Go Go.ChangeShapes Go.WideShapes Go.ChangeAt Go.RowKit Go.Deep
set_option maxRecDepth 100000
section
variable {H:Type} {enc:TypeId×Value→H} {w:World} {held:Bool}
def LowW (t:Nat) (d:DataW H):Prop := ∀ k∈d.weights Tryz.prog t,k≤reachBytes
theorem weights_all {P:Program} {e:TypeId} {n:Nat}:∀ {l:List (DataW H)} {d:DataW H},d∈l→n∈d.weights P e→n∈DataW.weightsAll P e l
 | x :: r,d,h,hn=>by
  rw [DataW.weightsAll,List.mem_append]
  rcases List.mem_cons.1 h with rfl | h
  ·exact Or.inl hn
  ·exact Or.inr (weights_all h hn)
theorem bytesM:Tryz.prog.bytesOf 26=48:=by kernel_rfl
theorem members_z {fuel:Nat} {A:Option Addr} {n cap:Nat} {x:DataW H×List MemPlace} (h:DataW.trod enc Tryz.prog w 0 (fun _=>true) held fuel 22 [.slice A n cap]=some x) (hz:LowW 22 x.1):n*48≤reachBytes:=by
 rcases open_slice Tryz.underlying22 h with ⟨h1,-⟩ | ⟨a,len,cap,m,k,D,Pl,h1,-,hl,-,hm,rfl,-⟩
 ·simp at h1
  rw [h1.2.1]
  exact Nat.zero_le _
 ·simp at h1
  have h2:=hz ((((List.range len).map D).length+((List.range (m-len)).map fun j=>D (len+j)).length)*Tryz.prog.bytesOf 26) (by simp [DataW.weights,Tryz.underlying22])
  rw [bytesM] at h2
  simp at h2
  rw [h1.2.1]
  omega
theorem dim_z {fuel:Nat} {d:Dm} {A:Option Addr} {c:Nat} {x:DataW H×List MemPlace} (h:DataW.trod enc Tryz.prog w 0 (fun _=>true) held fuel 24 [.string d.name,.int .i64 d.solve,.slice A d.n c]=some x) (hz:LowW 24 x.1):d.n*48≤reachBytes:=by
 obtain ⟨y0,y1,y2,n,rfl,-,-,-,h2⟩:=trod_struct3 Tryz.underlying24 h
 refine members_z (A:=A) (cap:=c) (x:=y2) (fuel:=n) h2 fun k hk=>hz k ?_
 simp only [DataW.weights,Tryz.underlying24]
 exact DataW.weights_mem_each (j:=2) rfl rfl k hk
theorem dims_z {fuel:Nat} {A0:Option Addr} {n cap:Nat} {D:Nat→Dm} {A:Nat→Option Addr} {C:Nat→Nat} {x:DataW H×List MemPlace} (h:DataW.trod enc Tryz.prog w 0 (fun _=>true) held fuel 40 [.slice A0 n cap]=some x) (hD:DimsV w A0 cap n D A C) (hz:LowW 40 x.1):∀ i,i<n→(D i).n*48≤reachBytes:=by
 intro i hi
 rcases open_slice Tryz.underlying40 h with ⟨h1,-⟩ | ⟨a,len,cap',m,k,E,Pl,h1,-,hl,-,hm,rfl,hx⟩
 ·simp at h1
  omega
 ·simp at h1
  obtain ⟨rfl,rfl,rfl⟩:=h1
  obtain ⟨cs',c1,c2⟩:=hx i (by simp at hm;omega)
  rw [cellsD] at c1
  obtain ⟨-,h0 | ⟨b,o,hb,hMs⟩⟩:=hD
  ·omega
  simp at hb
  subst hb
  obtain ⟨d0,d1,d2,-⟩:=hMs.2 i hi
  have hc:=(World.cells?_some c1)
  have e:cs'=[.string (D i).name,.int .i64 (D i).solve,.slice (A i) (D i).n (C i)]:=by
   have hl3:=hc.2.1
   have g:∀ j,j<3→w.cell? ⟨b,o+i*3+j,none⟩=cs'[j]?:=fun j hj=>by
    have:=hc.2.2 j hj
    rw [plain_add,plain_add] at this
    exact this
   match cs',hl3,g with
   | [v0,v1,v2],_,g =>
    have e0:=(g 0 (by omega)).symm.trans d0
    have e1:=(g 1 (by omega)).symm.trans d1
    have e2:=(g 2 (by omega)).symm.trans d2
    simp at e0 e1 e2
    rw [e0,e1,e2]
  rw [e] at c2
  refine dim_z c2 fun q hq=>hz q ?_
  simp only [DataW.weights,Tryz.underlying40]
  refine List.mem_cons_of_mem _ (List.mem_append.2 (Or.inl (weights_all (d:=E i) (List.mem_map.2 ⟨i,List.mem_range.2 hi,rfl⟩) hq)))
theorem outline_z {d:DataW H} {p:List MemPlace} {A0:Option Addr} {n cap:Nat} {D:Nat→Dm} {A:Nat→Option Addr} {C:Nat→Nat} (h:DataW.Trod enc Tryz.prog w 0 (fun _=>true) held 42 (.agg #[.slice A0 n cap]) d p) (hD:DimsV w A0 cap n D A C) (hz:LowW 42 d):∀ i,i<n→(D i).n*48≤reachBytes:=by
 obtain ⟨fuel,hf⟩:=h
 obtain ⟨xs,k,_,hx,hl,hlen,hfs⟩:=DataW.trod_struct Tryz.underlying42 hf
 match xs,hlen with
 | [y],_ =>
  have h0:=hfs 0 _ rfl
  have h1:DataW.trod enc Tryz.prog w 0 (fun _=>true) held k 40 [.slice A0 n cap]=some y:=h0
  have hd:d=.agg [y.1]:=by
   have:=congrArg Prod.fst hx
   exact this
  refine dims_z h1 hD fun q hq=>hz q ?_
  rw [hd]
  simp only [DataW.weights,Tryz.underlying42]
  exact DataW.weights_mem_each (j:=0) rfl rfl q hq
end
end Go.Proofs.YtaodedckffjpgafGreatDoor
