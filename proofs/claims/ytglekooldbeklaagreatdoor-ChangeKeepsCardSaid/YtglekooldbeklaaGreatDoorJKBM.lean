/-
  An outline that is right by all rules is right in each dim (plain); the number of a place and the place of that number.
-/
import Derived.Test.YtglekooldbeklaaGreatDoorJKBG
import Derived.Test.YtglekooldbeklaaGreatDoorJKBL
namespace Go.Proofs.YtglekooldbeklaaGreatDoor
open Go.ChangeShapes Go.WideShapes Go.ChangeAt Go.RowKit
set_option maxRecDepth 20000
theorem ru_right {D:Nat→Dm} {n:Nat} (h:(ruErr D n).2.2=0):(allErr D n).2.2=0∧AllR D n:=by
 by_cases h1:(allErr D n).2.2=0
 ·refine ⟨h1,Classical.byContradiction fun hn=>?_⟩
  have hex:∃ i,i<n∧(rErr (D i)).2≠0:=Classical.byContradiction fun he=>hn fun i hi=>Classical.byContradiction fun hb=>he ⟨i,hi,hb⟩
  have hleast:∀ m,(∃ i,i<m∧i<n∧(rErr (D i)).2≠0)→∃ i,i<n∧(rErr (D i)).2≠0∧∀ j,j<i→(rErr (D j)).2=0:=by
   intro m
   induction m with
   | zero=>rintro ⟨i,h,-⟩;omega
   | succ m ih =>
    rintro ⟨i,h3,h4,h5⟩
    by_cases hm:∃ i,i<m∧i<n∧(rErr (D i)).2≠0
    ·exact ih hm
    ·exact ⟨i,h4,h5,fun j hj=>Classical.byContradiction fun hb=>hm ⟨j,by omega,by omega,hb⟩⟩
  obtain ⟨i0,hi0,hb0⟩:=hex
  obtain ⟨i,hi,hb,hf⟩:=hleast n ⟨i0,hi0,hi0,hb0⟩
  rw [ru1 h1 hi hb hf] at h
  exact hb h
 ·rw [ru0 h1] at h
  exact absurd h h1
theorem ru_zero {D:Nat→Dm} {n:Nat} (h1:(allErr D n).2.2=0) (h2:AllR D n):(ruErr D n).2.2=0:=by rw [ru2 h1 h2]
theorem num_lt {D:Nat→Dm} {n:Nat} {p:List Int} (h:InO D n p):∃ x:Nat,numI D p n=(x:Int)∧x<prodN D n∧placeL D n x=p:=by
 obtain ⟨h1,h2,-⟩:=numI_bound h (Nat.le_refl n)
 have h3:=place_num h
 exact ⟨(numI D p n).toNat,by omega,by omega,h3⟩
theorem bare_rule {d:Dm} (hd:(dimErr d).2=0) (hf:∀ k,k<d.n→(d.mem k).formula.size=0):(rErr d).2=0:=by
 have ht:=Tr.of hd
 rw [re3 hd (fun j hj=>by unfold mErr;rw [if_pos (hf j hj)]) fun j _=>by
  refine up_acyc (fun a x hx=>?_) j
  unfold rowN at hx
  by_cases ha:a.toNat<d.n
  ·rw [ndL_at ha] at hx
   unfold mNd at hx
   obtain ⟨m,rfl,hm,hb⟩:=selTo_mem x hx
   unfold needB at hb
   rw [if_pos (hf _ ha),Bool.and_eq_true] at hb
   have h1:(d.mem m).parent=((a.toNat:Nat):Int):=by have:=hb.1;unfold partB at this;simpa using this
   have h2:=(ht m hm).2
   omega
  ·rw [List.getD_eq_getElem?_getD,List.getElem?_eq_none (by rw [ndL_len];omega)] at hx
   cases hx]
theorem bare_right {D:Nat→Dm} {n:Nat} (hE:(allErr D n).2.2=0) (hf:∀ i,i<n→∀ k,k<(D i).n→((D i).mem k).formula.size=0):(ruErr D n).2.2=0:=ru_zero hE fun i hi=>bare_rule ((allErr_right hE).2 i hi) (hf i hi)
end Go.Proofs.YtglekooldbeklaaGreatDoor
namespace Go.Proofs.YtglekooldbeklaaGreatDoor
open Go.ChangeShapes Go.WideShapes Go.ChangeAt Go.RowKit
section
variable {D:Nat→Dm} {n:Nat}
noncomputable def stpB (D:Nat→Dm) (n i j:Nat):Bool := @decide (StpN D n i j) (Classical.propDecidable _)
theorem stpB_iff {i j:Nat}:stpB D n i j=true↔StpN D n i j:=by unfold stpB;exact @decide_eq_true_iff _ (Classical.propDecidable _)
noncomputable def telL (D:Nat→Dm) (n i:Nat):List Int:=selTo (stpB D n i) (prodN D n)
theorem told_eq (hR:AllR D n) (hE:(allErr D n).2.2=0) {i:Nat} {T:List Int} (hT:ToldP D n (placeL D n i) T):T=telL D n i :=
 rise_eq _ _ hT.1 (sel_rise _ _) fun x=>⟨fun hx=>by
  obtain ⟨j,rfl,hj,-⟩:=told_less hR hE hT hx
  exact sel_has hj (stpB_iff.2 ((stp_iff hT).2 hx)),fun hx=>by
  obtain ⟨m,rfl,-,hp⟩:=selTo_mem _ hx
  exact (stp_iff hT).1 (stpB_iff.1 hp)⟩
noncomputable def rowsL (D:Nat→Dm) (n:Nat):List (List Int):=(List.range (prodN D n)).map (telL D n)
theorem rows_len:(rowsL D n).length=prodN D n:=by simp [rowsL]
theorem rows_at {i:Nat} (hi:i<prodN D n):(rowsL D n).getD i []=telL D n i:=by
 unfold rowsL
 rw [List.getD_eq_getElem?_getD,List.getElem?_map,List.getElem?_range hi]
 rfl
noncomputable def caL (D:Nat→Dm) (n:Nat) (l:List En):List (Int×Int):=if cuErr D n l=0 then (List.range (prodN D n)).map (fun j=>solV D n (getE l) (placeL D n j)) else []
theorem caL_bad {l:List En} (h:cuErr D n l≠0):caL D n l=[]:=by unfold caL;rw [if_neg h]
theorem caL_len {l:List En} (h:cuErr D n l=0):(caL D n l).length=prodN D n:=by unfold caL;rw [if_pos h];simp
theorem caL_at {l:List En} (h:cuErr D n l=0) {j:Nat} (hj:j<prodN D n):(caL D n l).getD j noC=solV D n (getE l) (placeL D n j):=by
 unfold caL
 rw [if_pos h,List.getD_eq_getElem?_getD,List.getElem?_map,List.getElem?_range hj]
 rfl
theorem ca_eq {l:List En} (h:cuErr D n l=0) {L:List (Int×Int)} (hl:L.length=prodN D n) (hv:∀ j,j<prodN D n→L.getD j noC=solV D n (getE l) (placeL D n j)):L=caL D n l:=by
 refine List.ext_getElem (by rw [hl,caL_len h]) fun i h1 h2=>?_
 have h3:i<prodN D n:=by omega
 have e:=(hv i h3).trans (caL_at h h3).symm
 rw [List.getD_eq_getElem?_getD,List.getElem?_eq_getElem h1,List.getD_eq_getElem?_getD,List.getElem?_eq_getElem h2] at e
 exact e
end
end Go.Proofs.YtglekooldbeklaaGreatDoor
namespace Go.Proofs.YtglekooldbeklaaGreatDoor
open Go.ChangeShapes Go.WideShapes Go.ChangeAt Go.RowKit
set_option maxRecDepth 20000
noncomputable def neW (d:Dm) (m:Nat):List Int:=if (d.mem m).formula.size=0 then mNd d m else (refsP (prsL (d.mem m).formula)).map (whL d)
theorem way_ne {d:Dm} {m:Nat} {x:WL} (h:WayOf d m x):x.ne=neW d m:=by
 unfold neW
 by_cases hf:(d.mem m).formula.size=0
 ·rw [if_pos hf];exact (h.1 hf).2.2.2.1
 ·rw [if_neg hf];exact (h.2 hf).2.2.2.1
theorem neW_sort {d:Dm} (hR:(rErr d).2=0) {m:Nat} (hm:m<d.n):((neW d m).mergeSort fun x y=>decide (x≤y))=mNd d m:=by
 obtain ⟨hd,hme,-,-⟩:=rErr_right hR
 unfold neW
 by_cases hf:(d.mem m).formula.size=0
 ·rw [if_pos hf]
  exact rise_eq _ _ (by
   have hnd:List.Pairwise (fun a b=>a≠b) ((mNd d m).mergeSort fun x y=>decide (x≤y)):=(List.mergeSort_perm _ _).symm.pairwise ((mNd_rise d m).imp fun h=>by omega) fun {a b} h e=>h e.symm
   exact ((srt_ints _).and hnd).imp fun h=>by omega) (mNd_rise d m) fun z=>(List.mergeSort_perm _ _).mem_iff
 ·rw [if_neg hf]
  exact sort_need hd hf (hme m hm) (mErr_prsE hf (hme m hm))
theorem neW_perm {d:Dm} (hR:(rErr d).2=0) {m:Nat} (hm:m<d.n):(neW d m).Perm (mNd d m):=by
 rw [←neW_sort hR hm]
 exact (List.mergeSort_perm _ _).symm
theorem neW_mem {d:Dm} (hR:(rErr d).2=0) {m:Nat} (hm:m<d.n) (z:Int):z∈neW d m↔z∈mNd d m:=(neW_perm hR hm).mem_iff
section
variable {D:Nat→Dm} {n:Nat}
theorem set_num (hE:(allErr D n).2.2=0) {x b j:Nat} (hb:b<n) (hx:x<prodN D n) (hj:j<(D b).n):∃ y:Nat,(x:Int)+((j:Int)-(x / stepD D n b % (D b).n:Nat))*(stepD D n b:Int)=y∧y<prodN D n∧placeL D n y=(placeL D n x).set b j:=by
 obtain ⟨-,-,-,hd⟩:=allErr_some hE
 obtain ⟨y,h1,h2,h3,h4⟩:=part_place (D:=D) (n:=n) (dim:=b) (x:=x) (j:=j) (fun i hi=>(hd i hi).1) hb hx rfl hj
 refine ⟨y,h1,h2,?_⟩
 apply List.ext_getElem?
 intro i
 by_cases hi:i<n
 ·rw [List.getElem?_set]
  simp only [placeL_len,hb,if_true]
  by_cases e:b=i
  ·subst e
   rw [if_pos rfl]
   have:digitAt D n y b=j:=by rw [digit_step hb];exact h3
   simp [placeL,hi,this]
  ·rw [if_neg e]
   have:=h4 i hi (fun h=>e h.symm)
   simp [placeL,hi,this]
 ·rw [List.getElem?_eq_none (by rw [placeL_len];omega),List.getElem?_eq_none (by rw [List.length_set,placeL_len];omega)]
def putN (D:Nat→Dm) (n x b:Nat) (k:Int):Int:=numI D ((placeL D n x).set b k) n
theorem putN_at (hE:(allErr D n).2.2=0) {x b:Nat} (hb:b<n) (hx:x<prodN D n) {k:Int} (h0:0≤k) (h1:k<((D b).n:Int)):∃ y:Nat,putN D n x b k=(y:Int)∧y<prodN D n∧placeL D n y=(placeL D n x).set b k∧(x:Int)+(k-(x / stepD D n b % (D b).n:Nat))*(stepD D n b:Int)=y:=by
 obtain ⟨y,e1,e2,e3⟩:=set_num hE hb hx (j:=k.toNat) (by omega)
 rw [Int.toNat_of_nonneg h0] at e1 e3
 exact ⟨y,by unfold putN;rw [←e3];exact num_place hE e2,e2,e3,e1⟩
theorem putN_less (hE:(allErr D n).2.2=0) {x b:Nat} (hb:b<n) (hx:x<prodN D n) {i k:Int} (h0:0≤i) (h1:i<((D b).n:Int)) (h2:0≤k) (h3:k<((D b).n:Int)) (h:i<k):putN D n x b i<putN D n x b k:=by
 obtain ⟨-,-,-,hd⟩:=allErr_some hE
 obtain ⟨y,e1,-,-,e2⟩:=putN_at hE hb hx h0 h1
 obtain ⟨z,f1,-,-,f2⟩:=putN_at hE hb hx h2 h3
 have hS:=stepD_pos (D:=D) (n:=n) (fun i hi=>(hd i hi).1) hb
 rw [e1,f1,←e2,←f2]
 have hm:(i-((x / stepD D n b % (D b).n:Nat):Int))*(stepD D n b:Int)<(k-((x / stepD D n b % (D b).n:Nat):Int))*(stepD D n b:Int):=Int.mul_lt_mul_of_pos_right (by omega) (by omega)
 omega
noncomputable def ndsX (D:Nat→Dm) (n x:Nat):List Int:=if byTo D (placeL D n x) n<0 then [] else (neW (D (byTo D (placeL D n x) n).toNat) ((placeL D n x).getD (byTo D (placeL D n x) n).toNat 0).toNat).map (putN D n x (byTo D (placeL D n x) n).toNat)
theorem nds_leaf {x:Nat} (h:byTo D (placeL D n x) n<0):ndsX D n x=[]:=by unfold ndsX;rw [if_pos h]
theorem nds_by {x b:Nat} (h:byTo D (placeL D n x) n=(b:Int)):ndsX D n x=(neW (D b) ((placeL D n x).getD b 0).toNat).map (putN D n x b):=by unfold ndsX;rw [h,if_neg (by omega),Int.toNat_natCast]
theorem nds_told (hR:AllR D n) (hE:(allErr D n).2.2=0) {x:Nat} (hx:x<prodN D n):ToldP D n (placeL D n x) ((ndsX D n x).mergeSort fun a b=>decide (a≤b)):=by
 have hP:=placeL_in (D:=D) (n:=n) (x:=x) hE
 rcases by_in D (placeL D n x) n with h | ⟨b,h,hb⟩
 ·rw [nds_leaf (by omega),List.mergeSort_nil]
  refine ⟨List.Pairwise.nil,Nat.zero_le _,fun z=>⟨fun hz=>absurd hz (by simp),?_⟩⟩
  rintro ⟨b,hb,-⟩
  omega
 ·obtain ⟨hd,hme,-,-⟩:=rErr_right (hR b hb)
  obtain ⟨-,-,hd2,-⟩:=dimErr_right hd
  have hp0:=hP.lo b hb
  have hp1:=hP.hi b hb
  have hm:((placeL D n x).getD b 0).toNat<(D b).n:=by omega
  rw [nds_by h]
  obtain ⟨m,hme2⟩:∃ m,((placeL D n x).getD b 0).toNat=m:=⟨_,rfl⟩
  rw [hme2] at hm ⊢
  have hpm:=(neW_perm (hR b hb) hm).map (putN D n x b)
  have hpp:=(List.mergeSort_perm ((neW (D b) m).map (putN D n x b)) fun a b=>decide (a≤b)).trans hpm
  have hnd:List.Pairwise (fun a b=>a≠b) ((mNd (D b) m).map (putN D n x b)):=by
   rw [List.pairwise_map]
   refine List.Pairwise.imp_of_mem (R:=fun a b=>a<b) (fun {i k} hi hk hik e=>?_) (mNd_rise (D b) m)
   have a1:=mNd_in hi
   have a2:=mNd_in hk
   have:=putN_less hE hb hx a1.1 a1.2 a2.1 a2.2 hik
   omega
  have hn2:=hpp.symm.pairwise hnd fun {a b} h e=>h e.symm
  refine ⟨((srt_ints _).and hn2).imp fun h=>by omega,?_,fun z=>?_⟩
  ·rw [hpp.length_eq,List.length_map]
   exact Nat.le_trans (selTo_len _ _) hd2
  ·rw [hpp.mem_iff,List.mem_map]
   constructor
   ·rintro ⟨k,hk,rfl⟩
    exact ⟨b,h,k,by rw [hme2];exact hk,rfl⟩
   ·rintro ⟨b',h',k,hk,rfl⟩
    have:b'=b:=by omega
    subst this
    rw [hme2] at hk
    exact ⟨k,hk,rfl⟩
theorem nds_len (hR:AllR D n) (hE:(allErr D n).2.2=0) {x:Nat} (hx:x<prodN D n):(ndsX D n x).length≤12:=by
 have:=(nds_told hR hE hx).2.1
 rw [List.length_mergeSort] at this
 exact this
theorem nds_in (hR:AllR D n) (hE:(allErr D n).2.2=0) {x:Nat} (hx:x<prodN D n):∀ z∈ndsX D n x,∃ y:Nat,z=(y:Int)∧y<prodN D n:=by
 intro z hz
 have hP:=placeL_in (D:=D) (n:=n) (x:=x) hE
 rcases by_in D (placeL D n x) n with h | ⟨b,h,hb⟩
 ·rw [nds_leaf (by omega)] at hz;cases hz
 ·have hp0:=hP.lo b hb
  have hp1:=hP.hi b hb
  have hm:((placeL D n x).getD b 0).toNat<(D b).n:=by omega
  rw [nds_by h,List.mem_map] at hz
  obtain ⟨k,hk,rfl⟩:=hz
  have hk2:=mNd_in ((neW_mem (hR b hb) hm k).1 hk)
  obtain ⟨y,e1,e2,-⟩:=putN_at hE hb hx hk2.1 hk2.2
  exact ⟨y,e1,e2⟩
noncomputable def tlV (D:Nat→Dm) (n:Nat) (L:List (Int×Int)) (x:Nat):Int×Int:=if byTo D (placeL D n x) n<0 then L.getD x noC else oneV (D (byTo D (placeL D n x) n).toNat) (fun k=>L.getD (putN D n x (byTo D (placeL D n x) n).toNat k).toNat noC) ((placeL D n x).getD (byTo D (placeL D n x) n).toNat 0).toNat
theorem tl_leaf {L:List (Int×Int)} {x:Nat} (h:byTo D (placeL D n x) n<0):tlV D n L x=L.getD x noC:=by unfold tlV;rw [if_pos h]
theorem tl_by {L:List (Int×Int)} {x b:Nat} (h:byTo D (placeL D n x) n=(b:Int)):tlV D n L x=oneV (D b) (fun k=>L.getD (putN D n x b k).toNat noC) ((placeL D n x).getD b 0).toNat:=by unfold tlV;rw [h,if_neg (by omega),Int.toNat_natCast]
theorem tl_sol (hR:AllR D n) (hE:(allErr D n).2.2=0) {inp:List Int→Int×Int} {L:List (Int×Int)} {x:Nat} (hx:x<prodN D n) (h0:byTo D (placeL D n x) n<0→L.getD x noC=inp (placeL D n x)) (h1:∀ z∈ndsX D n x,L.getD z.toNat noC=solV D n inp (placeL D n z.toNat)):tlV D n L x=solV D n inp (placeL D n x):=by
 have hP:=placeL_in (D:=D) (n:=n) (x:=x) hE
 rcases by_in D (placeL D n x) n with h | ⟨b,h,hb⟩
 ·rw [tl_leaf (by omega),sol_leaf inp (by omega)]
  exact h0 (by omega)
 ·obtain ⟨hd,hme,-,-⟩:=rErr_right (hR b hb)
  have hp0:=hP.lo b hb
  have hp1:=hP.hi b hb
  have hm:((placeL D n x).getD b 0).toNat<(D b).n:=by omega
  rw [tl_by h,sol_by hR inp hP h]
  refine oneV_same hd (hme _ hm) fun k hk=>?_
  have hk2:=mNd_in hk
  obtain ⟨y,e1,e2,e3,-⟩:=putN_at hE hb hx hk2.1 hk2.2
  have h2:=h1 (putN D n x b k) (by rw [nds_by h,List.mem_map];exact ⟨k,(neW_mem (hR b hb) hm k).2 hk,rfl⟩)
  rw [h2,e1,Int.toNat_natCast,e3]
end
end Go.Proofs.YtglekooldbeklaaGreatDoor
namespace Go.Proofs.YtglekooldbeklaaGreatDoor
open Go.ChangeShapes Go.WideShapes Go.ChangeAt Go.RowKit
open Go.Sort (putRow Holds grow holds_putRow)
set_option maxRecDepth 20000
theorem map_snocI (f:Int→Int) (P:List Int) {k:Nat} (h:k<P.length):(P.take (k+1)).map f=(P.take k).map f ++ [f (P.getD k 0)]:=by
 rw [List.take_succ_eq_append_getElem h,List.map_append,List.getD_eq_getElem?_getD,List.getElem?_eq_getElem h]
 rfl
theorem map_snoc (f:Int→Int×Int) (P:List Int) {k:Nat} (h:k<P.length):(P.take (k+1)).map f=(P.take k).map f ++ [f (P.getD k 0)]:=by
 rw [List.take_succ_eq_append_getElem h,List.map_append,List.getD_eq_getElem?_getD,List.getElem?_eq_getElem h]
 rfl
theorem getD_memI {P:List Int} {k:Nat} (h:k<P.length):P.getD k 0∈P:=by
 rw [List.getD_eq_getElem?_getD,List.getElem?_eq_getElem h]
 exact List.getElem_mem h
set_option maxHeartbeats 8000000 in
theorem needs_any (q g n:Nat) (D:Nat→Dm) (X:Nat→AL) (x:Nat) (w:World) (hR:AllR D n) (hE:(allErr D n).2.2=0) (hx:x<prodN D n) (hA:PlanV w q g n D X) :
  Calls Tryz.prog 47 #[.pointer (some ⟨q,0,none⟩),.int .i64 x] w fun e w'=>(∃ v,e=.returned v∧w'.ownsRow w.heap.size 3 1 v (ndsX D n x).length (mapI (ndsX D n x)))∧Below w.heap.size w w':=by
 obtain ⟨i0,hi0,hz0,hz1,hz2⟩:=info_parts Tryz.infoInt
 obtain ⟨hn1,hn4,hp3,hd⟩:=allErr_some hE
 have hby:=by_any2 q g n D X x w hE hx hA
 have HA:Hid (PlanV w q g n D X):=hA
 obtain ⟨hq,q0,q1⟩:=hA.cells
 have hnI:(n:Int)≤4:=by omega
 have hxI:(x:Int)≤3000:=by omega
 have hP:=placeL_in (D:=D) (n:=n) (x:=x) hE
 rcases by_in D (placeL D n x) n with h | ⟨b,h,hb⟩
 ·have HNl:Hid (ndsX D n x=[]):=nds_leaf (by omega)
  rw [h] at hby
  clear hA hE hR hP h q0 q1
  go_enter Tryz.func47,Tryz.ntmps47
  go_wp2_with fail
  refine hby.mono ?_
  rintro e w1 ⟨rfl,hb1⟩
  have HB1:Hid (Below w.heap.size w w1):=hb1
  clear hb1 hby
  go_wp2_with fail
  go_ret
  rw [HNl.out]
  exact ⟨⟨_,rfl,World.ownsRow_nil _ _ _ _⟩,HB1.out⟩
 ·obtain ⟨hd1,hd12⟩:=hd b hb
  have hp0:=hP.lo b hb
  have hp1:=hP.hi b hb
  obtain ⟨m,hm⟩:∃ m,x / stepD D n b % (D b).n=m:=⟨_,rfl⟩
  have hpm:((placeL D n x).getD b 0).toNat=m:=by rw [digit_at hb,hm]
  have hmn:m<(D b).n:=by rw [←hm];exact Nat.mod_lt _ hd1
  have HNd:Hid (ndsX D n x=(neW (D b) m).map (putN D n x b)):=by show _=_;rw [nds_by h,hpm]
  have hlen:(neW (D b) m).length≤12:=by
   have:=nds_len hR hE hx
   rw [HNd.out,List.length_map] at this
   exact this
  have HNum:Hid (∀ k∈neW (D b) m,∃ j y:Nat,k=(j:Int)∧j<(D b).n∧putN D n x b k=(y:Int)∧y<prodN D n∧(x:Int)+((j:Int)-(m:Int))*(stepD D n b:Int)=y):=fun k hk=>by
   have hk2:=mNd_in ((neW_mem (hR b hb) hmn k).1 hk)
   obtain ⟨y,e1,e2,-,e4⟩:=putN_at hE hb hx hk2.1 hk2.2
   rw [hm] at e4
   exact ⟨k.toNat,y,by omega,by omega,e1,e2,by rw [Int.toNat_of_nonneg hk2.1];exact e4⟩
  have hSp:=stepD_pos (D:=D) (n:=n) (fun i hi=>(hd i hi).1) hb
  obtain ⟨S,hSd⟩:∃ S,stepD D n b=S:=⟨_,rfl⟩
  have HMb:Hid (∀ w',Calls Tryz.prog 80 #[.agg #[.int .i64 (D b).solve,.int .i64 S,.slice (X b).A (D b).n (X b).c],.int .i64 x] w' fun e w''=>e=.returned (.int .i64 m)∧Below w'.heap.size w' w''):=fun w'=>member_any2 (D b) S (X b) x m w' (by rw [←hSd];exact hSp) hd1 hd12 (by omega) (by rw [←hSd];exact hm)
  have HWy:Hid (∀ w',Below w.heap.size w w'→Calls Tryz.prog 48 #[.agg #[.int .i64 (D b).solve,.int .i64 S,.slice (X b).A (D b).n (X b).c],.int .i64 x] w' fun e w''=>e=.returned (wayV ((X b).xs.getD m noW))∧Below w'.heap.size w' w''):=fun w' hB=>way_any (D b) S (X b) x m w' (by rw [←hSd];exact hSp) hd1 hd12 (by omega) (by rw [←hSd];exact hm) ((hA.later hB).2.one hb).2.2
  have HNe:Hid (∀ w',Below w.heap.size w w'→IntT w' ((X b).xs.getD m noW).Ai ((X b).xs.getD m noW).ci (neW (D b) m)):=fun w' hB=>by
   obtain ⟨-,-,hOne⟩:=(hA.later hB).2.one hb
   obtain ⟨-,-,-,-,-,hWt⟩:=hOne.way hmn
   have:=hWt.2.2.1
   rw [way_ne (hOne.2.2 m hmn)] at this
   exact this
  have hfl:∀ w',(Instr.field 112 (wayV ((X b).xs.getD m noW)) 3).run Tryz.prog w'=.ok (.slice ((X b).xs.getD m noW).Ai (neW (D b) m).length ((X b).xs.getD m noW).ci) w':=fun w'=>by
   obtain ⟨-,-,hOne⟩:=hA.2.one hb
   rw [field_way3,way_ne (hOne.2.2 m hmn)]
  have HCp:Hid (∀ w',Below w.heap.size w w'→q<w'.heap.size∧g<w'.heap.size∧w'.cell? ⟨q,0,none⟩=some (.slice (some ⟨g,0,none⟩) n n)∧w'.cell? ⟨g,b*3,none⟩=some (.int .i64 (D b).solve)∧w'.cell? ⟨g,b*3+1,none⟩=some (.int .i64 S)∧w'.cell? ⟨g,b*3+2,none⟩=some (.slice (X b).A (D b).n (X b).c)):=fun w' hB=>by
   obtain ⟨a1,a2,-⟩:=(hA.later hB).cells
   obtain ⟨hg,⟨c0,c1,c2⟩,-⟩:=(hA.later hB).2.one hb
   rw [hSd] at c1
   exact ⟨a1,hg,a2,c0,c1,c2⟩
  obtain ⟨P,hPn⟩:∃ P,neW (D b) m=P:=⟨_,rfl⟩
  obtain ⟨f,hf⟩:∃ f,putN D n x b=f:=⟨_,rfl⟩
  obtain ⟨z,hz⟩:∃ z,(X b).xs.getD m noW=z:=⟨_,rfl⟩
  rw [hPn] at HNd hlen HNum HNe hfl
  rw [hf] at HNd HNum
  rw [hz] at HWy HNe hfl
  rw [hSd] at HNum
  obtain ⟨N,hN⟩:∃ N,P.length=N:=⟨_,rfl⟩
  have HN:Hid (P.length=N):=hN
  rw [hN] at hlen hfl
  have hNI:(N:Int)≤12:=by omega
  have hbI:(b:Int)<(n:Int):=by omega
  have hb0:((b:Int) == -1)=false:=by simp
  have hmI:(m:Int)<12:=by omega
  have HX3:Hid (prodN D n≤3000):=hp3
  have HDn:Hid ((D b).n≤12):=hd12
  rw [h] at hby
  obtain ⟨ai,hai⟩:∃ ai,z.Ai=ai:=⟨_,rfl⟩
  obtain ⟨ci,hci⟩:∃ ci,z.ci=ci:=⟨_,rfl⟩
  rw [hai,hci] at HNe hfl
  generalize wayV z=wv at hfl HWy
  clear hA hE hR hP h hp0 hp1 hm hpm hmn hSd hPn hf hz hN hd q0 q1 hd12 hd1 hai hci
  go_enter Tryz.func47,Tryz.ntmps47
  go_wp2_with fail
  refine hby.mono ?_
  rintro e w1 ⟨rfl,hb1⟩
  have HB1:Hid (Below w.heap.size w w1):=hb1
  obtain ⟨hq1,hg1,a0,a1,a2,a3⟩:=HCp.out w1 hb1
  obtain ⟨v,hv⟩:∃ v,w1.alloc (.cells #[.int .i64 (D b).solve,.int .i64 S,.slice (X b).A (D b).n (X b).c] 96)=v:=⟨_,rfl⟩
  have hvb:v.heap[w1.heap.size]?=some (.cells #[.int .i64 (D b).solve,.int .i64 S,.slice (X b).A (D b).n (X b).c] 96 (0,0)):=by rw [←hv];exact heap_alloc_new ..
  have HVb:Hid (v.heap[w1.heap.size]?=some (.cells #[.int .i64 (D b).solve,.int .i64 S,.slice (X b).A (D b).n (X b).c] 96 (0,0))):=hvb
  have hBv:Below w1.heap.size w1 v:=by rw [←hv];go_grown
  have HBv:Hid (Below w.heap.size w v):=onB hb1 hBv
  have v0:v.cell? ⟨w1.heap.size,0,none⟩=some (.int .i64 (D b).solve):=by simp [World.cell?,hvb]
  have v1:v.cell? ⟨w1.heap.size,1,none⟩=some (.int .i64 S):=by simp [World.cell?,hvb]
  have v2:v.cell? ⟨w1.heap.size,2,none⟩=some (.slice (X b).A (D b).n (X b).c):=by simp [World.cell?,hvb]
  have hvs:w1.heap.size<v.heap.size:=(Array.getElem?_eq_some_iff.1 hvb).1
  have hwy:=HWy.out v HBv.out
  clear hb1 hby hvb hBv
  go_wp2_with fail
  refine hwy.mono ?_
  rintro e w2 ⟨rfl,hb2⟩
  have HB2:Hid (Below v.heap.size v w2):=hb2
  clear hb2 hwy v0 v1 v2 hv a0 a1 a2 a3
  go_wp2_with fail
  clear hfl
  go_loopg [7,27] N (fun gg s7 s27 wr => ∃ (k:Nat) (AO:Option Addr) (cO:Nat),k≤N∧gg=N-k∧s27=.int .i64 k∧s7=.slice AO k cO∧Hid (wr.ownsRow w2.heap.size 3 1 (.slice AO k cO) k (mapI ((P.take k).map f)))∧Hid (Below w2.heap.size w2 wr))
  case atStart=>exact ⟨0,none,0,Nat.zero_le _,rfl,rfl,rfl,World.ownsRow_nil _ _ _ _,Below.refl _ _⟩
  case round =>
   obtain ⟨k,AO,cO,hk,rfl,rfl,rfl,HO,HBw⟩:=hrel
   have HBwW:Hid (Below w.heap.size w wr):=onB HBv.out (onB HB2.out HBw.out)
   by_cases hlt:k<N
   ·have hki:(k:Int)<(N:Int):=by omega
    have hkP:k<P.length:=by rw [HN.out];exact hlt
    obtain ⟨j,y,hj,hjn,hy,hyN,hyE⟩:=HNum.out _ (getD_memI hkP)
    obtain ⟨hcI,-,h0 | ⟨bi,cs,fr,hAi,hbi,hcl⟩⟩:=HNe.out wr HBwW.out
    ·have:=HN.out;rw [h0] at this;simp at this;omega
    have cx:=hcl k hkP
    have hbil:bi<wr.heap.size:=(Array.getElem?_eq_some_iff.1 hbi).1
    rw [HN.out] at hcI
    rw [hj] at cx
    have hcII:(N:Int)≤(ci:Int):=by omega
    have HNx:Hid ((P.take (k+1)).map f=(P.take k).map f ++ [(y:Int)]):=by show _=_;rw [map_snocI f P hkP,hy]
    have hyI:(y:Int)≤3000:=by have:=HX3.out;omega
    obtain ⟨t1,ht1⟩:∃ t:Int,(j:Int)-(m:Int)=t:=⟨_,rfl⟩
    obtain ⟨t2,ht2⟩:∃ t:Int,t1*(S:Int)=t:=⟨_,rfl⟩
    rw [ht1,ht2] at hyE
    have hjI:(j:Int)≤3000:=by have:=HDn.out;omega
    have hw1:IntKind.i64.wrap ((j:Int)-(m:Int))=t1:=by rw [ht1];exact IntWalk.i64_in _ (by omega)
    have hw2:IntKind.i64.wrap (t1*(S:Int))=t2:=by rw [ht2];exact IntWalk.i64_in _ (by omega)
    have hw3:IntKind.i64.wrap ((x:Int)+t2)=(y:Int):=by rw [hyE];exact IntWalk.i64_in _ (by omega)
    have HC:Hid (∀ w',Below wr.heap.size wr w'→w'.cell? ⟨w1.heap.size,0,none⟩=some (.int .i64 (D b).solve)∧w'.cell? ⟨w1.heap.size,1,none⟩=some (.int .i64 S)∧w'.cell? ⟨w1.heap.size,2,none⟩=some (.slice (X b).A (D b).n (X b).c)):=fun w' h=>by
     have hbk:=((onB HB2.out (onB HBw.out h)).block w1.heap.size hvs).trans HVb.out
     exact ⟨by simp [World.cell?,hbk],by simp [World.cell?,hbk],by simp [World.cell?,hbk]⟩
    obtain ⟨p0,p1,p2⟩:=HC.out wr (Below.refl _ _)
    have hs7:=HBw.out.size
    have hs8:=HB2.out.size
    have hax:w1.heap.size<wr.heap.size:=by omega
    have HFin:Hid (∀ (w4 w6:World) (o':Obj) (A6:Option Addr) (c6:Nat),Below wr.heap.size wr w4→w6.ownsRow w2.heap.size 3 1 (.slice A6 (k+1) c6) (k+1) (mapI ((P.take k).map f) ++ [.int .i64 (y:Int)])→(w4.alloc o').grownBy w6 (Value.slice AO k cO).ownBlock→Hid (w6.ownsRow w2.heap.size 3 1 (.slice A6 (k+1) c6) (k+1) (mapI ((P.take (k+1)).map f)))∧Hid (Below w2.heap.size w2 w6)):=fun w4 w6 o' A6 c6 h4 h6 hg=>by
     refine ⟨?_,grown_own (onB HBw.out h4) (own_later HO.out h4) hg⟩
     show World.ownsRow ..
     rw [HNx.out,mapI_snoc]
     exact h6
    clear hcl hbi hj hy hyE ht1 ht2 hyN hjn
    subst hAi
    go_wp2_with fail
    go_region_law ((first
     | (refine step_append_lies _ (by rfl) _ _ _ (by rfl) w2.heap.size 3 i0 _ 1 8 Tryz.underlying41 hi0 hz0 hz1 hz2 rfl (by omega) (.slice AO k cO) k (mapI ((P.take k).map f)) (by rfl) (own_later HO.out (by go_grown)) ⟨w4.heap.size,0,none⟩ 1 1 [.int .i64 y] (by rfl) (by rfl) (World.news_of_block (cs := #[.int .i64 y]) (t:=3) (fr:=(0,0)) (heap_alloc_new w4 _)) (by simp [Value.oneCell']) (by omega) (by unfold maxLen;omega) (by omega) (by simp;omega) (w4.heap.size+1) (by simp) ?_;intro gg cg w6 hown6 hgrow hat hlt6)
     | (go_simp;refine (HMb.out _).mono ?_;rintro e w4 ⟨rfl,hb4⟩;have hN4:=onB (W0:=wr) (by go_grown) hb4;have hs4:=hN4.size;obtain ⟨x0,x1,x2⟩:=HC.out _ hN4;clear hb4)))
    all_goals (obtain ⟨HO6,HB6⟩:=HFin.out _ _ _ _ _ (by go_grown) hown6 hgrow)
    all_goals clear hown6 hgrow hat
    all_goals go_wp2_with fail
    all_goals go_roundg (N-(k+1))
    all_goals first | omega | exact ⟨k+1,_,_,by omega,rfl,by go_num,rfl,HO6,HB6⟩
   ·have hke:k=N:=by omega
    subst hke
    have HF:Hid (wr.ownsRow w.heap.size 3 1 (.slice AO k cO) (ndsX D n x).length (mapI (ndsX D n x))):=by
     have h:=HO.out
     rw [List.take_of_length_le (by rw [HN.out];exact Nat.le_refl _),←HNd.out] at h
     have hl:(ndsX D n x).length=k:=by rw [HNd.out,List.length_map];exact HN.out
     show World.ownsRow ..
     rw [hl]
     exact own_low h (by have:=HB2.out.size;have:=HBv.out.size;omega)
    go_wp2_with fail
    go_ret
    exact ⟨⟨_,rfl,HF.out⟩,HBwW.out⟩
set_option maxHeartbeats 8000000 in
theorem pneeds_any (q g n:Nat) (D:Nat→Dm) (X:Nat→AL) (x:Nat) (w:World) (hR:AllR D n) (hE:(allErr D n).2.2=0) (hx:x<prodN D n) (hA:PlanV w q g n D X) :
  Calls Tryz.prog 77 #[.pointer (some ⟨q,0,none⟩),.int .i64 x] w fun e w'=>(∃ A' c' T,e=.returned (.tuple #[.slice A' T.length c',.nilIface])∧IntT w' A' c' T∧ToldP D n (placeL D n x) T∧(∀ z,z∈T↔z∈ndsX D n x)∧∀ a,A'=some a→w.heap.size≤a.block)∧Below w.heap.size w w':=by
 obtain ⟨hn1,hn4,hp3,hd⟩:=allErr_some hE
 obtain ⟨hq,q0,q1⟩:=hA.cells
 have hnd:=needs_any q g n D X x w hR hE hx hA
 have HT:=hid_of (nds_told hR hE hx)
 have HMm:Hid (∀ z,z∈((ndsX D n x).mergeSort fun a b=>decide (a≤b))↔z∈ndsX D n x):=fun z=>(List.mergeSort_perm _ _).mem_iff
 have hl:=nds_len hR hE hx
 obtain ⟨N,hN⟩:∃ N,prodN D n=N:=⟨_,rfl⟩
 rw [hN] at q1 hx hp3
 have hxI:(x:Int)<(N:Int):=by omega
 have hNI:(N:Int)≤3000:=by omega
 obtain ⟨zs,hzs⟩:∃ zs,ndsX D n x=zs:=⟨_,rfl⟩
 rw [hzs] at hnd HT hl HMm ⊢
 obtain ⟨k,hk⟩:∃ k,zs.length=k:=⟨_,rfl⟩
 have HK:Hid (zs.length=k):=hk
 have HLl:Hid ((zs.mergeSort fun a b=>decide (a≤b)).length=k):=by show _=_;rw [List.length_mergeSort];exact hk
 rw [hk] at hnd hl
 clear hzs hE hR hA hd hN hk
 go_enter Tryz.func77,Tryz.ntmps77
 go_wp2_with fail
 refine hnd.mono ?_
 rintro e w1 ⟨⟨v,rfl,hO⟩,hb1⟩
 have HB1:Hid (Below w.heap.size w w1):=hb1
 clear hb1 hnd q0 q1
 by_cases hz:v=.slice none 0 0
 ·subst hz
  have hk0:k=0:=by
   rcases hO.2 with ⟨_,h⟩ | ⟨g,c,cur,h,_⟩
   ·exact h
   ·cases h
  subst hk0
  have hso:=Any.slices_Sort_int_none Tryz.lays189 none 0 w1
  have HZ0:Hid ((zs.mergeSort fun a b=>decide (a≤b))=[]):=List.eq_nil_of_length_eq_zero HLl.out
  clear hO
  go_wp2_with fail
  refine Calls.mono hso ?_
  rintro e w4 ⟨rfl,rfl⟩
  go_wp2_with fail
  go_returns
  refine ⟨⟨none,0,(zs.mergeSort fun a b=>decide (a≤b)),by rw [HLl.out];rfl,by rw [HZ0.out];exact IntT.nil _ _ _ (by omega),HT.out,HMm.out,fun a ha=>(by cases ha)⟩,HB1.out⟩
 ·obtain ⟨gg,c,hv,hgb,hgl,hnc,hcm,-,hH⟩:=Lib.holds_of_ownsRow (enc:=Value.int .i64) (zs:=zs) hO hz
  subst hv
  obtain ⟨cur,hg⟩:∃ cur:Array Value,w1.heap[gg]?=some (.cells cur 3 (0,0)):=by
   rcases hO.2 with ⟨h,_⟩ | ⟨g',c',cur,h,_,hg,_⟩
   ·cases h
   ·cases h;exact ⟨cur,hg⟩
  have hso:=Any.slices_Sort_int Tryz.lays189 gg 0 c zs w1 hH hgl (by have:=HK.out;omega)
  rw [HK.out] at hso
  have HTs:Hid (∀ q2 os,IntT (grow (putRow (Value.int .i64) (Sort.ahead w1 q2) gg 0 (zs.mergeSort fun x y=>decide (x≤y)).toArray) os) (some ⟨gg,0,none⟩) c (zs.mergeSort fun x y=>decide (x≤y))):=fun q2 os=>sorted_intT hg hH (by rw [List.length_mergeSort]) (by have:=HK.out;omega) (by unfold maxLen at hcm;omega)
  have HBs:Hid (∀ q2 os,Below w.heap.size w (grow (putRow (Value.int .i64) (Sort.ahead w1 q2) gg 0 (zs.mergeSort fun x y=>decide (x≤y)).toArray) os)):=fun q2 os=>sorted_belowI HB1.out (by omega)
  generalize hys:(zs.mergeSort fun x y=>decide (x≤y))=ys at hso HTs HBs HT HMm HLl
  clear hO hH hg hys
  go_wp2_with fail
  refine Calls.mono hso ?_
  rintro e w4 ⟨rfl,q2,os,hw4⟩
  have HT4:Hid (IntT w4 (some ⟨gg,0,none⟩) c ys):=by rw [hw4];exact HTs.out q2 os
  have HB4:Hid (Below w.heap.size w w4):=by rw [hw4];exact HBs.out q2 os
  have HGb:Hid (w.heap.size≤gg):=hgb
  clear hw4 hso
  go_wp2_with fail
  go_returns
  exact ⟨⟨_,c,ys,by rw [HLl.out];rfl,HT4.out,HT.out,HMm.out,fun a ha=>(by cases ha;exact HGb.out)⟩,HB4.out⟩
end Go.Proofs.YtglekooldbeklaaGreatDoor
namespace Go.Proofs.YtglekooldbeklaaGreatDoor
open Go.ChangeShapes Go.WideShapes Go.ChangeAt Go.RowKit
set_option maxRecDepth 20000
theorem samepl_end {a b:List Int} (hl:a.length=b.length) {k:Nat} (hk:a.length≤k) (h:∀ j,j<k→a.getD j 0=b.getD j 0):a=b:=by
 apply List.ext_getElem hl
 intro i h1 h2
 have:=h i (by omega)
 simpa [List.getD,h1,h2] using this
set_option maxHeartbeats 1000000 in
theorem samepl_any (A B:Option Addr) (ca cb:Nat) (a b:List Int) (w:World) (hn:a.length≤4) (hA:PlAt w A ca a) (hB:PlAt w B cb b):Calls Tryz.prog 26 #[.slice A a.length ca,.slice B b.length cb] w fun e w'=>e=.returned (.bool (decide (a=b)))∧Below w.heap.size w w':=by
 by_cases hl:a.length=b.length
 ·obtain ⟨hc,h0 | ⟨g,o,rfl,hbw,hcell⟩⟩:=hA
  ·subst h0
   have h1:b=[]:=List.eq_nil_of_length_eq_zero hl.symm
   subst h1
   simp only [List.length_nil]
   go_enter Tryz.func26,Tryz.ntmps26
   go_wp2_with fail
   refine wp_loop_rounds 1 ?_
   rw [rounds_succ]
   go_wp2_with fail
   go_ret
   exact ⟨rfl,Below.refl _ _⟩
  ·obtain ⟨hc',h0 | ⟨g',o',rfl,hbw',hcell'⟩⟩:=hB
   ·subst h0
    have h1:a=[]:=List.eq_nil_of_length_eq_zero hl
    subst h1
    simp only [List.length_nil]
    go_enter Tryz.func26,Tryz.ntmps26
    go_wp2_with fail
    refine wp_loop_rounds 1 ?_
    rw [rounds_succ]
    go_wp2_with fail
    go_ret
    exact ⟨rfl,Below.refl _ _⟩
   ·have HC:Hid (∀ j,j<a.length→w.cell? ⟨g,o+j,none⟩=some (.int .i64 (a.getD j 0))):=hcell
    have HC':Hid (∀ j,j<a.length→w.cell? ⟨g',o'+j,none⟩=some (.int .i64 (b.getD j 0))):=fun j hj=>hcell' j (by omega)
    have HE:Hid (∀ k,a.length≤k→(∀ j,j<k→a.getD j 0=b.getD j 0)→decide (a=b)=true):=fun k hk h=>decide_eq_true (samepl_end hl hk h)
    have HN:Hid (∀ k,a.getD k 0≠b.getD k 0→decide (a=b)=false):=fun k h=>decide_eq_false fun e=>h (by rw [e])
    rw [←hl]
    rw [←hl] at hc'
    generalize hnn:a.length=n at hn hc hc' HC HC' HE
    generalize decide (a=b)=res at HE HN
    clear hcell hcell' hnn hl
    have hn':(n:Int)≤4:=by omega
    go_enter Tryz.func26,Tryz.ntmps26
    go_wp2_with fail
    go_loopg [5] n (fun gg s5 wr => ∃ (k:Nat),k≤n∧gg=n-k∧s5=.int .i64 k∧(∀ j,j<k→a.getD j 0=b.getD j 0)∧Below w.heap.size w wr)
    case atStart=>exact ⟨0,Nat.zero_le _,rfl,rfl,fun j hj=>absurd hj (Nat.not_lt_zero _),Below.refl _ _⟩
    case round =>
     obtain ⟨k,hk,rfl,rfl,hsame,hBw⟩:=hrel
     have HBw:Hid (Below w.heap.size w wr):=hBw
     have HS:Hid (∀ j,j<k→a.getD j 0=b.getD j 0):=hsame
     clear hsame
     by_cases hlt:k<n
     ·have hki:(k:Int)<(n:Int):=by omega
      have x1:=(hBw.cell (p:=⟨g,o+k,none⟩) hbw).trans (HC.out k hlt)
      have x2:=(hBw.cell (p:=⟨g',o'+k,none⟩) hbw').trans (HC'.out k hlt)
      by_cases hxy:a.getD k 0=b.getD k 0
      ·have HXY:Hid (a.getD k 0=b.getD k 0):=hxy
       rw [←hxy] at x2
       generalize a.getD k 0=x at x1 x2
       clear hBw hxy
       go_wp2_with fail
       go_quiet (fail)
       go_wp2_with fail
       go_roundg (n-(k+1))
       case measure=>omega
       case rel =>
        refine ⟨k+1,by omega,rfl,by go_num,fun j hj=>?_,below_drewN HBw.out _⟩
        rcases Nat.lt_succ_iff_lt_or_eq.1 hj with h1 | rfl
        ·exact HS.out j h1
        ·exact HXY.out
      ·have HR:Hid (res=false):=HN.out k hxy
       generalize a.getD k 0=x at x1 hxy
       generalize b.getD k 0=y at x2 hxy
       clear hBw
       go_wp2_with fail
       go_quiet (fail)
       go_wp2_with fail
       go_ret
       rw [HR.out]
       exact ⟨rfl,below_drewN HBw.out _⟩
     ·have hke:k=n:=by omega
      subst hke
      have HR:Hid (res=true):=HE.out k (Nat.le_refl _) HS.out
      go_wp2_with fail
      go_ret
      rw [HR.out]
      exact ⟨rfl,hBw⟩
 ·have hr:decide (a=b)=false:=decide_eq_false fun e=>hl (by rw [e])
  rw [hr]
  have hl' : ¬ ((a.length:Int)=(b.length:Int)):=by omega
  clear hA hB hr
  generalize a.length=n at hl hl' hn
  generalize b.length=m at hl hl'
  go_enter Tryz.func26,Tryz.ntmps26
  go_wp2_with fail
  go_ret
  exact ⟨rfl,Below.refl _ _⟩
end Go.Proofs.YtglekooldbeklaaGreatDoor
namespace Go.Proofs.YtglekooldbeklaaGreatDoor
open Go Go.ChangeShapes Go.WideShapes Go.ChangeAt Go.RowKit Go.Deep
set_option maxRecDepth 100000
section
variable {H:Type} {enc:TypeId×Value→H} {w:World} {held:Bool}
theorem cellsCh:Tryz.prog.cellsOf 27=6:=by kernel_rfl
theorem arr6 {α:Type} {a:Array α} (h:a.size=6):∃ u v x y z t,a=#[u,v,x,y,z,t]:=by
 rcases a with ⟨l⟩
 match l,h with
 | [u,v,x,y,z,t],_=>exact ⟨u,v,x,y,z,t,rfl⟩
theorem open_chg {r:Reach} {b0:Nat} {v:Value} {d:DataW H} {p:List MemPlace} (hv:Value.okWide Tryz.prog w r b0 27 v) (h:DataW.Trod enc Tryz.prog w 0 (fun _=>true) held 27 v d p) :
  ∃ c:Chg,v=chgV c:=by
 obtain ⟨cs,rfl,hsz⟩:=okWide_struct Tryz.underlying27 hv
 obtain ⟨c0,c1,c2,c3,c4,c5,rfl⟩:=arr6 (hsz.trans cellsCh)
 obtain ⟨fuel,hf⟩:=h
 obtain ⟨-,n,hy⟩:=trod_one Tryz.underlying27 (by kernel_rfl) hf
 obtain ⟨y0,h0⟩:=hy 0 _ c0 rfl rfl
 obtain ⟨y1,h1⟩:=hy 1 _ c1 rfl rfl
 obtain ⟨y2,h2⟩:=hy 2 _ c2 rfl rfl
 obtain ⟨y3,h3⟩:=hy 3 _ c3 rfl rfl
 obtain ⟨y4,h4⟩:=hy 4 _ c4 rfl rfl
 obtain ⟨y5,h5⟩:=hy 5 _ c5 rfl rfl
 obtain ⟨n0,e0,-,-⟩:=DataW.trod_int Tryz.underlying3 h0
 obtain ⟨n1,e1,-,-⟩:=DataW.trod_int Tryz.underlying3 h1
 obtain ⟨n2,e2,-,-⟩:=DataW.trod_int Tryz.underlying3 h2
 obtain ⟨s3,e3,-,-⟩:=DataW.trod_string Tryz.underlying9 h3
 obtain ⟨n4,e4,-,-⟩:=DataW.trod_int Tryz.underlying3 h4
 obtain ⟨n5,e5,-,-⟩:=DataW.trod_int Tryz.underlying3 h5
 simp at e0 e1 e2 e3 e4 e5
 exact ⟨⟨n0,n1,n2,s3,n4,n5⟩,by rw [e0,e1,e2,e3,e4,e5];rfl⟩
end
end Go.Proofs.YtglekooldbeklaaGreatDoor
