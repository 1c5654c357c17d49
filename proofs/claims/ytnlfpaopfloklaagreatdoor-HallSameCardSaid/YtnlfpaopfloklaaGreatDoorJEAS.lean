/-
  What the members of a dim need, what is wrong with a dim with all its formulas, and what both readings of a formula's refs come to: plain data.
-/
import Derived.Test.YtnlfpaopfloklaaGreatDoorJEAR
namespace Go.Proofs.YtnlfpaopfloklaaGreatDoor
def whL (d:Dm) (nm:List UInt8):Int:=findFrom (fun j=>same (d.mem j).name ⟨nm.toArray⟩) d.n 0
theorem same_bytesL (s:ByteArray) (nm:List UInt8):same s ⟨nm.toArray⟩=decide (s.data.toList=nm):=by
 unfold same
 rw [ByteArray.toList_eq,ByteArray.toList_eq]
 by_cases h:s.data.toList=nm
 ·simp [h]
 ·simp [h]
theorem whL_cases (d:Dm) (nm:List UInt8):(whL d nm = -1∧∀ j,j<d.n→(d.mem j).name.data.toList≠nm)∨∃ k:Nat,whL d nm=(k:Int)∧k<d.n∧(d.mem k).name.data.toList=nm:=by
 unfold whL
 rcases findFrom_cases (fun j=>same (d.mem j).name ⟨nm.toArray⟩) d.n 0 with ⟨h1,h2⟩ | ⟨k,h1,_,h3,h4,_⟩
 ·refine Or.inl ⟨h1,fun j hj=>?_⟩
  have:=h2 j (Nat.zero_le _) (by omega)
  rw [same_bytesL] at this
  exact of_decide_eq_false this
 ·refine Or.inr ⟨k,h1,by omega,?_⟩
  rw [same_bytesL] at h4
  exact of_decide_eq_true h4
theorem name_once {d:Dm} (h:(dimErr d).2=0) {j k:Nat} (hj:j<d.n) (hk:k<d.n) (e:(d.mem j).name.data.toList=(d.mem k).name.data.toList):j=k:=by
 obtain ⟨_,_,_,hall⟩:=dimErr_right h
 have hs:∀ {a b:Nat},(d.mem a).name.data.toList=(d.mem b).name.data.toList→same (d.mem a).name (d.mem b).name=true:=fun {a b} e=>by
  unfold same
  rw [ByteArray.toList_eq,ByteArray.toList_eq,e]
  simp
 rcases Nat.lt_trichotomy j k with h1 | h1 | h1
 ·have:=memErr_noclash (hall k hk)
  have:=findFrom_nonneg (q:=fun i=>same (d.mem i).name (d.mem k).name) h1 (hs e)
  omega
 ·exact h1
 ·have:=memErr_noclash (hall j hj)
  have:=findFrom_nonneg (q:=fun i=>same (d.mem i).name (d.mem j).name) h1 (hs e.symm)
  omega
theorem whL_own {d:Dm} (h:(dimErr d).2=0) {k:Nat} (hk:k<d.n):whL d (d.mem k).name.data.toList=(k:Int):=by
 rcases whL_cases d (d.mem k).name.data.toList with ⟨_,h2⟩ | ⟨m,h1,h2,h3⟩
 ·exact absurd rfl (h2 k hk)
 ·rw [h1,name_once h h2 hk h3]
def nmsOf (d:Dm) (i:Nat):List (List UInt8):=nmsTo (prsL (d.mem i).formula) (prsL (d.mem i).formula).length
theorem nms_has {l:List Nd} {x:Nd} (hx:x∈l) (h:x.op=2):x.name.data.toList∈nmsTo l l.length:=by
 unfold nmsTo
 rw [List.take_length]
 exact List.mem_map.2 ⟨x,List.mem_filter.2 ⟨hx,by simp [h]⟩,rfl⟩
def mErr (d:Dm) (i:Nat):Int:=if (d.mem i).formula.size=0 then 0 else if prsE (d.mem i).formula≠0 then prsE (d.mem i).formula else if (nmsOf d i).any (fun nm=>decide (whL d nm<0))=true then 5 else 0
def sgB (d:Dm) (k:Int):Bool:=decide ((d.mem k.toNat).sign≠0)
def needB (d:Dm) (i k:Nat):Bool:=if (d.mem i).formula.size=0 then partB d.mem i k && sgB d k else (nmsOf d i).contains (d.mem k).name.data.toList
def mNd (d:Dm) (i:Nat):List Int:=selTo (needB d i) d.n
theorem mNd_rise (d:Dm) (i:Nat):(mNd d i).Pairwise (· < ·):=sel_rise _ _
theorem mNd_in {d:Dm} {i:Nat} {x:Int} (h:x∈mNd d i):0≤x∧x<(d.n:Int):=by
 obtain ⟨m,rfl,h2,-⟩:=selTo_mem x h
 omega
theorem mNd_len (d:Dm) (i:Nat):(mNd d i).length≤d.n:=selTo_len _ _
def ndL (d:Dm):List (List Int):=(List.range d.n).map (mNd d)
theorem ndL_len (d:Dm):(ndL d).length=d.n:=by simp [ndL]
theorem ndL_at {d:Dm} {i:Nat} (h:i<d.n):(ndL d).getD i []=mNd d i:=by
 unfold ndL
 simp [List.getD,h]
theorem ndL_inn (d:Dm):Inn (ndL d):=fun i hi x hx=>by
 rw [ndL_len] at hi ⊢
 rw [ndL_at hi] at hx
 exact mNd_in hx
def badM (d:Dm) (i:Nat):Bool:=decide (mErr d i≠0)
noncomputable def rErr (d:Dm):Int×Int :=
 if (dimErr d).2≠0 then dimErr d
 else if 0≤findFrom (badM d) d.n 0 then (findFrom (badM d) d.n 0,mErr d (findFrom (badM d) d.n 0).toNat)
 else if 0≤findFrom (cycB (ndL d)) d.n 0 then (findFrom (cycB (ndL d)) d.n 0,8)
 else (-1,0)
theorem re0 {d:Dm} (h:(dimErr d).2≠0):rErr d=dimErr d:=by unfold rErr;rw [if_pos h]
theorem re1 {d:Dm} (h:(dimErr d).2=0) {i:Nat} (hi:i<d.n) (he:mErr d i≠0) (hf:∀ j,j<i→mErr d j=0):rErr d=((i:Int),mErr d i):=by
 have e:findFrom (badM d) d.n 0=(i:Int):=findFrom_at (Nat.zero_le _) (by omega) (decide_eq_true he) fun j _ hj=>decide_eq_false (by simpa using hf j hj)
 unfold rErr
 rw [if_neg (by simpa using h),e,if_pos (by omega),Int.toNat_natCast]
theorem re2a {d:Dm} (hf:∀ j,j<d.n→mErr d j=0):findFrom (badM d) d.n 0 = -1:=findFrom_none fun j _ hj=>decide_eq_false (by simpa using hf j (by omega))
theorem re2 {d:Dm} (h:(dimErr d).2=0) (hf:∀ j,j<d.n→mErr d j=0) {i:Nat} (hi:i<d.n) (hc:cycB (ndL d) i=true) (hn:∀ j,j<i→cycB (ndL d) j=false):rErr d=((i:Int),8):=by
 unfold rErr
 rw [if_neg (by simpa using h),re2a hf,if_neg (by omega),findFrom_at (Nat.zero_le _) (by omega) hc fun j _ hj=>hn j hj,if_pos (by omega)]
theorem re3 {d:Dm} (h:(dimErr d).2=0) (hf:∀ j,j<d.n→mErr d j=0) (hn:∀ j,j<d.n→cycB (ndL d) j=false):rErr d=(-1,0):=by
 unfold rErr
 rw [if_neg (by simpa using h),re2a hf,if_neg (by omega),findFrom_none fun j _ hj=>hn j (by omega),if_neg (by omega)]
theorem rErr_right {d:Dm} (h:(rErr d).2=0):(dimErr d).2=0∧(∀ j,j<d.n→mErr d j=0)∧(∀ j,j<d.n→cycB (ndL d) j=false)∧(rErr d).1 = -1:=by
 by_cases h0:(dimErr d).2=0
 ·rcases findFrom_cases (badM d) d.n 0 with ⟨_,h2⟩ | ⟨k,_,_,h3,h4,h5⟩
  ·have hm:∀ j,j<d.n→mErr d j=0:=fun j hj=>by
    have:=h2 j (Nat.zero_le _) (by omega)
    unfold badM at this
    simpa using this
   rcases findFrom_cases (cycB (ndL d)) d.n 0 with ⟨_,h6⟩ | ⟨k,_,_,h3,h4,h5⟩
   ·have hc:∀ j,j<d.n→cycB (ndL d) j=false:=fun j hj=>h6 j (Nat.zero_le _) (by omega)
    exact ⟨h0,hm,hc,by rw [re3 h0 hm hc]⟩
   ·rw [re2 h0 hm (by omega) h4 fun j hj=>h5 j (Nat.zero_le _) hj] at h
    cases h
  ·have hb:mErr d k≠0:=of_decide_eq_true h4
   rw [re1 h0 (by omega) hb fun j hj=>by have:=h5 j (Nat.zero_le _) hj;unfold badM at this;simpa using this] at h
   exact absurd h hb
 ·rw [re0 h0] at h
  exact absurd h h0
theorem rErr_acyc {d:Dm} (h:(rErr d).2=0):∀ i:Nat,i<(ndL d).length→cycB (ndL d) i=false:=fun i hi=>(rErr_right h).2.2.1 i (by rw [←ndL_len d];exact hi)
theorem need_names {d:Dm} (hd:(dimErr d).2=0) {i:Nat} (hf:(d.mem i).formula.size≠0) (he:mErr d i=0) (z:Int):z∈mNd d i↔∃ nm∈nmsOf d i,z=whL d nm:=by
 have hall:∀ nm∈nmsOf d i,0≤whL d nm:=fun nm hnm=>by
  unfold mErr at he
  rw [if_neg hf] at he
  split at he
  ·rename_i h1;exact absurd he h1
  ·split at he
   ·cases he
   ·rename_i h2
    rw [List.any_eq_true] at h2
    exact Decidable.byContradiction fun h3=>h2 ⟨nm,hnm,decide_eq_true (by omega)⟩
 constructor
 ·intro h
  obtain ⟨m,rfl,h2,h3⟩:=selTo_mem z h
  unfold needB at h3
  rw [if_neg hf,List.contains_iff_mem] at h3
  exact ⟨_,h3,(whL_own hd h2).symm⟩
 ·rintro ⟨nm,h1,rfl⟩
  rcases whL_cases d nm with ⟨h2,_⟩ | ⟨k,h2,h3,h4⟩
  ·have:=hall nm h1;omega
  ·rw [h2]
   refine sel_has h3 ?_
   unfold needB
   rw [if_neg hf,List.contains_iff_mem,h4]
   exact h1
theorem parts_need {d:Dm} {i:Nat} (hf:(d.mem i).formula.size=0):(partsOf d.mem d.n i).filter (sgB d)=mNd d i:=by
 refine selru_filter _ _ _ _ fun j _=>?_
 unfold needB
 rw [if_pos hf,Bool.and_eq_true]
/-! sorted, each once -/
theorem srt_le (zs:List (List UInt8)):(zs.mergeSort fun x y=>decide (x≤y)).Pairwise (fun a b=>a≤b):=by
 have h:=List.pairwise_mergeSort (le:=fun x y:List UInt8=>decide (x≤y)) (fun a b c h k=>by simp at *;exact List.le_trans h k) (fun a b=>by simp;exact List.le_total a b) zs
 exact h.imp fun h=>by simpa using h
theorem srt_ints (zs:List Int):(zs.mergeSort fun x y=>decide (x≤y)).Pairwise (fun a b=>a≤b):=by
 have h:=List.pairwise_mergeSort (le:=fun x y:Int=>decide (x≤y)) (fun a b c h k=>by simp at *;omega) (fun a b=>by simp;omega) zs
 exact h.imp fun h=>by simpa using h
theorem comp_mem (zs:List (List UInt8)) (x:List UInt8):x∈Lib.compact zs↔x∈zs:=by
 unfold Lib.compact
 have h:∀ m,m≤zs.length→∀ x,x∈Lib.compactUpTo zs.toArray m↔∃ j,j<m∧zs.toArray[j]! = x:=by
  intro m
  induction m with
  | zero=>intro _ x;simp [Lib.compactUpTo]
  | succ m ih =>
   intro hm x
   rw [Lib.compactUpTo_succ,List.mem_append,ih (by omega)]
   constructor
   ·rintro (⟨j,h1,h2⟩ | h1)
    ·exact ⟨j,by omega,h2⟩
    ·split at h1
     ·exact ⟨m,by omega,(List.mem_singleton.1 h1).symm⟩
     ·cases h1
   ·rintro ⟨j,h1,h2⟩
    by_cases e:j<m
    ·exact Or.inl ⟨j,e,h2⟩
    ·have e:j=m:=by omega
     subst e
     by_cases hk:Lib.keeps zs.toArray j=true
     ·exact Or.inr (by rw [if_pos hk,←h2];simp)
     ·unfold Lib.keeps at hk
      rw [decide_eq_true_iff] at hk
      have h3:j≠0:=fun e=>hk (Or.inl e)
      have h4:zs.toArray[j]! = zs.toArray[j-1]! := Decidable.byContradiction fun e=>hk (Or.inr e)
      exact Or.inl ⟨j-1,by omega,by rw [←h4];exact h2⟩
 rw [h _ (Nat.le_refl _)]
 constructor
 ·rintro ⟨j,h1,rfl⟩
  rw [getElem!_pos _ j (by simpa using h1)]
  simp
 ·intro hx
  obtain ⟨j,hj,rfl⟩:=List.getElem_of_mem hx
  exact ⟨j,hj,by rw [getElem!_pos _ j (by simpa using hj)];simp⟩
theorem comp_nodup (zs:List (List UInt8)) (hs:zs.Pairwise (fun a b=>a≤b)):(Lib.compact zs).Nodup:=by
 unfold Lib.compact
 have hle:∀ i j,i≤j→j<zs.length→zs.toArray[i]!≤zs.toArray[j]! := fun i j hij hj=>by
  rw [getElem!_pos _ i (by simp;omega),getElem!_pos _ j (by simpa using hj)]
  by_cases e:i=j
  ·subst e;exact List.le_refl _
  ·have:=List.pairwise_iff_getElem.1 hs i j (by omega) hj (by omega)
   simpa using this
 have h:∀ m,m≤zs.length→(Lib.compactUpTo zs.toArray m).Nodup∧∀ x∈Lib.compactUpTo zs.toArray m,∃ j,j<m∧zs.toArray[j]! = x:=by
  intro m
  induction m with
  | zero=>intro _;exact ⟨by simp [Lib.compactUpTo],fun x hx=>by simp [Lib.compactUpTo] at hx⟩
  | succ m ih =>
   intro hm
   obtain ⟨h1,h2⟩:=ih (by omega)
   rw [Lib.compactUpTo_succ]
   refine ⟨?_,fun x hx=>?_⟩
   ·rw [List.nodup_append]
    refine ⟨h1,by split <;> simp,fun a ha b hb e=>?_⟩
    split at hb
    ·rename_i hk
     rw [List.mem_singleton.1 hb] at e
     obtain ⟨j,h3,h4⟩:=h2 a ha
     unfold Lib.keeps at hk
     rcases of_decide_eq_true hk with h5 | h5
     ·omega
     ·refine h5 (List.le_antisymm ?_ (hle (m-1) m (by omega) (by omega)))
      rw [←e,←h4]
      exact hle j (m-1) (by omega) (by omega)
    ·cases hb
   ·rcases List.mem_append.1 hx with hx | hx
    ·obtain ⟨j,h3,h4⟩:=h2 x hx
     exact ⟨j,by omega,h4⟩
    ·split at hx
     ·exact ⟨m,by omega,(List.mem_singleton.1 hx).symm⟩
     ·cases hx
 exact (h _ (Nat.le_refl _)).1
theorem form_read {s:ByteArray} (h:prsE s=0):formErr (prsL s)=0:=by
 have hL:prsL s=nodesP s:=by unfold prsL;rw [if_pos h]
 rw [hL]
 unfold prsE at h
 split at h
 ·split at h <;> cases h
 ·split at h
  ·exact h
  ·cases h
theorem refs_once {l:List Nd} (h:formErr l=0):(refsP l).Nodup∧∀ x,x∈refsP l↔x∈nmsTo l l.length:=by
 unfold refsP
 rw [if_pos h]
 refine ⟨comp_nodup _ (srt_le _),fun x=>?_⟩
 rw [comp_mem]
 exact (List.mergeSort_perm _ _).mem_iff
theorem sort_need {d:Dm} (hd:(dimErr d).2=0) {i:Nat} (hf:(d.mem i).formula.size≠0) (he:mErr d i=0) (hp:prsE (d.mem i).formula=0):(((refsP (prsL (d.mem i).formula)).map (whL d)).mergeSort fun x y=>decide (x≤y))=mNd d i:=by
 obtain ⟨h1,h2⟩:=refs_once (form_read hp)
 have hm:∀ z,z∈(refsP (prsL (d.mem i).formula)).map (whL d)↔z∈mNd d i:=fun z=>by
  rw [need_names hd hf he,List.mem_map]
  constructor
  ·rintro ⟨nm,h3,rfl⟩;exact ⟨nm,(h2 nm).1 h3,rfl⟩
  ·rintro ⟨nm,h3,rfl⟩;exact ⟨nm,(h2 nm).2 h3,rfl⟩
 have hnd:((refsP (prsL (d.mem i).formula)).map (whL d)).Pairwise (fun a b=>a≠b):=by
  rw [List.pairwise_map]
  have hin:∀ nm∈refsP (prsL (d.mem i).formula),0≤whL d nm:=fun nm h=>(mNd_in ((hm _).1 (List.mem_map.2 ⟨nm,h,rfl⟩))).1
  refine List.Pairwise.imp_of_mem (R:=fun a b=>a≠b) (fun {a b} ha hb hab e=>?_) h1
  rcases whL_cases d a with ⟨h3,_⟩ | ⟨k,h3,_,h4⟩
  ·have:=hin a ha;omega
  ·rcases whL_cases d b with ⟨h5,_⟩ | ⟨m,h5,_,h6⟩
   ·have:=hin b hb;omega
   ·have:k=m:=by omega
    exact hab (by rw [←h4,←h6,this])
 refine rise_eq _ _ ?_ (mNd_rise d i) fun z=>?_
 ·have hp2:=(List.mergeSort_perm ((refsP (prsL (d.mem i).formula)).map (whL d)) (fun x y=>decide (x≤y)))
  have hn2:List.Pairwise (fun a b=>a≠b) (((refsP (prsL (d.mem i).formula)).map (whL d)).mergeSort fun x y=>decide (x≤y)):=hp2.symm.pairwise hnd fun {a b} h e=>h e.symm
  exact ((srt_ints _).and hn2).imp fun h=>by omega
 ·rw [(List.mergeSort_perm _ _).mem_iff,hm]
end Go.Proofs.YtnlfpaopfloklaaGreatDoor
namespace Go.Proofs.YtnlfpaopfloklaaGreatDoor
open Go.ChangeShapes Go.WideShapes Go.ChangeAt Go.RowKit
set_option maxRecDepth 20000
def RInv (N:List (List Int)) (i:Nat) (L:List Int) (k:Nat):Prop:=L.Nodup∧(∀ x∈L,Rch N i x)∧(∀ x∈N.getD i [],x∈L)∧∀ j,j<k→∀ y∈rowN N (L.getD j 0),y∈L
theorem rinv_start {N:List (List Int)} {i:Nat} (h:(N.getD i []).Nodup):RInv N i (N.getD i []) 0 :=
 ⟨h,fun x hx=>.one (by unfold rowN;simpa using hx),fun _ h=>h,fun j hj=>absurd hj (Nat.not_lt_zero _)⟩
theorem rinv_in {N:List (List Int)} {i:Nat} {L:List Int} {k:Nat} (h:RInv N i L k) (hN:Inn N) (hi:i<N.length):∀ x∈L,0≤x∧x<(N.length:Int):=fun x hx=>(h.2.1 x hx).inn hN (by omega) (by omega)
theorem rinv_len {N:List (List Int)} {i:Nat} {L:List Int} {k:Nat} (h:RInv N i L k) (hN:Inn N) (hi:i<N.length):L.length≤N.length:=few _ _ h.1 (rinv_in h hN hi)
theorem rinv_end {N:List (List Int)} {i:Nat} {L:List Int} (h:RInv N i L L.length):∀ x,x∈L↔Rch N i x:=fun x=>by
 refine ⟨h.2.1 x,fun hr=>hr.closed (S:=fun y=>y∈L) (fun y hy=>h.2.2.1 y (by unfold rowN at hy;simpa using hy)) fun y hy z hz=>?_⟩
 obtain ⟨j,hj,rfl⟩:=List.getElem_of_mem hy
 refine h.2.2.2 j hj z ?_
 rw [List.getD_eq_getElem?_getD,List.getElem?_eq_getElem hj]
 exact hz
theorem getD_app {L T:List Int} {j:Nat} (h:j<L.length):(L ++ T).getD j 0=L.getD j 0:=by
 rw [List.getD_eq_getElem?_getD,List.getD_eq_getElem?_getD,List.getElem?_append_left h]
theorem rinv_put {N:List (List Int)} {i:Nat} {L:List Int} {k:Nat} {x:Int} (h:RInv N i L k) (hk:k≤L.length) (hx:x∉L) (hr:Rch N i x):RInv N i (L ++ [x]) k:=by
 refine ⟨?_,fun y hy=>?_,fun y hy=>List.mem_append_left _ (h.2.2.1 y hy),fun j hj y hy=>?_⟩
 ·rw [List.nodup_append]
  refine ⟨h.1,by simp,fun a ha b hb e=>?_⟩
  rw [List.mem_singleton.1 hb] at e
  exact hx (e ▸ ha)
 ·rcases List.mem_append.1 hy with hy | hy
  ·exact h.2.1 y hy
  ·rw [List.mem_singleton.1 hy];exact hr
 ·rw [getD_app (by omega)] at hy
  exact List.mem_append_left _ (h.2.2.2 j hj y hy)
theorem rinv_next {N:List (List Int)} {i:Nat} {L:List Int} {k:Nat} (h:RInv N i L k) (hy:∀ y∈rowN N (L.getD k 0),y∈L):RInv N i L (k+1) :=
 ⟨h.1,h.2.1,h.2.2.1,fun j hj y hyj=>by
  by_cases e:j=k
  ·rw [e] at hyj;exact hy y hyj
  ·exact h.2.2.2 j (by omega) y hyj⟩
theorem mem_at {L:List Int} {j:Nat} (h:j<L.length):L.getD j 0∈L:=by
 rw [List.getD_eq_getElem?_getD,List.getElem?_eq_getElem h]
 exact List.getElem_mem h
set_option maxHeartbeats 4000000 in
theorem rureach_any (A:Option Addr) (cap:Nat) (xs:List RL) (i:Nat) (w:World) (hn:xs.length≤12) (hi:i<xs.length) (hN:Inn (lR xs)) (hnd:∀ x∈xs,x.p.Nodup∧x.p.length≤12) (hR:RowsV w A cap xs) :
  Calls Tryz.prog 109 #[.slice A xs.length cap,.int .i64 i] w fun e w'=>(∃ A' c' L,e=.returned (.slice A' L.length c')∧IntsAt w' A' c' L∧L.length≤12∧∀ x,x∈L↔Rch (lR xs) i x)∧Below w.heap.size w w':=by
 obtain ⟨i0,hi0,hz0,hz1,hz2⟩:=info_parts Tryz.infoInt
 have HR:Hid (RowsV w A cap xs):=hR
 have HNd:Hid (∀ x∈xs,x.p.Nodup∧x.p.length≤12):=hnd
 have HIn:Hid (Inn (lR xs)):=hN
 have HLen:Hid ((lR xs).length=xs.length):=lR_len xs
 obtain ⟨hcap,h0 | ⟨b,rfl,hbw,hcell⟩,hrows⟩:=hR
 ·rw [h0] at hi;simp at hi
 have hci:=hcell i hi
 have hri:=hrows _ (rl_mem hi)
 have hni:=hnd _ (rl_mem hi)
 have HC:Hid (∀ k,k<xs.length→w.cell? ⟨b,k,none⟩=some (.slice (xs.getD k noR).A (xs.getD k noR).p.length (xs.getD k noR).c)):=hcell
 have HRw:Hid (∀ x∈xs,IntT w x.A x.c x.p):=hrows
 have HSt:Hid (RInv (lR xs) i (xs.getD i noR).p 0):=by
  have h:=rinv_start (N:=lR xs) (i:=i) (by rw [lR_at];exact hni.1)
  rw [lR_at] at h
  exact h
 have hcl:=iclone_any (xs.getD i noR).A (xs.getD i noR).c (xs.getD i noR).p w hni.2 hri
 obtain ⟨n,hnn⟩:∃ n,xs.length=n:=⟨_,rfl⟩
 have HX:Hid (xs.length=n):=hnn
 rw [hnn] at hn hi hcap ⊢
 have hii:(i:Int)<(n:Int):=by omega
 have hnI:(n:Int)≤12:=by omega
 obtain ⟨pi,hpi⟩:∃ pi,(xs.getD i noR).p=pi:=⟨_,rfl⟩
 rw [hpi] at hci hcl HSt
 generalize (xs.getD i noR).A=Ai at hci hcl
 generalize (xs.getD i noR).c=ci at hci hcl
 clear hcell hrows hnd hN hri hni hpi hnn
 go_enter Tryz.func109,Tryz.ntmps109
 go_wp2_with fail
 refine hcl.mono ?_
 rintro e w1 ⟨⟨v1,rfl,hO1⟩,hb1⟩
 have HO1:Hid (w1.ownsRow w.heap.size 3 1 v1 pi.length (mapI pi)):=hO1
 have HB1:Hid (Below w.heap.size w w1):=hb1
 clear hO1 hb1 hcl hci
 go_wp2_with fail
 go_loopg [5,6] n (fun g s5 s6 wr => ∃ (k:Nat) (L:List Int),k≤L.length∧g=n-k∧s6=.int .i64 k∧Hid (RInv (lR xs) i L k)∧wr.ownsRow w.heap.size 3 1 s5 L.length (mapI L)∧Below w.heap.size w wr)
 case atStart=>exact ⟨0,pi,Nat.zero_le _,rfl,rfl,HSt,HO1.out,HB1.out⟩
 case round =>
  obtain ⟨k,L,hk,rfl,rfl,HI,hown,hBw⟩:=hrel
  have HBw:Hid (Below w.heap.size w wr):=hBw
  have HO:Hid (wr.ownsRow w.heap.size 3 1 u5 L.length (mapI L)):=hown
  have hLn:L.length≤n:=by rw [←HX.out,←HLen.out];exact rinv_len HI.out HIn.out (by rw [HLen.out,HX.out];exact hi)
  obtain ⟨AL,cL,rfl,hIL⟩:=intT_own hown
  obtain ⟨m,hm⟩:∃ m,L.length=m:=⟨_,rfl⟩
  have HM:Hid (L.length=m):=hm
  have hmI:(m:Int)≤12:=by omega
  rw [hm] at hk hLn
  rw [hm]
  by_cases hlt:k<m
  ·have hki:(k:Int)<(m:Int):=by omega
   obtain ⟨hcL,-,hL0 | ⟨bl,cs,fr,rfl,hbl,hcl⟩⟩:=hIL
   ·rw [hL0] at hm;simp at hm;omega
   have cx:=hcl k (by omega)
   have hx:=rinv_in HI.out HIn.out (by rw [HLen.out,HX.out];exact hi) _ (mem_at (L:=L) (j:=k) (by omega))
   rw [HLen.out,HX.out] at hx
   obtain ⟨y,hy⟩:∃ y:Nat,L.getD k 0=(y:Int):=⟨(L.getD k 0).toNat,by omega⟩
   have HY:Hid (L.getD k 0=(y:Int)):=hy
   rw [hy] at cx hx
   have hyn:y<n:=by omega
   have hyi:(y:Int)<(n:Int):=by omega
   have cy:=(hBw.cell (p:=⟨b,y,none⟩) hbw).trans (HC.out y (by rw [HX.out];exact hyn))
   have HRy:Hid (IntT w (xs.getD y noR).A (xs.getD y noR).c (xs.getD y noR).p):=HRw.out _ (rl_mem (by rw [HX.out];exact hyn))
   have hry:=(HNd.out _ (rl_mem (k:=y) (by rw [HX.out];exact hyn))).2
   have HRow:Hid (rowN (lR xs) (L.getD k 0)=(xs.getD y noR).p):=by
    show _=_
    rw [hy]
    unfold rowN
    rw [Int.toNat_natCast,lR_at]
   have HRk:Hid (Rch (lR xs) i (L.getD k 0)):=HI.out.2.1 _ (mem_at (by omega))
   obtain ⟨R,hRe⟩:∃ R,(xs.getD y noR).p=R:=⟨_,rfl⟩
   rw [hRe] at cy HRy hry HRow
   generalize (xs.getD y noR).A=Ay at cy HRy
   generalize (xs.getD y noR).c=cy' at cy HRy
   obtain ⟨r,hr⟩:∃ r,R.length=r:=⟨_,rfl⟩
   have HRl:Hid (R.length=r):=hr
   rw [hr] at cy hry
   have hrI:(r:Int)≤12:=by omega
   have hblt:bl<wr.heap.size:=(Array.getElem?_eq_some_iff.1 hbl).1
   clear hcl hx hown hBw hbl hy hRe hr hm
   go_wp2_with fail
   go_loopg [5,28] r (fun gg s5 s28 wi => ∃ (j:Nat) (K:List Int),j≤r∧gg=r-j∧s28=.int .i64 j∧Hid (RInv (lR xs) i K k∧(∃ T,K=L ++ T)∧∀ t,t<j→R.getD t 0∈K)∧wi.ownsRow w.heap.size 3 1 s5 K.length (mapI K)∧Below w.heap.size w wi)
   case atStart=>exact ⟨0,L,Nat.zero_le _,rfl,rfl,(⟨HI.out,⟨[],by simp⟩,fun t ht=>absurd ht (Nat.not_lt_zero _)⟩:_∧_∧_),by have h:=HO.out;rw [HM.out] at h;rw [HM.out];exact h,HBw.out⟩
   case round =>
    obtain ⟨wj,rfl⟩:∃ wj:World,wj=wr:=⟨_,rfl⟩
    obtain ⟨j,K,hj,rfl,rfl,HK,hown,hBj⟩:=hrel
    have HBj:Hid (Below w.heap.size w wj):=hBj
    have HOj:Hid (wj.ownsRow w.heap.size 3 1 u5 K.length (mapI K)):=hown
    have hKn:K.length≤n:=by rw [←HX.out,←HLen.out];exact rinv_len HK.out.1 HIn.out (by rw [HLen.out,HX.out];exact hi)
    obtain ⟨AK,cK,rfl,hIK⟩:=intT_own hown
    by_cases hjl:j<r
    ·have hji:(j:Int)<(r:Int):=by omega
     obtain ⟨hcR,-,hR0 | ⟨br,csr,frr,rfl,hbr,hcr⟩⟩:=HRy.out.later hBj
     ·have:=HRl.out;rw [hR0] at this;simp at this;omega
     have cz:=hcr j (by rw [HRl.out];exact hjl)
     have hbrl:br<wj.heap.size:=(Array.getElem?_eq_some_iff.1 hbr).1
     rw [HRl.out] at hcR
     have hcRi:(r:Int)≤(cy':Int):=by omega
     obtain ⟨x,hx⟩:∃ x,R.getD j 0=x:=⟨_,rfl⟩
     have HXx:Hid (R.getD j 0=x):=hx
     rw [hx] at cz
     have hct:=contains_ints AK cK K x wj (by omega) hIK.at
     obtain ⟨mk,hmk⟩:∃ mk,K.length=mk:=⟨_,rfl⟩
     have HMk:Hid (K.length=mk):=hmk
     have HKn:Hid (mk≤n):=by show _≤_;omega
     rw [hmk] at hct hKn
     rw [hmk]
     clear hcr hbr hown hBj hIK hx hmk
     by_cases hin:x∈K
     ·have hb:inB K x=true:=by unfold inB;exact decide_eq_true hin
      rw [hb] at hct
      have HK2:Hid (RInv (lR xs) i K k∧(∃ T,K=L ++ T)∧∀ t,t<j+1→R.getD t 0∈K):=⟨HK.out.1,HK.out.2.1,fun t ht=>by
       by_cases e:t=j
       ·rw [e,HXx.out];exact hin
       ·exact HK.out.2.2 t (by omega)⟩
      clear hb hin
      go_wp2_with fail
      refine hct.mono ?_
      rintro e w2 ⟨rfl,hb2⟩
      have HB2:Hid (Below w.heap.size w w2):=onB HBj.out hb2
      have HO2:Hid (w2.ownsRow w.heap.size 3 1 (.slice AK mk cK) K.length (mapI K)):=by have h:=own_later HOj.out hb2;rw [HMk.out] at h;show World.ownsRow ..;rw [HMk.out];exact h
      clear hb2 hct
      go_wp2_with fail
      go_roundg (r-(j+1))
      case measure=>omega
      case rel=>exact ⟨j+1,K,by omega,rfl,by go_num,HK2,HO2.out,HB2.out⟩
     ·have hb:inB K x=false:=by unfold inB;exact decide_eq_false hin
      rw [hb] at hct
      have HK2:Hid (RInv (lR xs) i (K ++ [x]) k∧(∃ T,K ++ [x]=L ++ T)∧∀ t,t<j+1→R.getD t 0∈K ++ [x]):=by
       obtain ⟨hI,⟨T,hT⟩,hA⟩:=HK.out
       refine ⟨rinv_put hI ?_ hin ?_,⟨T ++ [x],by rw [hT,List.append_assoc]⟩,fun t ht=>?_⟩
       ·rw [hT,List.length_append,HM.out];omega
       ·refine HRk.out.snoc ?_
        rw [HRow.out,←HXx.out]
        exact mem_at (by rw [HRl.out];exact hjl)
       ·by_cases e:t=j
        ·rw [e,HXx.out];simp
        ·exact List.mem_append_left _ (hA t (by omega))
      clear hb hin
      go_wp2_with fail
      refine hct.mono ?_
      rintro e w2 ⟨rfl,hb2⟩
      have hB2:Below w.heap.size w w2:=onB HBj.out hb2
      have HB2:Hid (Below w.heap.size w w2):=hB2
      have HO2:Hid (w2.ownsRow w.heap.size 3 1 (.slice AK mk cK) mk (mapI K)):=by have h:=own_later HOj.out hb2;rw [HMk.out] at h;exact h
      have hsz:=hB2.size
      clear hb2 hct hB2
      go_wp2_with (at_builtin;refine wpList_append_own _ rfl _ _ 38 rfl w.heap.size 3 i0 (.int .i64 0) 1 8 Tryz.underlying38 hi0 hz0 hz1 hz2 rfl (by decide) _ _ _ rfl (HO2.out.alloc _) ⟨w2.heap.size,0,none⟩ 1 1 [.int .i64 x] rfl rfl one_cell one_one (by have:=HKn.out;unfold maxLen;omega) (by have:=HKn.out;omega) (by simp;omega) ?_)
      intro v' w3 hown' hgrow _
      have HB3:Hid (Below w.heap.size w w3):=grown_own HB2.out HO2.out hgrow
      have HO3:Hid (w3.ownsRow w.heap.size 3 1 v' (K ++ [x]).length (mapI (K ++ [x]))):=by
       show World.ownsRow ..
       rw [mapI_snoc,List.length_append,HMk.out];exact hown'
      clear hown' hgrow
      go_wp2_with fail
      go_roundg (r-(j+1))
      case measure=>omega
      case rel=>exact ⟨j+1,K ++ [x],by omega,rfl,by go_num,HK2,HO3.out,HB3.out⟩
    ·have hje:j=r:=by omega
     subst hje
     have HI2:Hid (k+1≤K.length∧RInv (lR xs) i K (k+1)):=by
      obtain ⟨hI,⟨T,hT⟩,hA⟩:=HK.out
      refine ⟨by rw [hT,List.length_append,HM.out];omega,rinv_next hI fun y' hy'=>?_⟩
      rw [hT,getD_app (by rw [HM.out];exact hlt),HRow.out] at hy'
      obtain ⟨t,ht,rfl⟩:=List.getElem_of_mem hy'
      have h:=hA t (by rw [←HRl.out];exact ht)
      rw [List.getD_eq_getElem?_getD,List.getElem?_eq_getElem ht] at h
      exact h
     clear hown hBj hIK hKn
     go_wp2_with fail
     go_roundg (n-(k+1))
     case measure=>omega
     case rel=>exact ⟨k+1,K,HI2.out.1,rfl,by go_num,HI2.out.2,HOj.out,HBj.out⟩
  ·have hke:k=m:=by omega
   subst hke
   have HEnd:Hid (∀ x,x∈L↔Rch (lR xs) i x):=rinv_end (by rw [HM.out];exact HI.out)
   have HIL:Hid (IntsAt wr AL cL L):=hIL.at
   clear hown hBw hIL hm
   go_wp2_with fail
   go_ret
   exact ⟨⟨AL,cL,L,by rw [HM.out];rfl,HIL.out,by rw [HM.out];omega,HEnd.out⟩,HBw.out⟩
end Go.Proofs.YtnlfpaopfloklaaGreatDoor
