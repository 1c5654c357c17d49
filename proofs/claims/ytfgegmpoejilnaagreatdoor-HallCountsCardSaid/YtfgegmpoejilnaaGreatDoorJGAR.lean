/-
  What the members of a dim need, what is wrong with a dim with all its formulas, and what both readings of a formula's refs come to: plain data.
-/
import Derived.Test.YtfgegmpoejilnaaGreatDoorJGAQ
namespace Go.Proofs.YtfgegmpoejilnaaGreatDoor
def whL (d:Dm) (nm:List UInt8):Int:=findFrom (fun j=>same (d.mem j).name ⟨nm.toArray⟩) d.n 0
theorem same_bytesL (s:ByteArray) (nm:List UInt8):same s ⟨nm.toArray⟩=decide (s.data.toList=nm):=by
 unfold same
 rw [ByteArray.toList_eq,ByteArray.toList_eq]
 by_cases h:s.data.toList=nm
 ·simp [h]
 ·simp [h]
theorem whL_cases (d:Dm) (nm:List UInt8):(whL d nm = -1∧∀ j,j<d.n→(d.mem j).name.data.toList≠nm)∨∃ k:Nat,whL d nm=(k:Int)∧k<d.n∧(d.mem k).name.data.toList=nm:=by
 unfold whL
 rcases findFrom_cases (fun j=>same (d.mem j).name ⟨nm.toArray⟩) d.n 0 with ⟨h1,h2⟩ | ⟨k,h1,_,h3,h4,_⟩
 ·refine Or.inl ⟨h1,fun j hj=>?_⟩
  have:=h2 j (Nat.zero_le _) (by omega)
  rw [same_bytesL] at this
  exact of_decide_eq_false this
 ·refine Or.inr ⟨k,h1,by omega,?_⟩
  rw [same_bytesL] at h4
  exact of_decide_eq_true h4
theorem name_once {d:Dm} (h:(dimErr d).2=0) {j k:Nat} (hj:j<d.n) (hk:k<d.n) (e:(d.mem j).name.data.toList=(d.mem k).name.data.toList):j=k:=by
 obtain ⟨_,_,_,hall⟩:=dimErr_right h
 have hs:∀ {a b:Nat},(d.mem a).name.data.toList=(d.mem b).name.data.toList→same (d.mem a).name (d.mem b).name=true:=fun {a b} e=>by
  unfold same
  rw [ByteArray.toList_eq,ByteArray.toList_eq,e]
  simp
 rcases Nat.lt_trichotomy j k with h1 | h1 | h1
 ·have:=memErr_noclash (hall k hk)
  have:=findFrom_nonneg (q:=fun i=>same (d.mem i).name (d.mem k).name) h1 (hs e)
  omega
 ·exact h1
 ·have:=memErr_noclash (hall j hj)
  have:=findFrom_nonneg (q:=fun i=>same (d.mem i).name (d.mem j).name) h1 (hs e.symm)
  omega
theorem whL_own {d:Dm} (h:(dimErr d).2=0) {k:Nat} (hk:k<d.n):whL d (d.mem k).name.data.toList=(k:Int):=by
 rcases whL_cases d (d.mem k).name.data.toList with ⟨_,h2⟩ | ⟨m,h1,h2,h3⟩
 ·exact absurd rfl (h2 k hk)
 ·rw [h1,name_once h h2 hk h3]
def nmsOf (d:Dm) (i:Nat):List (List UInt8):=nmsTo (prsL (d.mem i).formula) (prsL (d.mem i).formula).length
theorem nms_has {l:List Nd} {x:Nd} (hx:x∈l) (h:x.op=2):x.name.data.toList∈nmsTo l l.length:=by
 unfold nmsTo
 rw [List.take_length]
 exact List.mem_map.2 ⟨x,List.mem_filter.2 ⟨hx,by simp [h]⟩,rfl⟩
def mErr (d:Dm) (i:Nat):Int:=if (d.mem i).formula.size=0 then 0 else if prsE (d.mem i).formula≠0 then prsE (d.mem i).formula else if (nmsOf d i).any (fun nm=>decide (whL d nm<0))=true then 5 else 0
def sgB (d:Dm) (k:Int):Bool:=decide ((d.mem k.toNat).sign≠0)
def needB (d:Dm) (i k:Nat):Bool:=if (d.mem i).formula.size=0 then partB d.mem i k && sgB d k else (nmsOf d i).contains (d.mem k).name.data.toList
def mNd (d:Dm) (i:Nat):List Int:=selTo (needB d i) d.n
theorem mNd_rise (d:Dm) (i:Nat):(mNd d i).Pairwise (· < ·):=sel_rise _ _
theorem mNd_in {d:Dm} {i:Nat} {x:Int} (h:x∈mNd d i):0≤x∧x<(d.n:Int):=by
 obtain ⟨m,rfl,h2,-⟩:=selTo_mem x h
 omega
theorem mNd_len (d:Dm) (i:Nat):(mNd d i).length≤d.n:=selTo_len _ _
def ndL (d:Dm):List (List Int):=(List.range d.n).map (mNd d)
theorem ndL_len (d:Dm):(ndL d).length=d.n:=by simp [ndL]
theorem ndL_at {d:Dm} {i:Nat} (h:i<d.n):(ndL d).getD i []=mNd d i:=by
 unfold ndL
 simp [List.getD,h]
theorem ndL_inn (d:Dm):Inn (ndL d):=fun i hi x hx=>by
 rw [ndL_len] at hi ⊢
 rw [ndL_at hi] at hx
 exact mNd_in hx
def badM (d:Dm) (i:Nat):Bool:=decide (mErr d i≠0)
noncomputable def rErr (d:Dm):Int×Int :=
 if (dimErr d).2≠0 then dimErr d
 else if 0≤findFrom (badM d) d.n 0 then (findFrom (badM d) d.n 0,mErr d (findFrom (badM d) d.n 0).toNat)
 else if 0≤findFrom (cycB (ndL d)) d.n 0 then (findFrom (cycB (ndL d)) d.n 0,8)
 else (-1,0)
theorem re0 {d:Dm} (h:(dimErr d).2≠0):rErr d=dimErr d:=by unfold rErr;rw [if_pos h]
theorem re1 {d:Dm} (h:(dimErr d).2=0) {i:Nat} (hi:i<d.n) (he:mErr d i≠0) (hf:∀ j,j<i→mErr d j=0):rErr d=((i:Int),mErr d i):=by
 have e:findFrom (badM d) d.n 0=(i:Int):=findFrom_at (Nat.zero_le _) (by omega) (decide_eq_true he) fun j _ hj=>decide_eq_false (by simpa using hf j hj)
 unfold rErr
 rw [if_neg (by simpa using h),e,if_pos (by omega),Int.toNat_natCast]
theorem re2a {d:Dm} (hf:∀ j,j<d.n→mErr d j=0):findFrom (badM d) d.n 0 = -1:=findFrom_none fun j _ hj=>decide_eq_false (by simpa using hf j (by omega))
theorem re2 {d:Dm} (h:(dimErr d).2=0) (hf:∀ j,j<d.n→mErr d j=0) {i:Nat} (hi:i<d.n) (hc:cycB (ndL d) i=true) (hn:∀ j,j<i→cycB (ndL d) j=false):rErr d=((i:Int),8):=by
 unfold rErr
 rw [if_neg (by simpa using h),re2a hf,if_neg (by omega),findFrom_at (Nat.zero_le _) (by omega) hc fun j _ hj=>hn j hj,if_pos (by omega)]
theorem re3 {d:Dm} (h:(dimErr d).2=0) (hf:∀ j,j<d.n→mErr d j=0) (hn:∀ j,j<d.n→cycB (ndL d) j=false):rErr d=(-1,0):=by
 unfold rErr
 rw [if_neg (by simpa using h),re2a hf,if_neg (by omega),findFrom_none fun j _ hj=>hn j (by omega),if_neg (by omega)]
theorem rErr_right {d:Dm} (h:(rErr d).2=0):(dimErr d).2=0∧(∀ j,j<d.n→mErr d j=0)∧(∀ j,j<d.n→cycB (ndL d) j=false)∧(rErr d).1 = -1:=by
 by_cases h0:(dimErr d).2=0
 ·rcases findFrom_cases (badM d) d.n 0 with ⟨_,h2⟩ | ⟨k,_,_,h3,h4,h5⟩
  ·have hm:∀ j,j<d.n→mErr d j=0:=fun j hj=>by
    have:=h2 j (Nat.zero_le _) (by omega)
    unfold badM at this
    simpa using this
   rcases findFrom_cases (cycB (ndL d)) d.n 0 with ⟨_,h6⟩ | ⟨k,_,_,h3,h4,h5⟩
   ·have hc:∀ j,j<d.n→cycB (ndL d) j=false:=fun j hj=>h6 j (Nat.zero_le _) (by omega)
    exact ⟨h0,hm,hc,by rw [re3 h0 hm hc]⟩
   ·rw [re2 h0 hm (by omega) h4 fun j hj=>h5 j (Nat.zero_le _) hj] at h
    cases h
  ·have hb:mErr d k≠0:=of_decide_eq_true h4
   rw [re1 h0 (by omega) hb fun j hj=>by have:=h5 j (Nat.zero_le _) hj;unfold badM at this;simpa using this] at h
   exact absurd h hb
 ·rw [re0 h0] at h
  exact absurd h h0
theorem rErr_acyc {d:Dm} (h:(rErr d).2=0):∀ i:Nat,i<(ndL d).length→cycB (ndL d) i=false:=fun i hi=>(rErr_right h).2.2.1 i (by rw [←ndL_len d];exact hi)
theorem need_names {d:Dm} (hd:(dimErr d).2=0) {i:Nat} (hf:(d.mem i).formula.size≠0) (he:mErr d i=0) (z:Int):z∈mNd d i↔∃ nm∈nmsOf d i,z=whL d nm:=by
 have hall:∀ nm∈nmsOf d i,0≤whL d nm:=fun nm hnm=>by
  unfold mErr at he
  rw [if_neg hf] at he
  split at he
  ·rename_i h1;exact absurd he h1
  ·split at he
   ·cases he
   ·rename_i h2
    rw [List.any_eq_true] at h2
    exact Decidable.byContradiction fun h3=>h2 ⟨nm,hnm,decide_eq_true (by omega)⟩
 constructor
 ·intro h
  obtain ⟨m,rfl,h2,h3⟩:=selTo_mem z h
  unfold needB at h3
  rw [if_neg hf,List.contains_iff_mem] at h3
  exact ⟨_,h3,(whL_own hd h2).symm⟩
 ·rintro ⟨nm,h1,rfl⟩
  rcases whL_cases d nm with ⟨h2,_⟩ | ⟨k,h2,h3,h4⟩
  ·have:=hall nm h1;omega
  ·rw [h2]
   refine sel_has h3 ?_
   unfold needB
   rw [if_neg hf,List.contains_iff_mem,h4]
   exact h1
theorem parts_need {d:Dm} {i:Nat} (hf:(d.mem i).formula.size=0):(partsOf d.mem d.n i).filter (sgB d)=mNd d i:=by
 refine selru_filter _ _ _ _ fun j _=>?_
 unfold needB
 rw [if_pos hf,Bool.and_eq_true]
/-! sorted, each once -/
theorem srt_le (zs:List (List UInt8)):(zs.mergeSort fun x y=>decide (x≤y)).Pairwise (fun a b=>a≤b):=by
 have h:=List.pairwise_mergeSort (le:=fun x y:List UInt8=>decide (x≤y)) (fun a b c h k=>by simp at *;exact List.le_trans h k) (fun a b=>by simp;exact List.le_total a b) zs
 exact h.imp fun h=>by simpa using h
theorem srt_ints (zs:List Int):(zs.mergeSort fun x y=>decide (x≤y)).Pairwise (fun a b=>a≤b):=by
 have h:=List.pairwise_mergeSort (le:=fun x y:Int=>decide (x≤y)) (fun a b c h k=>by simp at *;omega) (fun a b=>by simp;omega) zs
 exact h.imp fun h=>by simpa using h
theorem comp_mem (zs:List (List UInt8)) (x:List UInt8):x∈Lib.compact zs↔x∈zs:=by
 unfold Lib.compact
 have h:∀ m,m≤zs.length→∀ x,x∈Lib.compactUpTo zs.toArray m↔∃ j,j<m∧zs.toArray[j]! = x:=by
  intro m
  induction m with
  | zero=>intro _ x;simp [Lib.compactUpTo]
  | succ m ih =>
   intro hm x
   rw [Lib.compactUpTo_succ,List.mem_append,ih (by omega)]
   constructor
   ·rintro (⟨j,h1,h2⟩ | h1)
    ·exact ⟨j,by omega,h2⟩
    ·split at h1
     ·exact ⟨m,by omega,(List.mem_singleton.1 h1).symm⟩
     ·cases h1
   ·rintro ⟨j,h1,h2⟩
    by_cases e:j<m
    ·exact Or.inl ⟨j,e,h2⟩
    ·have e:j=m:=by omega
     subst e
     by_cases hk:Lib.keeps zs.toArray j=true
     ·exact Or.inr (by rw [if_pos hk,←h2];simp)
     ·unfold Lib.keeps at hk
      rw [decide_eq_true_iff] at hk
      have h3:j≠0:=fun e=>hk (Or.inl e)
      have h4:zs.toArray[j]! = zs.toArray[j-1]! := Decidable.byContradiction fun e=>hk (Or.inr e)
      exact Or.inl ⟨j-1,by omega,by rw [←h4];exact h2⟩
 rw [h _ (Nat.le_refl _)]
 constructor
 ·rintro ⟨j,h1,rfl⟩
  rw [getElem!_pos _ j (by simpa using h1)]
  simp
 ·intro hx
  obtain ⟨j,hj,rfl⟩:=List.getElem_of_mem hx
  exact ⟨j,hj,by rw [getElem!_pos _ j (by simpa using hj)];simp⟩
theorem comp_nodup (zs:List (List UInt8)) (hs:zs.Pairwise (fun a b=>a≤b)):(Lib.compact zs).Nodup:=by
 unfold Lib.compact
 have hle:∀ i j,i≤j→j<zs.length→zs.toArray[i]!≤zs.toArray[j]! := fun i j hij hj=>by
  rw [getElem!_pos _ i (by simp;omega),getElem!_pos _ j (by simpa using hj)]
  by_cases e:i=j
  ·subst e;exact List.le_refl _
  ·have:=List.pairwise_iff_getElem.1 hs i j (by omega) hj (by omega)
   simpa using this
 have h:∀ m,m≤zs.length→(Lib.compactUpTo zs.toArray m).Nodup∧∀ x∈Lib.compactUpTo zs.toArray m,∃ j,j<m∧zs.toArray[j]! = x:=by
  intro m
  induction m with
  | zero=>intro _;exact ⟨by simp [Lib.compactUpTo],fun x hx=>by simp [Lib.compactUpTo] at hx⟩
  | succ m ih =>
   intro hm
   obtain ⟨h1,h2⟩:=ih (by omega)
   rw [Lib.compactUpTo_succ]
   refine ⟨?_,fun x hx=>?_⟩
   ·rw [List.nodup_append]
    refine ⟨h1,by split <;> simp,fun a ha b hb e=>?_⟩
    split at hb
    ·rename_i hk
     rw [List.mem_singleton.1 hb] at e
     obtain ⟨j,h3,h4⟩:=h2 a ha
     unfold Lib.keeps at hk
     rcases of_decide_eq_true hk with h5 | h5
     ·omega
     ·refine h5 (List.le_antisymm ?_ (hle (m-1) m (by omega) (by omega)))
      rw [←e,←h4]
      exact hle j (m-1) (by omega) (by omega)
    ·cases hb
   ·rcases List.mem_append.1 hx with hx | hx
    ·obtain ⟨j,h3,h4⟩:=h2 x hx
     exact ⟨j,by omega,h4⟩
    ·split at hx
     ·exact ⟨m,by omega,(List.mem_singleton.1 hx).symm⟩
     ·cases hx
 exact (h _ (Nat.le_refl _)).1
theorem form_read {s:ByteArray} (h:prsE s=0):formErr (prsL s)=0:=by
 have hL:prsL s=nodesP s:=by unfold prsL;rw [if_pos h]
 rw [hL]
 unfold prsE at h
 split at h
 ·split at h <;> cases h
 ·split at h
  ·exact h
  ·cases h
theorem refs_once {l:List Nd} (h:formErr l=0):(refsP l).Nodup∧∀ x,x∈refsP l↔x∈nmsTo l l.length:=by
 unfold refsP
 rw [if_pos h]
 refine ⟨comp_nodup _ (srt_le _),fun x=>?_⟩
 rw [comp_mem]
 exact (List.mergeSort_perm _ _).mem_iff
theorem sort_need {d:Dm} (hd:(dimErr d).2=0) {i:Nat} (hf:(d.mem i).formula.size≠0) (he:mErr d i=0) (hp:prsE (d.mem i).formula=0):(((refsP (prsL (d.mem i).formula)).map (whL d)).mergeSort fun x y=>decide (x≤y))=mNd d i:=by
 obtain ⟨h1,h2⟩:=refs_once (form_read hp)
 have hm:∀ z,z∈(refsP (prsL (d.mem i).formula)).map (whL d)↔z∈mNd d i:=fun z=>by
  rw [need_names hd hf he,List.mem_map]
  constructor
  ·rintro ⟨nm,h3,rfl⟩;exact ⟨nm,(h2 nm).1 h3,rfl⟩
  ·rintro ⟨nm,h3,rfl⟩;exact ⟨nm,(h2 nm).2 h3,rfl⟩
 have hnd:((refsP (prsL (d.mem i).formula)).map (whL d)).Pairwise (fun a b=>a≠b):=by
  rw [List.pairwise_map]
  have hin:∀ nm∈refsP (prsL (d.mem i).formula),0≤whL d nm:=fun nm h=>(mNd_in ((hm _).1 (List.mem_map.2 ⟨nm,h,rfl⟩))).1
  refine List.Pairwise.imp_of_mem (R:=fun a b=>a≠b) (fun {a b} ha hb hab e=>?_) h1
  rcases whL_cases d a with ⟨h3,_⟩ | ⟨k,h3,_,h4⟩
  ·have:=hin a ha;omega
  ·rcases whL_cases d b with ⟨h5,_⟩ | ⟨m,h5,_,h6⟩
   ·have:=hin b hb;omega
   ·have:k=m:=by omega
    exact hab (by rw [←h4,←h6,this])
 refine rise_eq _ _ ?_ (mNd_rise d i) fun z=>?_
 ·have hp2:=(List.mergeSort_perm ((refsP (prsL (d.mem i).formula)).map (whL d)) (fun x y=>decide (x≤y)))
  have hn2:List.Pairwise (fun a b=>a≠b) (((refsP (prsL (d.mem i).formula)).map (whL d)).mergeSort fun x y=>decide (x≤y)):=hp2.symm.pairwise hnd fun {a b} h e=>h e.symm
  exact ((srt_ints _).and hn2).imp fun h=>by omega
 ·rw [(List.mergeSort_perm _ _).mem_iff,hm]
end Go.Proofs.YtfgegmpoejilnaaGreatDoor
namespace Go.Proofs.YtfgegmpoejilnaaGreatDoor
open Go Go.ChangeShapes Go.WideShapes Go.ChangeAt Go.RowKit
set_option maxRecDepth 20000
theorem grown_transR {w w1 w2:World} {r:Option Nat} (h:w.grownBy w1 r) (k:w1.grownBy w2 r):w.grownBy w2 r :=
 ⟨k.os.trans h.os,k.tape.trans h.tape,k.output.trans h.output,Nat.le_trans h.size k.size,fun i hi hr=>(k.block i (Nat.lt_of_lt_of_le hi h.size) hr).trans (h.block i hi hr)⟩
theorem grown_belowR {w w':World} {r:Option Nat} (h:Below w.heap.size w w'):w.grownBy w' r:=⟨h.os,h.tape,h.output,h.size,fun i hi _=>h.block i hi⟩
theorem grown_setRowR (w:World) (g:Nat) (cs:Array Value):w.grownBy (w.setRow g cs) (some g) :=
 ⟨rfl,rfl,rfl,by rw [setRow_size];exact Nat.le_refl _,fun i _ hr=>setRow_other w g i cs fun e=>hr (by rw [e])⟩
theorem setCells_rowR (g:Nat) (t:TypeId):∀ (vs:List Value) (o:Nat) (cur:Array Value) (w:World),w.heap[g]?=some (.cells cur t (0,0))→o+vs.length≤cur.size→w.setCells g o vs=w.setRow g (cur.toList.take o ++ vs ++ cur.toList.drop (o+vs.length)).toArray
 | [],o,cur,w,hg,_=>by
  simp only [World.setCells,List.append_nil,List.length_nil,Nat.add_zero,List.take_append_drop,Array.toArray_toList]
  rw [setRow_self w g cur t (0,0) hg]
 | v :: r,o,cur,w,hg,hl=>by
  simp only [List.length_cons] at hl
  rw [World.setCells,setCell_eq_setRow w g o cur t (0,0) v hg,setCells_rowR g t r (o+1) (cur.setIfInBounds o v) _ (setRow_heap w g cur _ t _ hg) (by simp;omega),setRow_setRow]
  have e:=list_seg_step cur.toList o v r (by simp;omega)
  congr 2
  simpa [Array.toList_setIfInBounds,Nat.add_assoc] using e
set_option maxHeartbeats 1000000 in
theorem indexm_any (F:Nat) (cap:Array Value) (p:Int→Bool) (hent:∀ (args:Array Value) (w:World),(callFunc F args).run Tryz.prog w=.ok (.enter F args) w) (A:Option Addr) (c:Nat) (L:List Int) (w:World) (hn:L.length≤3000) (hL:IntsAt w A c L)
  (hF:∀ (x:Int) (w':World),x∈L→Below w.heap.size w w'→Calls Tryz.prog F (#[.int .i64 x] ++ cap) w' fun e w''=>e=.returned (.bool (p x))∧Below w'.heap.size w' w'') :
  Calls Tryz.prog 111 #[.slice A L.length c,.func (.func F) #[] cap] w fun e w'=>e=.returned (.int .i64 (findFrom (fun j=>p (L.getD j 0)) L.length 0))∧Below w.heap.size w w' :=
 indexm_pl F cap p hent A c L w (by omega) (pl_ints hL) hF
def DInv (L:List Int) (p:Int→Bool) (i j:Nat) (cur:Array Value):Prop:=i<j∧((L.take j).filter fun x => !p x).length=i∧(∀ m,m<i→cur[m]?=some (.int .i64 (((L.take j).filter fun x => !p x).getD m 0)))∧∀ m,j≤m→m<L.length→cur[m]?=some (.int .i64 (L.getD m 0))
theorem take_one {L:List Int} {j:Nat} (h:j<L.length):L.take (j+1)=L.take j ++ [L.getD j 0]:=by
 rw [List.take_succ_eq_append_getElem h,List.getD_eq_getElem?_getD,List.getElem?_eq_getElem h]
 rfl
theorem dinv_start {L:List Int} {p:Int→Bool} {k:Nat} {cur:Array Value} (hk:k<L.length) (hp:p (L.getD k 0)=true) (hn:∀ j,j<k→p (L.getD j 0)=false) (hc:∀ m,m<L.length→cur[m]?=some (.int .i64 (L.getD m 0))):DInv L p k (k+1) cur:=by
 have hf:(L.take k).filter (fun x => !p x)=L.take k:=by
  rw [List.filter_eq_self]
  intro x hx
  obtain ⟨j,hj,rfl⟩:=List.getElem_of_mem hx
  have hj2:j<k:=by rw [List.length_take] at hj;omega
  have h:=hn j hj2
  rw [List.getD_eq_getElem?_getD,List.getElem?_eq_getElem (by omega)] at h
  simpa using h
 have e:(L.take (k+1)).filter (fun x => !p x)=L.take k:=by
  rw [take_one hk,List.filter_append,hf]
  generalize L.getD k 0=x at hp ⊢
  simp [hp]
 refine ⟨by omega,by rw [e,List.length_take];omega,fun m hm=>?_,fun m h1 h2=>hc m h2⟩
 rw [e,hc m (by omega),List.getD_eq_getElem?_getD,List.getD_eq_getElem?_getD,List.getElem?_take_of_lt hm]
theorem dinv_skip {L:List Int} {p:Int→Bool} {i j:Nat} {cur:Array Value} (h:DInv L p i j cur) (hj:j<L.length) (hp:p (L.getD j 0)=true):DInv L p i (j+1) cur:=by
 have e:(L.take (j+1)).filter (fun x => !p x)=(L.take j).filter (fun x => !p x):=by
  rw [take_one hj,List.filter_append]
  generalize L.getD j 0=x at hp ⊢
  simp [hp]
 obtain ⟨h1,h2,h3,h4⟩:=h
 refine ⟨by omega,by rw [e];exact h2,fun m hm=>by rw [e];exact h3 m hm,fun m a b=>h4 m (by omega) b⟩
theorem dinv_keep {L:List Int} {p:Int→Bool} {i j:Nat} {cur:Array Value} (h:DInv L p i j cur) (hj:j<L.length) (hs:L.length≤cur.size) (hp:p (L.getD j 0)=false):DInv L p (i+1) (j+1) (cur.setIfInBounds i (.int .i64 (L.getD j 0))):=by
 have e:(L.take (j+1)).filter (fun x => !p x)=(L.take j).filter (fun x => !p x) ++ [L.getD j 0]:=by
  rw [take_one hj,List.filter_append]
  generalize L.getD j 0=x at hp ⊢
  simp [hp]
 obtain ⟨h1,h2,h3,h4⟩:=h
 generalize L.getD j 0=x at e ⊢
 refine ⟨by omega,by rw [e,List.length_append,h2];rfl,fun m hm=>?_,fun m a b=>?_⟩
 ·rw [e,Array.getElem?_setIfInBounds]
  by_cases he:i=m
  ·rw [if_pos he,if_pos (by omega),List.getD_eq_getElem?_getD,List.getElem?_append_right (by omega),h2,he]
   simp
  ·rw [if_neg he,h3 m (by omega),List.getD_eq_getElem?_getD,List.getD_eq_getElem?_getD,List.getElem?_append_left (by omega)]
 ·rw [Array.getElem?_setIfInBounds,if_neg (by omega)]
  exact h4 m (by omega) b
theorem grown_setRu {w wr:World} {g k:Nat} {v:Value} (h:w.grownBy wr (some g)):w.grownBy (wr.setCell ⟨g,k,none⟩ v) (some g):=by
 refine ⟨h.os,h.tape,h.output,by simpa [World.setCell] using h.size,fun i hi hr=>?_⟩
 rw [←h.block i hi hr]
 simp only [World.setCell,Array.getElem?_modify]
 rw [if_neg fun e=>hr (by rw [e])]
set_option maxHeartbeats 4000000 in
theorem delf_any (F:Nat) (cp:Array Value) (p:Int→Bool) (hent:∀ (args:Array Value) (w:World),(callFunc F args).run Tryz.prog w=.ok (.enter F args) w) (base:Nat) (v:Value) (L:List Int) (w:World) (hn:L.length≤3000) (hown:w.ownsRow base 3 1 v L.length (mapI L))
  (hF:∀ (x:Int) (w':World),x∈L→w.grownBy w' v.ownBlock→Calls Tryz.prog F (#[.int .i64 x] ++ cp) w' fun e w''=>e=.returned (.bool (p x))∧Below w'.heap.size w' w'') :
  Calls Tryz.prog 179 #[v,.func (.func F) #[] cp] w fun e w'=>(∃ A' c',e=.returned (.slice A' (L.filter fun x => !p x).length c')∧IntT w' A' c' (L.filter fun x => !p x))∧w.grownBy w' v.ownBlock:=by
 obtain ⟨A,c,rfl,hI⟩:=intT_own hown
 have hix:=indexm_any F cp p hent A c L w (by omega) hI.at fun x w' hx hB=>hF x w' hx (grown_belowR hB)
 rcases findFrom_cases (fun j=>p (L.getD j 0)) L.length 0 with ⟨h1,h2⟩ | ⟨k,h1,_,h3,h4,h5⟩
 ·have hf:(L.filter fun x => !p x)=L:=by
   rw [List.filter_eq_self]
   intro x hx
   obtain ⟨j,hj,rfl⟩:=List.getElem_of_mem hx
   have h:=h2 j (Nat.zero_le _) (by omega)
   simp only [List.getD_eq_getElem?_getD,List.getElem?_eq_getElem hj] at h
   simpa using h
  have HF:Hid ((L.filter fun x => !p x)=L):=hf
  have HI:Hid (IntT w A c L):=hI
  rw [h1] at hix
  rw [hf]
  generalize L.length=n at hix
  clear hF hown hI h1 h2 hf hent
  go_enter Tryz.func179,Tryz.ntmps179
  go_wp2_with fail
  refine hix.mono ?_
  rintro e w1 ⟨rfl,hb1⟩
  go_wp2_with fail
  go_ret
  exact ⟨⟨A,c,rfl,HI.out.later hb1⟩,grown_belowR hb1⟩
 ·have hk:k<L.length:=by omega
  obtain ⟨hLc,hc63,hI0 | ⟨g,cs0,fr0,rfl,hg0,-⟩⟩:=hI
  ·rw [hI0] at hk;simp at hk
  obtain ⟨cur,hg,hcs,hcur⟩:∃ cur:Array Value,w.heap[g]?=some (.cells cur 3 (0,0))∧cur.size=c∧∀ m,m<L.length→cur[m]?=some (.int .i64 (L.getD m 0)):=by
   rcases hown.2 with ⟨e,_⟩ | ⟨g',cap,cur,e,hb,hg,hc,hm,hs,ht⟩
   ·cases e
   ·cases e
    refine ⟨cur,hg,by omega,fun m hm=>?_⟩
    have h:(mapI L)[m]?=some (.int .i64 (L.getD m 0)):=by simp [mapI,List.getD,List.getElem?_eq_getElem hm]
    rw [←ht,Nat.mul_one,List.getElem?_take_of_lt hm] at h
    rw [←h]
    simp
  have HSt:Hid (DInv L p k (k+1) cur):=dinv_start hk h4 (fun j hj=>h5 j (Nat.zero_le _) hj) hcur
  have HF:Hid (∀ (x:Int) (w':World),x∈L→w.grownBy w' (some g)→Calls Tryz.prog F (#[.int .i64 x] ++ cp) w' fun e w''=>e=.returned (.bool (p x))∧Below w'.heap.size w' w''):=hF
  have HCs:Hid (cur.size=c):=hcs
  rw [h1] at hix
  obtain ⟨n,hnn⟩:∃ n,L.length=n:=⟨_,rfl⟩
  have HN:Hid (L.length=n):=hnn
  have HG0:Hid (w.heap[g]?=some (.cells cur 3 (0,0))):=hg
  rw [hnn] at hix hk hn hLc ⊢
  have hki:(k:Int)<(n:Int):=by omega
  have hnI:(n:Int)≤3000:=by omega
  have hne:((k:Int) == -1)=false:=by
   have:(k:Int)≠-1:=by omega
   simp only [beq_eq_false_iff_ne];exact this
  show Calls Tryz.prog 179 #[.slice (some ⟨g,0,none⟩) n c,.func (.func F) #[] cp] w fun e w'=>(∃ A' c',e=.returned (.slice A' (L.filter fun x => !p x).length c')∧IntT w' A' c' (L.filter fun x => !p x))∧w.grownBy w' (some g)
  clear hF hown hg0 hcur hcs h1 h3 h4 h5 hg hnn
  go_enter Tryz.func179,Tryz.ntmps179
  go_wp2_with fail
  refine hix.mono ?_
  rintro e w1 ⟨rfl,hb1⟩
  have HG1:Hid (w1.heap[g]?=some (.cells cur 3 (0,0))∧w.grownBy w1 (some g)):=⟨(hb1.block g (Array.getElem?_eq_some_iff.1 HG0.out).1).trans HG0.out,grown_belowR hb1⟩
  clear hb1 hix
  go_wp2_with fail
  go_loopg [5,6] (n-(k+1)) (fun gg s5 s6 wr => ∃ (i j:Nat) (cu:Array Value),j≤n∧gg=n-j∧s5=.int .i64 i∧s6=.int .i64 j∧Hid (DInv L p i j cu∧cu.size=c)∧wr.heap[g]?=some (.cells cu 3 (0,0))∧w.grownBy wr (some g))
  case atStart=>exact ⟨k,k+1,cur,by omega,rfl,rfl,by go_num,(⟨HSt.out,HCs.out⟩:_∧_),HG1.out.1,HG1.out.2⟩
  case round =>
   obtain ⟨i,j,cu,hj,rfl,rfl,rfl,HD,hg,hG⟩:=hrel
   have HG:Hid (wr.heap[g]?=some (.cells cu 3 (0,0))):=hg
   have HGr:Hid (w.grownBy wr (some g)):=hG
   have hij:=HD.out.1.1
   have hgl:g<wr.heap.size:=(Array.getElem?_eq_some_iff.1 hg).1
   have hcc:=HD.out.2
   by_cases hlt:j<n
   ·have hji:(j:Int)<(n:Int):=by omega
    have hii:(i:Int)<(n:Int):=by omega
    have cj:wr.cell? ⟨g,j,none⟩=some (.int .i64 (L.getD j 0)):=by
     rw [Lib.cell_of_heap hg]
     exact HD.out.1.2.2.2 j (Nat.le_refl _) (by rw [HN.out];exact hlt)
    have hcl:=HF.out (L.getD j 0) wr (by rw [List.getD_eq_getElem?_getD,List.getElem?_eq_getElem (by rw [HN.out];exact hlt)];exact List.getElem_mem _) hG
    cases hp:p (L.getD j 0)
    ·rw [hp] at hcl
     have HD2:Hid (DInv L p (i+1) (j+1) (cu.setIfInBounds i (.int .i64 (L.getD j 0)))∧(cu.setIfInBounds i (.int .i64 (L.getD j 0))).size=c):=⟨dinv_keep HD.out.1 (by rw [HN.out];exact hlt) (by rw [HN.out,hcc];exact hLc) hp,by simpa using hcc⟩
     generalize L.getD j 0=x at cj hcl HD2
     clear hg hG hp
     go_wp2_with fail
     refine hcl.mono ?_
     rintro e w2 ⟨rfl,hb2⟩
     have hg2:=(hb2.block g hgl).trans HG.out
     have ci:(w2.cell? ⟨g,i,none⟩).isSome=true:=by
      rw [Lib.cell_of_heap hg2,Array.getElem?_eq_getElem (by omega)]
      rfl
     obtain ⟨old,hold⟩:∃ old,w2.cell? ⟨g,i,none⟩=some old:=Option.isSome_iff_exists.1 ci
     have hfr:w2.frozen? ⟨g,i,none⟩=false:=Lib.frozen_of_heap hg2 i
     have HG2:Hid ((w2.setCell ⟨g,i,none⟩ (.int .i64 x)).heap[g]?=some (.cells (cu.setIfInBounds i (.int .i64 x)) 3 (0,0))):=by
      show _=_
      simp [World.setCell,Array.getElem?_modify,hg2]
     have HGr2:Hid (w.grownBy (w2.setCell ⟨g,i,none⟩ (.int .i64 x)) (some g)):=grown_setRu (grown_transR HGr.out (grown_belowR hb2))
     clear hb2 hg2 hcl ci
     go_wp2_with fail
     go_roundg (n-(j+1))
     case measure=>omega
     case rel=>exact ⟨i+1,j+1,_,by omega,rfl,by go_num,by go_num,HD2,HG2.out,HGr2.out⟩
    ·rw [hp] at hcl
     have HD2:Hid (DInv L p i (j+1) cu∧cu.size=c):=⟨dinv_skip HD.out.1 (by rw [HN.out];exact hlt) hp,hcc⟩
     generalize L.getD j 0=x at cj hcl
     clear hg hG hp
     go_wp2_with fail
     refine hcl.mono ?_
     rintro e w2 ⟨rfl,hb2⟩
     have HG2:Hid (w2.heap[g]?=some (.cells cu 3 (0,0))):=(hb2.block g hgl).trans HG.out
     have HGr2:Hid (w.grownBy w2 (some g)):=grown_transR HGr.out (grown_belowR hb2)
     clear hb2 hcl
     go_wp2_with fail
     go_roundg (n-(j+1))
     case measure=>omega
     case rel=>exact ⟨i,j+1,_,by omega,rfl,rfl,by go_num,HD2,HG2.out,HGr2.out⟩
   ·have hje:j=n:=by omega
    subst hje
    have hii:(i:Int)<(j:Int):=by omega
    have hcl:∀ ty,(Builtin.clear_ #[38] ty #[.slice (some ⟨g,0+i,none⟩) (j-i) (c-i)]).run Tryz.prog wr=.ok (.tuple #[]) (wr.setCells g (0+i) (List.replicate (j-i) (.int .i64 0))) :=
     fun ty=>Lib.run_clear_slice wr _ _ ty _ Tryz.underlying38 Tryz.zeroValue3 rfl rfl g (0+i) _ _ (by omega) (fun t ht=>by rw [Lib.cell_of_heap hg,Array.getElem?_eq_getElem (by omega)];rfl) (fun t _=>Lib.frozen_of_heap hg _)
    have HDn:Hid (DInv L p i j cu∧cu.size=c):=HD
    have hseg:=setCells_rowR g 3 (List.replicate (j-i) (.int .i64 0)) (0+i) cu wr hg (by simp;omega)
    obtain ⟨W,hW⟩:∃ W,wr.setCells g (0+i) (List.replicate (j-i) (Value.int .i64 0))=W:=⟨_,rfl⟩
    have HGW:Hid (w.grownBy W (some g)):=by rw [←hW,hseg];exact grown_transR hG (grown_setRowR wr g _)
    have HTW:Hid (IntT W (some ⟨g,0,none⟩) c (L.filter fun x => !p x)):=by
     have hf:(L.filter fun x => !p x)=(L.take j).filter fun x => !p x:=by rw [List.take_of_length_le (by rw [HN.out];exact Nat.le_refl _)]
     have hWg:W.heap[g]?=some (.cells (cu.toList.take (0+i) ++ List.replicate (j-i) (Value.int .i64 0) ++ cu.toList.drop (0+i+(List.replicate (j-i) (Value.int .i64 0)).length)).toArray 3 (0,0)):=by rw [←hW,hseg];exact setRow_heap wr g cu _ _ _ hg
     refine ⟨by rw [hf,HD.out.1.2.1];omega,hc63,Or.inr ⟨g,_,_,rfl,hWg,fun m hm=>?_⟩⟩
     rw [hf] at hm ⊢
     rw [HD.out.1.2.1] at hm
     rw [Lib.cell_of_heap hWg,←HD.out.1.2.2.1 m hm]
     simp only [List.getElem?_toArray]
     rw [List.append_assoc,List.getElem?_append_left (by simp;omega),List.getElem?_take_of_lt (by omega)]
     simp
    have HFl:Hid ((L.filter fun x => !p x).length=i):=by
     show _=_
     rw [←HD.out.1.2.1,List.take_of_length_le (by rw [HN.out];exact Nat.le_refl _)]
    rw [hW,Nat.zero_add] at hcl
    have hcI:(j:Int)≤(c:Int):=by omega
    clear hg hG hseg hW
    go_wp2
    go_ret
    exact ⟨⟨some ⟨g,0,none⟩,c,by rw [HFl.out];rfl,HTW.out⟩,HGW.out⟩
end Go.Proofs.YtfgegmpoejilnaaGreatDoor
