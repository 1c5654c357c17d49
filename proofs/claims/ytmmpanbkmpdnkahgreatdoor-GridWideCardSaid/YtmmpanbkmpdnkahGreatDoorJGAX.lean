/-
  What the members of a dim need, what is wrong with a dim with all its formulas, and what both readings of a formula's refs come to: plain data.
-/
import Derived.Test.YtmmpanbkmpdnkahGreatDoorJGAU
namespace Go.Proofs.YtmmpanbkmpdnkahGreatDoor
def whL (d:Dm) (nm:List UInt8):Int:=findFrom (fun j=>same (d.mem j).name ⟨nm.toArray⟩) d.n 0
theorem same_bytesL (s:ByteArray) (nm:List UInt8):same s ⟨nm.toArray⟩=decide (s.data.toList=nm):=by
 unfold same
 rw [ByteArray.toList_eq,ByteArray.toList_eq]
 by_cases h:s.data.toList=nm
 ·simp [h]
 ·simp [h]
theorem whL_cases (d:Dm) (nm:List UInt8):(whL d nm = -1∧∀ j,j<d.n→(d.mem j).name.data.toList≠nm)∨∃ k:Nat,whL d nm=(k:Int)∧k<d.n∧(d.mem k).name.data.toList=nm:=by
 unfold whL
 rcases findFrom_cases (fun j=>same (d.mem j).name ⟨nm.toArray⟩) d.n 0 with ⟨h1,h2⟩ | ⟨k,h1,_,h3,h4,_⟩
 ·refine Or.inl ⟨h1,fun j hj=>?_⟩
  have:=h2 j (Nat.zero_le _) (by omega)
  rw [same_bytesL] at this
  exact of_decide_eq_false this
 ·refine Or.inr ⟨k,h1,by omega,?_⟩
  rw [same_bytesL] at h4
  exact of_decide_eq_true h4
theorem name_once {d:Dm} (h:(dimErr d).2=0) {j k:Nat} (hj:j<d.n) (hk:k<d.n) (e:(d.mem j).name.data.toList=(d.mem k).name.data.toList):j=k:=by
 obtain ⟨_,_,_,hall⟩:=dimErr_right h
 have hs:∀ {a b:Nat},(d.mem a).name.data.toList=(d.mem b).name.data.toList→same (d.mem a).name (d.mem b).name=true:=fun {a b} e=>by
  unfold same
  rw [ByteArray.toList_eq,ByteArray.toList_eq,e]
  simp
 rcases Nat.lt_trichotomy j k with h1 | h1 | h1
 ·have:=memErr_noclash (hall k hk)
  have:=findFrom_nonneg (q:=fun i=>same (d.mem i).name (d.mem k).name) h1 (hs e)
  omega
 ·exact h1
 ·have:=memErr_noclash (hall j hj)
  have:=findFrom_nonneg (q:=fun i=>same (d.mem i).name (d.mem j).name) h1 (hs e.symm)
  omega
theorem whL_own {d:Dm} (h:(dimErr d).2=0) {k:Nat} (hk:k<d.n):whL d (d.mem k).name.data.toList=(k:Int):=by
 rcases whL_cases d (d.mem k).name.data.toList with ⟨_,h2⟩ | ⟨m,h1,h2,h3⟩
 ·exact absurd rfl (h2 k hk)
 ·rw [h1,name_once h h2 hk h3]
def nmsOf (d:Dm) (i:Nat):List (List UInt8):=nmsTo (prsL (d.mem i).formula) (prsL (d.mem i).formula).length
theorem nms_has {l:List Nd} {x:Nd} (hx:x∈l) (h:x.op=2):x.name.data.toList∈nmsTo l l.length:=by
 unfold nmsTo
 rw [List.take_length]
 exact List.mem_map.2 ⟨x,List.mem_filter.2 ⟨hx,by simp [h]⟩,rfl⟩
def mErr (d:Dm) (i:Nat):Int:=if (d.mem i).formula.size=0 then 0 else if prsE (d.mem i).formula≠0 then prsE (d.mem i).formula else if (nmsOf d i).any (fun nm=>decide (whL d nm<0))=true then 5 else 0
def sgB (d:Dm) (k:Int):Bool:=decide ((d.mem k.toNat).sign≠0)
def needB (d:Dm) (i k:Nat):Bool:=if (d.mem i).formula.size=0 then partB d.mem i k && sgB d k else (nmsOf d i).contains (d.mem k).name.data.toList
def mNd (d:Dm) (i:Nat):List Int:=selTo (needB d i) d.n
theorem mNd_rise (d:Dm) (i:Nat):(mNd d i).Pairwise (· < ·):=sel_rise _ _
theorem mNd_in {d:Dm} {i:Nat} {x:Int} (h:x∈mNd d i):0≤x∧x<(d.n:Int):=by
 obtain ⟨m,rfl,h2,-⟩:=selTo_mem x h
 omega
theorem mNd_len (d:Dm) (i:Nat):(mNd d i).length≤d.n:=selTo_len _ _
def ndL (d:Dm):List (List Int):=(List.range d.n).map (mNd d)
theorem ndL_len (d:Dm):(ndL d).length=d.n:=by simp [ndL]
theorem ndL_at {d:Dm} {i:Nat} (h:i<d.n):(ndL d).getD i []=mNd d i:=by
 unfold ndL
 simp [List.getD,h]
theorem ndL_inn (d:Dm):Inn (ndL d):=fun i hi x hx=>by
 rw [ndL_len] at hi ⊢
 rw [ndL_at hi] at hx
 exact mNd_in hx
def badM (d:Dm) (i:Nat):Bool:=decide (mErr d i≠0)
noncomputable def rErr (d:Dm):Int×Int :=
 if (dimErr d).2≠0 then dimErr d
 else if 0≤findFrom (badM d) d.n 0 then (findFrom (badM d) d.n 0,mErr d (findFrom (badM d) d.n 0).toNat)
 else if 0≤findFrom (cycB (ndL d)) d.n 0 then (findFrom (cycB (ndL d)) d.n 0,8)
 else (-1,0)
theorem re0 {d:Dm} (h:(dimErr d).2≠0):rErr d=dimErr d:=by unfold rErr;rw [if_pos h]
theorem re1 {d:Dm} (h:(dimErr d).2=0) {i:Nat} (hi:i<d.n) (he:mErr d i≠0) (hf:∀ j,j<i→mErr d j=0):rErr d=((i:Int),mErr d i):=by
 have e:findFrom (badM d) d.n 0=(i:Int):=findFrom_at (Nat.zero_le _) (by omega) (decide_eq_true he) fun j _ hj=>decide_eq_false (by simpa using hf j hj)
 unfold rErr
 rw [if_neg (by simpa using h),e,if_pos (by omega),Int.toNat_natCast]
theorem re2a {d:Dm} (hf:∀ j,j<d.n→mErr d j=0):findFrom (badM d) d.n 0 = -1:=findFrom_none fun j _ hj=>decide_eq_false (by simpa using hf j (by omega))
theorem re2 {d:Dm} (h:(dimErr d).2=0) (hf:∀ j,j<d.n→mErr d j=0) {i:Nat} (hi:i<d.n) (hc:cycB (ndL d) i=true) (hn:∀ j,j<i→cycB (ndL d) j=false):rErr d=((i:Int),8):=by
 unfold rErr
 rw [if_neg (by simpa using h),re2a hf,if_neg (by omega),findFrom_at (Nat.zero_le _) (by omega) hc fun j _ hj=>hn j hj,if_pos (by omega)]
theorem re3 {d:Dm} (h:(dimErr d).2=0) (hf:∀ j,j<d.n→mErr d j=0) (hn:∀ j,j<d.n→cycB (ndL d) j=false):rErr d=(-1,0):=by
 unfold rErr
 rw [if_neg (by simpa using h),re2a hf,if_neg (by omega),findFrom_none fun j _ hj=>hn j (by omega),if_neg (by omega)]
theorem rErr_right {d:Dm} (h:(rErr d).2=0):(dimErr d).2=0∧(∀ j,j<d.n→mErr d j=0)∧(∀ j,j<d.n→cycB (ndL d) j=false)∧(rErr d).1 = -1:=by
 by_cases h0:(dimErr d).2=0
 ·rcases findFrom_cases (badM d) d.n 0 with ⟨_,h2⟩ | ⟨k,_,_,h3,h4,h5⟩
  ·have hm:∀ j,j<d.n→mErr d j=0:=fun j hj=>by
    have:=h2 j (Nat.zero_le _) (by omega)
    unfold badM at this
    simpa using this
   rcases findFrom_cases (cycB (ndL d)) d.n 0 with ⟨_,h6⟩ | ⟨k,_,_,h3,h4,h5⟩
   ·have hc:∀ j,j<d.n→cycB (ndL d) j=false:=fun j hj=>h6 j (Nat.zero_le _) (by omega)
    exact ⟨h0,hm,hc,by rw [re3 h0 hm hc]⟩
   ·rw [re2 h0 hm (by omega) h4 fun j hj=>h5 j (Nat.zero_le _) hj] at h
    cases h
  ·have hb:mErr d k≠0:=of_decide_eq_true h4
   rw [re1 h0 (by omega) hb fun j hj=>by have:=h5 j (Nat.zero_le _) hj;unfold badM at this;simpa using this] at h
   exact absurd h hb
 ·rw [re0 h0] at h
  exact absurd h h0
theorem rErr_acyc {d:Dm} (h:(rErr d).2=0):∀ i:Nat,i<(ndL d).length→cycB (ndL d) i=false:=fun i hi=>(rErr_right h).2.2.1 i (by rw [←ndL_len d];exact hi)
theorem need_names {d:Dm} (hd:(dimErr d).2=0) {i:Nat} (hf:(d.mem i).formula.size≠0) (he:mErr d i=0) (z:Int):z∈mNd d i↔∃ nm∈nmsOf d i,z=whL d nm:=by
 have hall:∀ nm∈nmsOf d i,0≤whL d nm:=fun nm hnm=>by
  unfold mErr at he
  rw [if_neg hf] at he
  split at he
  ·rename_i h1;exact absurd he h1
  ·split at he
   ·cases he
   ·rename_i h2
    rw [List.any_eq_true] at h2
    exact Decidable.byContradiction fun h3=>h2 ⟨nm,hnm,decide_eq_true (by omega)⟩
 constructor
 ·intro h
  obtain ⟨m,rfl,h2,h3⟩:=selTo_mem z h
  unfold needB at h3
  rw [if_neg hf,List.contains_iff_mem] at h3
  exact ⟨_,h3,(whL_own hd h2).symm⟩
 ·rintro ⟨nm,h1,rfl⟩
  rcases whL_cases d nm with ⟨h2,_⟩ | ⟨k,h2,h3,h4⟩
  ·have:=hall nm h1;omega
  ·rw [h2]
   refine sel_has h3 ?_
   unfold needB
   rw [if_neg hf,List.contains_iff_mem,h4]
   exact h1
theorem parts_need {d:Dm} {i:Nat} (hf:(d.mem i).formula.size=0):(partsOf d.mem d.n i).filter (sgB d)=mNd d i:=by
 refine selru_filter _ _ _ _ fun j _=>?_
 unfold needB
 rw [if_pos hf,Bool.and_eq_true]
/-! sorted, each once -/
theorem srt_le (zs:List (List UInt8)):(zs.mergeSort fun x y=>decide (x≤y)).Pairwise (fun a b=>a≤b):=by
 have h:=List.pairwise_mergeSort (le:=fun x y:List UInt8=>decide (x≤y)) (fun a b c h k=>by simp at *;exact List.le_trans h k) (fun a b=>by simp;exact List.le_total a b) zs
 exact h.imp fun h=>by simpa using h
theorem srt_ints (zs:List Int):(zs.mergeSort fun x y=>decide (x≤y)).Pairwise (fun a b=>a≤b):=by
 have h:=List.pairwise_mergeSort (le:=fun x y:Int=>decide (x≤y)) (fun a b c h k=>by simp at *;omega) (fun a b=>by simp;omega) zs
 exact h.imp fun h=>by simpa using h
theorem comp_mem (zs:List (List UInt8)) (x:List UInt8):x∈Lib.compact zs↔x∈zs:=by
 unfold Lib.compact
 have h:∀ m,m≤zs.length→∀ x,x∈Lib.compactUpTo zs.toArray m↔∃ j,j<m∧zs.toArray[j]! = x:=by
  intro m
  induction m with
  | zero=>intro _ x;simp [Lib.compactUpTo]
  | succ m ih =>
   intro hm x
   rw [Lib.compactUpTo_succ,List.mem_append,ih (by omega)]
   constructor
   ·rintro (⟨j,h1,h2⟩ | h1)
    ·exact ⟨j,by omega,h2⟩
    ·split at h1
     ·exact ⟨m,by omega,(List.mem_singleton.1 h1).symm⟩
     ·cases h1
   ·rintro ⟨j,h1,h2⟩
    by_cases e:j<m
    ·exact Or.inl ⟨j,e,h2⟩
    ·have e:j=m:=by omega
     subst e
     by_cases hk:Lib.keeps zs.toArray j=true
     ·exact Or.inr (by rw [if_pos hk,←h2];simp)
     ·unfold Lib.keeps at hk
      rw [decide_eq_true_iff] at hk
      have h3:j≠0:=fun e=>hk (Or.inl e)
      have h4:zs.toArray[j]! = zs.toArray[j-1]! := Decidable.byContradiction fun e=>hk (Or.inr e)
      exact Or.inl ⟨j-1,by omega,by rw [←h4];exact h2⟩
 rw [h _ (Nat.le_refl _)]
 constructor
 ·rintro ⟨j,h1,rfl⟩
  rw [getElem!_pos _ j (by simpa using h1)]
  simp
 ·intro hx
  obtain ⟨j,hj,rfl⟩:=List.getElem_of_mem hx
  exact ⟨j,hj,by rw [getElem!_pos _ j (by simpa using hj)];simp⟩
theorem comp_nodup (zs:List (List UInt8)) (hs:zs.Pairwise (fun a b=>a≤b)):(Lib.compact zs).Nodup:=by
 unfold Lib.compact
 have hle:∀ i j,i≤j→j<zs.length→zs.toArray[i]!≤zs.toArray[j]! := fun i j hij hj=>by
  rw [getElem!_pos _ i (by simp;omega),getElem!_pos _ j (by simpa using hj)]
  by_cases e:i=j
  ·subst e;exact List.le_refl _
  ·have:=List.pairwise_iff_getElem.1 hs i j (by omega) hj (by omega)
   simpa using this
 have h:∀ m,m≤zs.length→(Lib.compactUpTo zs.toArray m).Nodup∧∀ x∈Lib.compactUpTo zs.toArray m,∃ j,j<m∧zs.toArray[j]! = x:=by
  intro m
  induction m with
  | zero=>intro _;exact ⟨by simp [Lib.compactUpTo],fun x hx=>by simp [Lib.compactUpTo] at hx⟩
  | succ m ih =>
   intro hm
   obtain ⟨h1,h2⟩:=ih (by omega)
   rw [Lib.compactUpTo_succ]
   refine ⟨?_,fun x hx=>?_⟩
   ·rw [List.nodup_append]
    refine ⟨h1,by split <;> simp,fun a ha b hb e=>?_⟩
    split at hb
    ·rename_i hk
     rw [List.mem_singleton.1 hb] at e
     obtain ⟨j,h3,h4⟩:=h2 a ha
     unfold Lib.keeps at hk
     rcases of_decide_eq_true hk with h5 | h5
     ·omega
     ·refine h5 (List.le_antisymm ?_ (hle (m-1) m (by omega) (by omega)))
      rw [←e,←h4]
      exact hle j (m-1) (by omega) (by omega)
    ·cases hb
   ·rcases List.mem_append.1 hx with hx | hx
    ·obtain ⟨j,h3,h4⟩:=h2 x hx
     exact ⟨j,by omega,h4⟩
    ·split at hx
     ·exact ⟨m,by omega,(List.mem_singleton.1 hx).symm⟩
     ·cases hx
 exact (h _ (Nat.le_refl _)).1
theorem form_read {s:ByteArray} (h:prsE s=0):formErr (prsL s)=0:=by
 have hL:prsL s=nodesP s:=by unfold prsL;rw [if_pos h]
 rw [hL]
 unfold prsE at h
 split at h
 ·split at h <;> cases h
 ·split at h
  ·exact h
  ·cases h
theorem refs_once {l:List Nd} (h:formErr l=0):(refsP l).Nodup∧∀ x,x∈refsP l↔x∈nmsTo l l.length:=by
 unfold refsP
 rw [if_pos h]
 refine ⟨comp_nodup _ (srt_le _),fun x=>?_⟩
 rw [comp_mem]
 exact (List.mergeSort_perm _ _).mem_iff
theorem sort_need {d:Dm} (hd:(dimErr d).2=0) {i:Nat} (hf:(d.mem i).formula.size≠0) (he:mErr d i=0) (hp:prsE (d.mem i).formula=0):(((refsP (prsL (d.mem i).formula)).map (whL d)).mergeSort fun x y=>decide (x≤y))=mNd d i:=by
 obtain ⟨h1,h2⟩:=refs_once (form_read hp)
 have hm:∀ z,z∈(refsP (prsL (d.mem i).formula)).map (whL d)↔z∈mNd d i:=fun z=>by
  rw [need_names hd hf he,List.mem_map]
  constructor
  ·rintro ⟨nm,h3,rfl⟩;exact ⟨nm,(h2 nm).1 h3,rfl⟩
  ·rintro ⟨nm,h3,rfl⟩;exact ⟨nm,(h2 nm).2 h3,rfl⟩
 have hnd:((refsP (prsL (d.mem i).formula)).map (whL d)).Pairwise (fun a b=>a≠b):=by
  rw [List.pairwise_map]
  have hin:∀ nm∈refsP (prsL (d.mem i).formula),0≤whL d nm:=fun nm h=>(mNd_in ((hm _).1 (List.mem_map.2 ⟨nm,h,rfl⟩))).1
  refine List.Pairwise.imp_of_mem (R:=fun a b=>a≠b) (fun {a b} ha hb hab e=>?_) h1
  rcases whL_cases d a with ⟨h3,_⟩ | ⟨k,h3,_,h4⟩
  ·have:=hin a ha;omega
  ·rcases whL_cases d b with ⟨h5,_⟩ | ⟨m,h5,_,h6⟩
   ·have:=hin b hb;omega
   ·have:k=m:=by omega
    exact hab (by rw [←h4,←h6,this])
 refine rise_eq _ _ ?_ (mNd_rise d i) fun z=>?_
 ·have hp2:=(List.mergeSort_perm ((refsP (prsL (d.mem i).formula)).map (whL d)) (fun x y=>decide (x≤y)))
  have hn2:List.Pairwise (fun a b=>a≠b) (((refsP (prsL (d.mem i).formula)).map (whL d)).mergeSort fun x y=>decide (x≤y)):=hp2.symm.pairwise hnd fun {a b} h e=>h e.symm
  exact ((srt_ints _).and hn2).imp fun h=>by omega
 ·rw [(List.mergeSort_perm _ _).mem_iff,hm]
end Go.Proofs.YtmmpanbkmpdnkahGreatDoor
namespace Go.Proofs.YtmmpanbkmpdnkahGreatDoor
open Go.ChangeShapes Go.WideShapes Go.ChangeAt Go.RowKit
open Go.Sort (putRow Holds grow holds_putRow)
set_option maxRecDepth 20000
theorem whL_same (d:Dm) (s:ByteArray):findFrom (fun j=>same (d.mem j).name s) d.n 0=whL d s.data.toList:=by
 unfold whL
 rw [Array.toArray_toList]
theorem is1_in:EntersO 273:=fun args w=>by simp [callFunc,Tryz.func273];rfl
theorem is1_any (m:Mem) (s:ByteArray) (q:Nat) (w:World) (hq:q<w.heap.size) (h:w.cell? ⟨q,0,none⟩=some (.string s)):Calls Tryz.prog 273 #[memV m,.pointer (some ⟨q,0,none⟩)] w fun e w'=>e=.returned (.bool (same m.name s))∧Below w.heap.size w w':=by
 unfold memV
 go_enter Tryz.func273,Tryz.ntmps273
 go_wp2_with fail
 go_ret
 exact ⟨by simp [same],by go_grown⟩
theorem is_any (d:Dm) (b o cap q:Nat) (s:ByteArray) (w:World) (hn:d.n≤12) (hM:MemsAt w b o d.n d.mem) (hq:q<w.heap.size) (hc:w.cell? ⟨q,2,none⟩=some (.slice (some ⟨b,o,none⟩) d.n cap)) :
  Calls Tryz.prog 272 #[.string s,.pointer (some ⟨q,0,none⟩)] w fun e w'=>e=.returned (.int .i64 (whL d s.data.toList))∧Below w.heap.size w w':=by
 obtain ⟨W,hW⟩:∃ W,w.alloc (.cells #[.string s] 9)=W:=⟨_,rfl⟩
 have hB0:Below w.heap.size w W:=by rw [←hW];exact (Below.refl _ _).alloc (Nat.le_refl _) _
 have hs0:W.heap.size=w.heap.size+1:=by rw [←hW];simp
 have hc0:W.cell? ⟨w.heap.size,0,none⟩=some (.string s):=by
  have h:W.heap[w.heap.size]?=some (.cells #[.string s] 9 (0,0)):=by rw [←hW];exact heap_alloc_new _ _
  rw [Lib.cell_of_heap h]
  rfl
 have hc2:=(hB0.cell (p:=⟨q,2,none⟩) hq).trans hc
 have hix:=index_mems 273 w.heap.size is1_in b o d.n cap d.mem (fun j=>same (d.mem j).name s) W hn (hM.later hB0) (fun j w' _ hw'=>is1_any (d.mem j) s w.heap.size w' (by have:=hw'.size;omega) ((hw'.cell (p:=⟨w.heap.size,0,none⟩) (by show w.heap.size<_;omega)).trans hc0))
 rw [whL_same] at hix
 generalize whL d s.data.toList=r at hix ⊢
 have HB0:Hid (Below w.heap.size w W):=hB0
 clear hM hc hB0 hs0 hc0
 go_enter Tryz.func272,Tryz.ntmps272
 go_wp2_with fail
 refine hix.mono ?_
 rintro e w1 ⟨rfl,hb1⟩
 go_wp2_with fail
 go_ret
 exact ⟨rfl,onB HB0.out hb1⟩
set_option maxHeartbeats 1000000 in
theorem indexs_any (F:Nat) (cap:Array Value) (p:List UInt8→Bool) (hent:∀ (args:Array Value) (w:World),(callFunc F args).run Tryz.prog w=.ok (.enter F args) w) (A:Option Addr) (c:Nat) (L:List (List UInt8)) (w:World) (hn:L.length≤200) (hL:StrsV w A c L)
  (hF:∀ (x:List UInt8) (w':World),Below w.heap.size w w'→Calls Tryz.prog F (#[.string ⟨x.toArray⟩] ++ cap) w' fun e w''=>e=.returned (.bool (p x))∧Below w'.heap.size w' w'') :
  Calls Tryz.prog 323 #[.slice A L.length c,.func (.func F) #[] cap] w fun e w'=>e=.returned (.int .i64 (findFrom (fun j=>p (L.getD j [])) L.length 0))∧Below w.heap.size w w':=by
 obtain ⟨hc,-,h0 | ⟨b,o,rfl,hbw,hcell⟩⟩:=hL
 ·subst h0
  simp only [List.length_nil]
  go_enter Tryz.func323,Tryz.ntmps323
  go_wp2_with fail
  refine wp_loop_rounds 1 ?_
  rw [rounds_succ]
  go_wp2_with fail
  go_ret
  exact ⟨rfl,Below.refl _ _⟩
 ·have HC:Hid (∀ j,j<L.length→w.cell? ⟨b,o+j,none⟩=some (.string ⟨(L.getD j []).toArray⟩)):=hcell
  have HF:Hid (∀ (x:List UInt8) (w':World),Below w.heap.size w w'→Calls Tryz.prog F (#[.string ⟨x.toArray⟩] ++ cap) w' fun e w''=>e=.returned (.bool (p x))∧Below w'.heap.size w' w''):=hF
  obtain ⟨pj,hpj⟩:∃ pj:Nat→Bool,pj=fun j=>p (L.getD j []):=⟨_,rfl⟩
  have HP:Hid (∀ j,pj j=p (L.getD j [])):=fun j=>by rw [hpj]
  rw [←hpj]
  generalize hnn:L.length=n at hn hc HC
  clear hcell hpj hnn hF
  go_enter Tryz.func323,Tryz.ntmps323
  go_wp2_with fail
  go_loopg [8] n (fun g s8 wr => ∃ (k:Nat),k≤n∧g=n-k∧s8=.int .i64 k∧findFrom pj (n-k) k=findFrom pj n 0∧Below w.heap.size w wr)
  case atStart=>exact ⟨0,Nat.zero_le _,rfl,rfl,rfl,Below.refl _ _⟩
  case round =>
   obtain ⟨k,hk,rfl,rfl,hf,hBw⟩:=hrel
   have HQ:Hid (findFrom pj (n-k) k=findFrom pj n 0):=hf
   have HW:Hid (Below w.heap.size w wr):=hBw
   clear hf
   by_cases hlt:k<n
   ·have hki:(k:Int)<(n:Int):=by omega
    have hcx:=(hBw.cell (p:=⟨b,o+k,none⟩) hbw).trans (HC.out k hlt)
    have hn':(n:Int)≤200:=by omega
    have hpk:=HP.out k
    have HSK:Hid (n-k=(n-(k+1))+1):=by show _=_;omega
    have hbd:=HF.out (L.getD k []) wr hBw
    rw [←hpk] at hbd
    generalize (⟨(L.getD k []).toArray⟩:ByteArray)=x at hcx hbd
    clear hBw hpk
    cases hb:pj k
    ·rw [hb] at hbd
     have HK:Hid (pj k=false):=hb
     clear hb
     go_wp2_with fail
     refine hbd.mono ?_
     rintro e w1 ⟨rfl,hb1⟩
     go_wp2_with fail
     go_roundg (n-(k+1))
     case measure=>omega
     case rel=>exact ⟨k+1,by omega,rfl,by go_num,by rw [←HQ.out,HSK.out,findFrom_miss _ HK.out],onB HW.out hb1⟩
    ·rw [hb] at hbd
     have HK:Hid (pj k=true):=hb
     clear hb
     go_wp2_with fail
     refine hbd.mono ?_
     rintro e w1 ⟨rfl,hb1⟩
     go_wp2_with fail
     go_ret
     exact ⟨by rw [←HQ.out,HSK.out,findFrom_hit _ HK.out];rfl,onB HW.out hb1⟩
   ·have hke:k=n:=by omega
    subst hke
    go_wp2_with fail
    go_ret
    exact ⟨by rw [←HQ.out,Nat.sub_self];rfl,HW.out⟩
theorem any_findS (p:List UInt8→Bool) (L:List (List UInt8)):decide (0≤findFrom (fun j=>p (L.getD j [])) L.length 0)=L.any p:=by
 rcases findFrom_cases (fun j=>p (L.getD j [])) L.length 0 with ⟨h1,h2⟩ | ⟨m,h1,_,h3,h4,_⟩
 ·rw [h1,decide_eq_false (by omega)]
  symm
  rw [List.any_eq_false]
  intro x hx
  obtain ⟨i,hi,rfl⟩:=List.getElem_of_mem hx
  have:=h2 i (Nat.zero_le _) (by omega)
  simp only [List.getD,List.getElem?_eq_getElem hi,Option.getD_some] at this
  simp [this]
 ·rw [h1,decide_eq_true (by omega)]
  symm
  rw [List.any_eq_true]
  have hm:m<L.length:=by omega
  refine ⟨L[m],List.getElem_mem hm,?_⟩
  simpa only [List.getD,List.getElem?_eq_getElem hm,Option.getD_some] using h4
theorem scontf_any (F:Nat) (cap:Array Value) (p:List UInt8→Bool) (hent:∀ (args:Array Value) (w:World),(callFunc F args).run Tryz.prog w=.ok (.enter F args) w) (A:Option Addr) (c:Nat) (L:List (List UInt8)) (w:World) (hn:L.length≤200) (hL:StrsV w A c L)
  (hF:∀ (x:List UInt8) (w':World),Below w.heap.size w w'→Calls Tryz.prog F (#[.string ⟨x.toArray⟩] ++ cap) w' fun e w''=>e=.returned (.bool (p x))∧Below w'.heap.size w' w'') :
  Calls Tryz.prog 303 #[.slice A L.length c,.func (.func F) #[] cap] w fun e w'=>e=.returned (.bool (L.any p))∧Below w.heap.size w w':=by
 have h:=indexs_any F cap p hent A c L w hn hL hF
 rw [←any_findS]
 generalize findFrom (fun j=>p (L.getD j [])) L.length 0=r at *
 clear hF hL
 go_enter Tryz.func303,Tryz.ntmps303
 go_wp2_with fail
 refine h.mono ?_
 rintro e w1 ⟨rfl,hb1⟩
 go_wp2_with fail
 go_ret
 exact ⟨rfl,hb1⟩
def IsF (d:Dm) (q:Nat) (w:World):Prop := ∀ (s:ByteArray) (w':World),Below w.heap.size w w'→Calls Tryz.prog 272 #[.string s,.pointer (some ⟨q,0,none⟩)] w' fun e w''=>e=.returned (.int .i64 (whL d s.data.toList))∧Below w'.heap.size w' w''
theorem IsF.later {d:Dm} {q:Nat} {w w1:World} (h:IsF d q w) (hB:Below w.heap.size w w1):IsF d q w1:=fun s w' hB'=>h s w' (onB hB hB')
def isV (q:Nat):Value:=.func (.func 272) #[] #[.pointer (some ⟨q,0,none⟩)]
theorem ent_refs1 (args:Array Value) (w:World):(callFunc 304 args).run Tryz.prog w=.ok (.enter 304 args) w:=by simp [go_sem]
theorem refs1_any (d:Dm) (q r:Nat) (x:List UInt8) (w:World) (hI:IsF d q w) (hr:w.cell? ⟨r,0,none⟩=some (isV q)):Calls Tryz.prog 304 #[.string ⟨x.toArray⟩,.pointer (some ⟨r,0,none⟩)] w fun e w'=>e=.returned (.bool (decide (whL d x<0)))∧Below w.heap.size w w':=by
 have h:=hI ⟨x.toArray⟩ w (Below.refl _ _)
 rw [show (⟨x.toArray⟩:ByteArray).data.toList=x by simp] at h
 generalize whL d x=r1 at *
 generalize (⟨x.toArray⟩:ByteArray)=s at *
 unfold isV at hr
 clear hI
 go_enter Tryz.func304,Tryz.ntmps304
 go_wp2_with fail
 refine h.mono ?_
 rintro e w1 ⟨rfl,hb1⟩
 go_wp2_with fail
 go_ret
 exact ⟨rfl,hb1⟩
def rfE (d:Dm) (s:ByteArray):Int:=if prsE s≠0 then prsE s else if (nmsTo (prsL s) (prsL s).length).any (fun nm=>decide (whL d nm<0))=true then 5 else 0
def rfL (d:Dm) (s:ByteArray):List Int:=if rfE d s=0 then ((refsP (prsL s)).map (whL d)).mergeSort (fun x y=>decide (x≤y)) else []
theorem rf0 {d:Dm} {s:ByteArray} (h:prsE s≠0):rfE d s=prsE s∧rfL d s=[]:=by
 have e:rfE d s=prsE s:=by unfold rfE;rw [if_pos h]
 exact ⟨e,by unfold rfL;rw [e,if_neg h]⟩
theorem any_refs {l:List Nd} (h:formErr l=0) (p:List UInt8→Bool):(refsP l).any p=(nmsTo l l.length).any p:=by
 obtain ⟨-,h2⟩:=refs_once h
 rw [Bool.eq_iff_iff,List.any_eq_true,List.any_eq_true]
 constructor
 ·rintro ⟨x,hx,hp⟩;exact ⟨x,(h2 x).1 hx,hp⟩
 ·rintro ⟨x,hx,hp⟩;exact ⟨x,(h2 x).2 hx,hp⟩
theorem rf1 {d:Dm} {s:ByteArray} (h:prsE s=0) (ha:(refsP (prsL s)).any (fun nm=>decide (whL d nm<0))=true):rfE d s=5∧rfL d s=[]:=by
 rw [any_refs (form_read h)] at ha
 have e:rfE d s=5:=by unfold rfE;rw [if_neg (by simpa using h),if_pos ha]
 exact ⟨e,by unfold rfL;rw [e,if_neg (by decide)]⟩
theorem rf2 {d:Dm} {s:ByteArray} (h:prsE s=0) (ha:(refsP (prsL s)).any (fun nm=>decide (whL d nm<0))=false):rfE d s=0∧rfL d s=((refsP (prsL s)).map (whL d)).mergeSort (fun x y=>decide (x≤y)):=by
 rw [any_refs (form_read h)] at ha
 have e:rfE d s=0:=by unfold rfE;rw [if_neg (by simpa using h),if_neg (by rw [ha];decide)]
 exact ⟨e,by unfold rfL;rw [if_pos e]⟩
theorem refs_len {l:List Nd} (h:formErr l=0):(refsP l).length≤30:=by
 obtain ⟨-,hl,-⟩:=form_right h
 unfold refsP
 rw [if_pos h]
 refine Nat.le_trans (compact_len _) ?_
 rw [List.length_mergeSort]
 exact Nat.le_trans (nms_len _ _) hl
theorem put_offI {w:World} {g k:Nat} {d:Array Int} (h:k≠g):(putRow (Value.int .i64) w g 0 d).heap[k]?=w.heap[k]?:=by
 unfold putRow Sort.mapBlock
 simp only [Array.getElem?_modify]
 rw [if_neg (fun e=>h e.symm)]
theorem sorted_belowI {w0 w:World} {g n:Nat} {d:Array Int} {os:Array Obj} (h:Below w0.heap.size w0 w) (hg:w0.heap.size≤g):Below w0.heap.size w0 (grow (putRow (Value.int .i64) (Sort.ahead w n) g 0 d) os):=by
 refine ⟨h.os,h.tape,h.output,by have:=h.size;simp;omega,fun k hk=>?_⟩
 have hs:=h.size
 rw [Sort.heap_grow_old _ _ (by simp;omega),put_offI (by omega)]
 exact h.block k hk
theorem sorted_intT {w:World} {g n c:Nat} {zs ys:List Int} {cur:Array Value} {fr:Nat×Nat} {os:Array Obj} (hg:w.heap[g]?=some (.cells cur 3 fr)) (hH:Holds (Value.int .i64) w g 0 zs.toArray) (hl:ys.length=zs.length) (hc:zs.length≤c) (hc2:c≤9223372036854775807) :
  IntT (grow (putRow (Value.int .i64) (Sort.ahead w n) g 0 ys.toArray) os) (some ⟨g,0,none⟩) c ys:=by
 have hlt:g<w.heap.size:=(Array.getElem?_eq_some_iff.1 hg).1
 have hb:(grow (putRow (Value.int .i64) (Sort.ahead w n) g 0 ys.toArray) os).heap[g]?=some (.cells (Sort.putCells (Value.int .i64) 0 ys.toArray cur) 3 fr):=by
  rw [Sort.heap_grow_old _ _ (by simpa using hlt)]
  unfold putRow Sort.mapBlock
  have hg2:(Sort.ahead w n).heap[g]?=some (.cells cur 3 fr):=hg
  simp only [Array.getElem?_modify,if_true,hg2,Option.map_some]
  rfl
 have hH2:=Sort.holds_grow (Value.int .i64) _ os g 0 _ (by simpa using hlt) (holds_putRow (Value.int .i64) (Sort.ahead w n) g 0 zs.toArray ys.toArray hH (by simp [hl]))
 refine ⟨by omega,hc2,Or.inr ⟨g,_,_,rfl,hb,fun j hj=>?_⟩⟩
 have h:=(hH2 j (by simpa using hj)).1
 rw [Nat.zero_add] at h
 rw [h,getElem!_pos _ j (by simpa using hj)]
 simp [List.getD,List.getElem?_eq_getElem hj]
theorem map_one (d:Dm) (L:List (List UInt8)) {k:Nat} (h:k<L.length):(L.take (k+1)).map (whL d)=(L.take k).map (whL d) ++ [whL d (L.getD k [])]:=by
 rw [List.take_succ_eq_append_getElem h,List.map_append,List.getD_eq_getElem?_getD,List.getElem?_eq_getElem h]
 rfl
set_option maxHeartbeats 4000000 in
theorem refs_any (d:Dm) (q:Nat) (s:ByteArray) (w:World) (hs:s.size≤100) (hI:IsF d q w) :
  Calls Tryz.prog 271 #[.string s,isV q] w fun e w'=>(∃ A' c',e=.returned (.tuple #[.slice A' (rfL d s).length c',errV (rfE d s)])∧IntT w' A' c' (rfL d s))∧Below w.heap.size w w':=by
 obtain ⟨i0,hi0,hz0,hz1,hz2⟩:=info_parts Tryz.infoInt
 obtain ⟨W,hW⟩:∃ W,w.alloc (.cells #[isV q] 258)=W:=⟨_,rfl⟩
 have hB0:Below w.heap.size w W:=by rw [←hW];exact (Below.refl _ _).alloc (Nat.le_refl _) _
 have hs0:W.heap.size=w.heap.size+1:=by rw [←hW];simp
 have hc0:W.cell? ⟨w.heap.size,0,none⟩=some (isV q):=by
  have h:W.heap[w.heap.size]?=some (.cells #[isV q] 258 (0,0)):=by rw [←hW];exact heap_alloc_new _ _
  rw [Lib.cell_of_heap h]
  rfl
 have hpr:=fparse_any s W (by omega)
 have HI:Hid (IsF d q w):=hI
 have HB0:Hid (Below w.heap.size w W):=hB0
 have HC0:Hid (W.cell? ⟨w.heap.size,0,none⟩=some (isV q)):=hc0
 have HS0:Hid (W.heap.size=w.heap.size+1):=hs0
 have HRf:Hid (∀ w',Below W.heap.size W w'→∀ x,Calls Tryz.prog 304 #[.string ⟨x.toArray⟩,.pointer (some ⟨w.heap.size,0,none⟩)] w' fun e w''=>e=.returned (.bool (decide (whL d x<0)))∧Below w'.heap.size w' w''):=fun w' hB x =>
  refs1_any d q w.heap.size x w' (hI.later (onB hB0 hB)) ((hB.cell (p:=⟨w.heap.size,0,none⟩) (by show w.heap.size<_;omega)).trans hc0)
 unfold isV at hW ⊢
 clear hB0 hs0 hc0 hI
 by_cases hpe:prsE s=0
 case neg =>
  obtain ⟨e1,e2⟩:=rf0 (d:=d) hpe
  rw [e1,e2]
  have HE:Hid (errV (prsE s)=.iface 104 (.int .i64 (prsE s))):=errV_some hpe
  rw [errV_some hpe] at hpr ⊢
  generalize (prsL s).length=m at hpr
  generalize (prsA s:Int)=at' at hpr
  generalize prsE s=ec at hpr
  clear hpe e1 e2
  go_enter Tryz.func271,Tryz.ntmps271
  go_wp2_with fail
  refine hpr.mono ?_
  rintro e w1 ⟨⟨A1,c1,rfl,-⟩,hb1⟩
  go_wp2_with fail
  go_ret2
  exact ⟨⟨none,0,rfl,IntT.nil _ _ _ (by omega)⟩,onB HB0.out hb1⟩
 have hfe:=form_read hpe
 have hrl:=refs_len hfe
 have HPe:Hid (prsE s=0):=hpe
 have hrf:=fun A c w' hN=>frefs_any A c (prsL s) w' hN
 rw [hfe,errV_zero] at hrf
 rw [hpe,errV_zero] at hpr
 obtain ⟨L,hL⟩:∃ L,refsP (prsL s)=L:=⟨_,rfl⟩
 have HL:Hid (refsP (prsL s)=L):=hL
 rw [hL] at hrl hrf
 obtain ⟨l,hl⟩:∃ l,prsL s=l:=⟨_,rfl⟩
 rw [hl] at hpr hrf
 generalize (prsA s:Int)=at' at hpr
 obtain ⟨n,hn⟩:∃ n,L.length=n:=⟨_,rfl⟩
 have HN:Hid (L.length=n):=hn
 have HRfs:Hid (∀ A c w',NdsV w' A c l→Calls Tryz.prog 240 #[.slice A l.length c] w' fun e w''=>(∃ A' c',e=.returned (.tuple #[.slice A' n c',.nilIface])∧StrsV w'' A' c' L)∧Below w'.heap.size w' w''):=fun A c w' h=>by rw [←hn];exact hrf A c w' h
 generalize l.length=m at hpr HRfs
 rw [hn] at hrl
 have hnI:(n:Int)≤30:=by omega
 clear hpe hfe hL hl hn hrf
 go_enter Tryz.func271,Tryz.ntmps271
 go_wp2_with fail
 refine hpr.mono ?_
 rintro e w1 ⟨⟨A1,c1,rfl,hN1⟩,hb1⟩
 have hrf:=HRfs.out A1 c1 w1 hN1
 have HB1:Hid (Below W.heap.size W w1):=hb1
 clear hpr hN1 hb1
 go_wp2_with fail
 refine hrf.mono ?_
 rintro e w2 ⟨⟨A2,c2,rfl,hS2⟩,hb2⟩
 have HB2:Hid (Below W.heap.size W w2):=onB HB1.out hb2
 have HS2:Hid (StrsV w2 A2 c2 L):=hS2
 have hct:=scontf_any 304 #[.pointer (some ⟨w.heap.size,0,none⟩)] (fun x=>decide (whL d x<0)) ent_refs1 A2 c2 L w2 (by have:=HN.out;omega) hS2 fun x w' hB=>HRf.out w' (onB HB2.out hB) x
 rw [HN.out] at hct
 obtain ⟨ra,hra⟩:∃ ra,L.any (fun x=>decide (whL d x<0))=ra:=⟨_,rfl⟩
 have HRa:Hid (L.any (fun x=>decide (whL d x<0))=ra):=hra
 rw [hra] at hct
 clear hrf hb2 hS2 hra
 go_wp2_with fail
 refine hct.mono ?_
 rintro e w3 ⟨rfl,hb3⟩
 have HB3:Hid (Below W.heap.size W w3):=onB HB2.out hb3
 have HS3:Hid (StrsV w3 A2 c2 L):=HS2.out.later hb3
 clear hct hb3
 cases ra
 case true =>
  go_wp2_with fail
  go_ret2
  obtain ⟨e1,e2⟩:=rf1 (d:=d) HPe.out (by rw [HL.out];exact HRa.out)
  rw [e1,e2]
  exact ⟨⟨none,0,rfl,IntT.nil _ _ _ (by omega)⟩,onB HB0.out HB3.out⟩
 go_wp2_with fail
 go_loopg [10,36] n (fun g s10 s36 wr => ∃ (k:Nat) (v:Value),k≤n∧g=n-k∧s36=.int .i64 k∧v=s10∧wr.ownsRow w3.heap.size 3 1 v k (mapI ((L.take k).map (whL d)))∧Below w3.heap.size w3 wr)
 case atStart=>exact ⟨0,_,Nat.zero_le _,rfl,rfl,rfl,World.ownsRow_nil _ _ _ _,Below.refl _ _⟩
 case round =>
  obtain ⟨k,v,hk,rfl,rfl,rfl,hO,hBw⟩:=hrel
  have HO:Hid (wr.ownsRow w3.heap.size 3 1 v k (mapI ((L.take k).map (whL d)))):=hO
  have HBw:Hid (Below w3.heap.size w3 wr):=hBw
  by_cases hlt:k<n
  ·have hki:(k:Int)<(n:Int):=by omega
   obtain ⟨hcS,-,hS0 | ⟨b,o,rfl,hbS,hcl⟩⟩:=HS3.out.later hBw
   ·have:=HN.out;rw [hS0] at this;simp at this;omega
   have cx:=hcl k (by rw [HN.out];exact hlt)
   rw [HN.out] at hcS
   have HNx:Hid ((L.take (k+1)).map (whL d)=(L.take k).map (whL d) ++ [whL d (L.getD k [])]):=map_one d L (by rw [HN.out];exact hlt)
   have hcall:=HI.out ⟨(L.getD k []).toArray⟩ wr (onB HB0.out (onB HB3.out hBw))
   rw [show (⟨(L.getD k []).toArray⟩:ByteArray).data.toList=L.getD k [] by simp] at hcall
   have hWr:=onB HB3.out hBw
   have cb:wr.cell? ⟨w.heap.size,0,none⟩=some (isV q):=(hWr.cell (p:=⟨w.heap.size,0,none⟩) (by show w.heap.size<_;rw [HS0.out];omega)).trans HC0.out
   have hbz:w.heap.size<wr.heap.size:=by have:=hWr.size;rw [HS0.out] at this;omega
   unfold isV at cb
   generalize whL d (L.getD k [])=y at hcall HNx
   generalize (⟨(L.getD k []).toArray⟩:ByteArray)=x at cx hcall
   clear hcl hO hBw hWr
   go_wp2_with fail
   refine hcall.mono ?_
   rintro e w4 ⟨rfl,hb4⟩
   have hB4:Below w3.heap.size w3 w4:=onB HBw.out hb4
   have HB4:Hid (Below w3.heap.size w3 w4):=hB4
   have HO4:Hid (w4.ownsRow w3.heap.size 3 1 v k (mapI ((L.take k).map (whL d)))):=own_later HO.out hb4
   have hsz:=hB4.size
   clear hb4 hcall hB4
   go_wp2_with (at_builtin;refine wpList_append_own _ rfl _ _ 22 rfl w3.heap.size 3 i0 (.int .i64 0) 1 8 Tryz.underlying22 hi0 hz0 hz1 hz2 rfl (by decide) _ _ _ rfl (HO4.out.alloc _) ⟨w4.heap.size,0,none⟩ 1 1 [.int .i64 y] rfl rfl one_cell one_one (by unfold maxLen;omega) (by omega) (by simp;omega) ?_)
   intro v' w5 hown' hgrow _
   have HB5:Hid (Below w3.heap.size w3 w5):=grown_own HB4.out HO4.out hgrow
   have HO5:Hid (w5.ownsRow w3.heap.size 3 1 v' (k+1) (mapI ((L.take (k+1)).map (whL d)))):=by
    show World.ownsRow ..
    rw [HNx.out,mapI_snoc,List.map_take];exact hown'
   clear hown' hgrow
   go_wp2_with fail
   go_roundg (n-(k+1))
   case measure=>omega
   case rel=>exact ⟨k+1,_,by omega,rfl,by go_num,rfl,HO5.out,HB5.out⟩
  ·have hke:k=n:=by omega
   subst hke
   have hL0:L.take k=L:=List.take_of_length_le (by rw [HN.out];exact Nat.le_refl _)
   obtain ⟨e1,e2⟩:=rf2 (d:=d) HPe.out (by rw [HL.out];exact HRa.out)
   rw [HL.out] at e2
   have HE1:Hid (rfE d s=0):=e1
   have hO':=hO
   rw [hL0] at hO'
   obtain ⟨zs,hzs⟩:∃ zs,L.map (whL d)=zs:=⟨_,rfl⟩
   have hzl:zs.length=k:=by rw [←hzs,List.length_map];exact HN.out
   rw [hzs] at e2 hO'
   have HE2:Hid (rfL d s=zs.mergeSort fun x y=>decide (x≤y)):=e2
   have HZl:Hid (zs.length=k):=hzl
   clear hO HO hL0 e1 e2 hzs
   by_cases hz:v=.slice none 0 0
   ·subst hz
    have hk0:k=0:=by
     rcases hO'.2 with ⟨_,h⟩ | ⟨g,c,cur,h,_⟩
     ·exact h
     ·cases h
    subst hk0
    have HZ0:Hid (rfL d s=[]):=by
     show _=_
     rw [HE2.out,List.eq_nil_of_length_eq_zero hzl,List.mergeSort_nil]
    have hso:=Any.slices_Sort_int_none Tryz.lays189 none 0 wr
    clear hO' hBw hzl
    go_wp2_with fail
    refine Calls.mono hso ?_
    rintro e w4 ⟨rfl,rfl⟩
    go_wp2_with fail
    go_ret2
    rw [HE1.out,HZ0.out]
    exact ⟨⟨none,0,rfl,IntT.nil _ _ _ (by omega)⟩,onB HB0.out (onB HB3.out HBw.out)⟩
   ·obtain ⟨g,c,hv,hgb,hgl,hnc,hcm,-,hH⟩:=Lib.holds_of_ownsRow (enc:=Value.int .i64) (zs:=zs) hO' hz
    subst hv
    obtain ⟨cur,hg⟩:∃ cur:Array Value,wr.heap[g]?=some (.cells cur 3 (0,0)):=by
     rcases hO'.2 with ⟨h,_⟩ | ⟨g',c',cur,h,_,hg,_⟩
     ·cases h
     ·cases h;exact ⟨cur,hg⟩
    have hso:=Any.slices_Sort_int Tryz.lays189 g 0 c zs wr hH hgl (by omega)
    rw [hzl] at hso
    have HT:Hid (∀ q2 os,IntT (grow (putRow (Value.int .i64) (Sort.ahead wr q2) g 0 (zs.mergeSort fun x y=>decide (x≤y)).toArray) os) (some ⟨g,0,none⟩) c (rfL d s)):=fun q2 os=>by
     rw [HE2.out]
     exact sorted_intT hg hH (by rw [List.length_mergeSort]) (by omega) (by unfold maxLen at hcm;omega)
    have HBs:Hid (∀ q2 os,Below w.heap.size w (grow (putRow (Value.int .i64) (Sort.ahead wr q2) g 0 (zs.mergeSort fun x y=>decide (x≤y)).toArray) os)):=fun q2 os=>by
     have hBW:=onB HB3.out hBw
     have h0:=onB HB0.out hBW
     refine sorted_belowI h0 ?_
     have:=HB0.out.size
     have:=HB3.out.size
     omega
    have HLl:Hid ((rfL d s).length=k):=by show _=_;rw [HE2.out,List.length_mergeSort];exact hzl
    generalize (zs.mergeSort fun x y=>decide (x≤y))=ys at hso HT HBs
    clear hO' hBw hzl hH hg
    go_wp2_with fail
    refine Calls.mono hso ?_
    rintro e w4 ⟨rfl,q2,os,hw4⟩
    have HT4:Hid (IntT w4 (some ⟨g,0,none⟩) c (rfL d s)):=by rw [hw4];exact HT.out q2 os
    have HB4:Hid (Below w.heap.size w w4):=by rw [hw4];exact HBs.out q2 os
    clear hw4 hso
    go_wp2_with fail
    go_ret2
    rw [HE1.out]
    exact ⟨⟨_,c,by rw [HLl.out];rfl,HT4.out⟩,HB4.out⟩
end Go.Proofs.YtmmpanbkmpdnkahGreatDoor
