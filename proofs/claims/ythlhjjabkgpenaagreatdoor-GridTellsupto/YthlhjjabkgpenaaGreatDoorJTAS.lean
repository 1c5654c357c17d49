/- What the members of a -/
import Derived.Test.YthlhjjabkgpenaaGreatDoorJTAR
namespace Go.Proofs.YthlhjjabkgpenaaGreatDoor
open Go ChangeShapes WideShapes ChangeAt RowKit
set_option maxRecDepth 99999
set_option maxHeartbeats 0
def whL (d:Dm) (nm:List UInt8):Int:=findFrom (fun j=>same (d.mem j).name ⟨nm.toArray⟩) d.n 0
theorem mm (s:ByteArray) (nm:List UInt8):same s ⟨nm.toArray⟩=decide (s.data.toList=nm):=by
 unfold same;rw [ByteArray.toList_eq,ByteArray.toList_eq]
 by_cases h:s.data.toList=nm
 ·simp [h]
 simp [h]
theorem whL_cases (d:Dm) (nm:List UInt8):(whL d nm = -1∧∀ j,j<d.n→(d.mem j).name.data.toList≠nm)∨∃ k:Nat,whL d nm=(k:Int)∧k<d.n∧(d.mem k).name.data.toList=nm:=by
 unfold whL
 rcases findFrom_cases (fun j=>same (d.mem j).name ⟨nm.toArray⟩) d.n 0 with ⟨a,c⟩ | ⟨k,a,_,e,b,_⟩
 ·refine Or.inl ⟨a,fun j f=>?_⟩
  have:=c j (zU) (by omega)
  rw [mm] at this;exact of_decide_eq_false this
 refine Or.inr ⟨k,a,by omega,?_⟩
 rw [mm] at b;exact of_decide_eq_true b
theorem Bi {d:Dm} (h:(au d).2=0) {j k:Nat} (g:j<d.n) (l:k<d.n) (e:(d.mem j).name.data.toList=(d.mem k).name.data.toList):j=k:=by
 obtain ⟨_,_,_,c⟩:=aG h;have f:∀ {a b:Nat},(d.mem a).name.data.toList=(d.mem b).name.data.toList→same (d.mem a).name (d.mem b).name=true:=fun {a b} e=>by
  unfold same;rw [ByteArray.toList_eq,ByteArray.toList_eq,e]
  simp
 rcases Nat.lt_trichotomy j k with h1 | h1 | h1
 ·have:=iV (c k l)
  have:=fy (q:=fun i=>same (d.mem i).name (d.mem k).name) h1 (f e)
  omega
 ·exact h1
 have:=iV (c j g);have:=fy (q:=fun i=>same (d.mem i).name (d.mem j).name) h1 (f e.symm)
 omega
theorem G3 {d:Dm} (h:(au d).2=0) {k:Nat} (b:k<d.n):whL d (d.mem k).name.data.toList=(k:Int):=by
 rcases whL_cases d (d.mem k).name.data.toList with ⟨_,a⟩ | ⟨m,c,a,e⟩
 ·exact absurd rfl (a k b)
 rw [c,Bi h a b e]
def jN (d:Dm) (i:Nat):List (List UInt8):=dk (bE (d.mem i).formula) (bE (d.mem i).formula).length
theorem mE {l:List Nd} {x:Nd} (a:x∈l) (h:x.op=2):x.name.data.toList∈dk l l.length:=by
 unfold dk;rw [List.take_length];exact List.mem_map.2 ⟨x,List.mem_filter.2 ⟨a,by simp [h]⟩,rfl⟩
theorem yI {l:List Nd} {nm:List UInt8} (h:nm∈dk l l.length):∃ x∈l,x.op=2∧x.name.data.toList=nm:=by
 unfold dk at h;rw [List.take_length] at h;obtain ⟨x,c,rfl⟩:=List.mem_map.1 h;obtain ⟨a,b⟩:=List.mem_filter.1 c;exact ⟨x,a,by simpa using b,rfl⟩
def mErr (d:Dm) (i:Nat):Int:=if (d.mem i).formula.size=0 then 0 else if prsE (d.mem i).formula≠0 then prsE (d.mem i).formula else if (jN d i).any (fun nm=>decide (whL d nm<0))=true then 5 else 0
def u6 (d:Dm) (k:Int):Bool:=decide ((d.mem k.toNat).sign≠0)
def yR (d:Dm) (i k:Nat):Bool:=if (d.mem i).formula.size=0 then gW d.mem i k && u6 d k else (jN d i).contains (d.mem k).name.data.toList
def dQ (d:Dm) (i:Nat):List Int:=selTo (yR d i) d.n
theorem gN (d:Dm) (i:Nat):(dQ d i).Pairwise (· < ·):=g9 _ _
theorem ef {d:Dm} {i:Nat} {x:Int} (h:x∈dQ d i):0≤x∧x<(d.n:Int):=by
 obtain ⟨m,rfl,a,-⟩:=dE x h
 omega
theorem rE (d:Dm) (i:Nat):(dQ d i).length≤d.n:=cS _ _
def eu (d:Dm):List (List Int):=(List.range d.n).map (dQ d)
theorem fd (d:Dm):(eu d).length=d.n:=by simp [eu]
theorem lu {d:Dm} {i:Nat} (h:i<d.n):(eu d).getD i []=dQ d i:=by
 unfold eu
 simp [List.getD,h]
theorem kH (d:Dm):mw (eu d):=fun i a x b=>by
 rw [fd] at a ⊢;rw [lu a] at b;exact ef b
def sI (d:Dm) (i:Nat):Bool:=decide (mErr d i≠0)
noncomputable def a8 (d:Dm):Int×Int :=
 if (au d).2≠0 then au d
 else if 0≤findFrom (sI d) d.n 0 then (findFrom (sI d) d.n 0,mErr d (findFrom (sI d) d.n 0).toNat)
 else if 0≤findFrom (cycB (eu d)) d.n 0 then (findFrom (cycB (eu d)) d.n 0,8)
 else (-1,0)
theorem KV {d:Dm} (h:(au d).2≠0):a8 d=au d:=by unfold a8;rw [if_pos h]
theorem KD {d:Dm} (h:(au d).2=0) {i:Nat} (f:i<d.n) (a:mErr d i≠0) (b:∀ j,j<i→mErr d j=0):a8 d=((i:Int),mErr d i):=by
 have e:findFrom (sI d) d.n 0=(i:Int):=eq (zU) (by omega) (decide_eq_true a) fun j _ c=>decide_eq_false (by simpa using b j c)
 unfold a8;rw [if_neg (by simpa using h),e,if_pos (by omega),Int.toNat_natCast]
theorem Kr {d:Dm} (a:∀ j,j<d.n→mErr d j=0):findFrom (sI d) d.n 0 = -1:=bN fun j _ b=>decide_eq_false (by simpa using a j (by omega))
theorem KW {d:Dm} (h:(au d).2=0) (b:∀ j,j<d.n→mErr d j=0) {i:Nat} (f:i<d.n) (a:cycB (eu d) i=true) (e:∀ j,j<i→cycB (eu d) j=false):a8 d=((i:Int),8):=by
 unfold a8;rw [if_neg (by simpa using h),Kr b,if_neg (by omega),eq (zU) (by omega) a fun j _ c=>e j c,if_pos (by omega)]
theorem KX {d:Dm} (h:(au d).2=0) (a:∀ j,j<d.n→mErr d j=0) (b:∀ j,j<d.n→cycB (eu d) j=false):a8 d=(-1,0):=by
 unfold a8;rw [if_neg (by simpa using h),Kr a,if_neg (by omega),bN fun j _ c=>b j (by omega),if_neg (by omega)]
theorem bK {d:Dm} (h:(a8 d).2=0):(au d).2=0∧(∀ j,j<d.n→mErr d j=0)∧(∀ j,j<d.n→cycB (eu d) j=false)∧(a8 d).1 = -1:=by
 by_cases a:(au d).2=0
 ·rcases findFrom_cases (sI d) d.n 0 with ⟨_,l⟩ | ⟨k,_,_,m,c,e⟩
  ·have f:∀ j,j<d.n→mErr d j=0:=fun j b=>by
    have:=l j (zU) (by omega)
    unfold sI at this
    simpa using this
   rcases findFrom_cases (cycB (eu d)) d.n 0 with ⟨_,o⟩ | ⟨k,_,_,m,c,e⟩
   ·have i:∀ j,j<d.n→cycB (eu d) j=false:=fun j b=>o j (zU) (by omega)
    exact ⟨a,f,i,by rw [KX a f i]⟩
   rw [KW a f (by omega) c fun j b=>e j (zU) b] at h
   cases h
  have g:mErr d k≠0:=of_decide_eq_true c;rw [KD a (by omega) g fun j b=>by have:=e j (zU) b;unfold sI at this;simpa using this] at h
  exact absurd h g
 rw [KV a] at h;exact absurd h a
theorem lD {d:Dm} (h:(a8 d).2=0):∀ i:Nat,i<(eu d).length→cycB (eu d) i=false:=fun i a=>(bK h).2.2.1 i (by rw [←fd d];exact a)
theorem eY {d:Dm} (n:(au d).2=0) {i:Nat} (g:(d.mem i).formula.size≠0) (c:mErr d i=0) (z:Int):z∈dQ d i↔∃ nm∈jN d i,z=whL d nm:=by
 have e:∀ nm∈jN d i,0≤whL d nm:=fun nm j=>by
  unfold mErr at c;rw [if_neg g] at c
  split at c
  ·rename_i f;exact absurd c f
  split at c
  ·cases c
  rename_i a
  rw [List.any_eq_true] at a;exact Decidable.byContradiction fun b=>a ⟨nm,j,decide_eq_true (by omega)⟩
 constructor
 ·intro h
  obtain ⟨m,rfl,a,b⟩:=dE z h;unfold yR at b;rw [if_neg g,List.contains_iff_mem] at b;exact ⟨_,b,(G3 n a).symm⟩
 rintro ⟨nm,f,rfl⟩
 rcases whL_cases d nm with ⟨a,_⟩ | ⟨k,a,b,l⟩
 ·have:=e nm f;omega
 rw [a];refine mM b ?_;unfold yR;rw [if_neg g,List.contains_iff_mem,l];exact f
theorem f6 {d:Dm} {i:Nat} (a:(d.mem i).formula.size=0):(bj d.mem d.n i).filter (u6 d)=dQ d i:=by
 refine sf _ _ _ _ fun j _=>?_
 unfold yR;rw [if_pos a,Bool.and_eq_true]
/-! sorted, each once -/
theorem Fj (zs:List (List UInt8)):(zs.mergeSort fun x y=>decide (x≤y)).Pairwise (fun a b=>a≤b):=by
 have h:=List.pairwise_mergeSort (le:=fun x y:List UInt8=>decide (x≤y)) (fun a b c h k=>by simp at *;exact List.le_trans h k) (fun a b=>by simp;exact List.le_total a b) zs
 exact h.imp fun h=>by simpa using h
theorem o6 (zs:List Int):(zs.mergeSort fun x y=>decide (x≤y)).Pairwise (fun a b=>a≤b):=by
 have h:=List.pairwise_mergeSort (le:=fun x y:Int=>decide (x≤y)) (fun a b c h k=>by simp at *;omega) (fun a b=>by simp;omega) zs
 exact h.imp fun h=>by simpa using h
theorem Dh (zs:List (List UInt8)) (x:List UInt8):x∈Lib.compact zs↔x∈zs:=by
 unfold Lib.compact;have h:∀ m,m≤zs.length→∀ x,x∈Lib.compactUpTo zs.toArray m↔∃ j,j<m∧zs.toArray[j]! = x:=by
  intro m
  induction m with
  | zero=>intro _ x;simp [Lib.compactUpTo]
  | succ m ih =>
   intro k x;rw [Lib.compactUpTo_succ,List.mem_append,ih (by omega)]
   constructor
   ·rintro (⟨j,a,b⟩ | a)
    ·exact ⟨j,by omega,b⟩
    split at a
    ·exact ⟨m,by omega,(List.mem_singleton.1 a).symm⟩
    cases a
   rintro ⟨j,a,b⟩
   by_cases e:j<m
   ·exact Or.inl ⟨j,e,b⟩
   have e:j=m:=by omega
   subst e
   by_cases c:Lib.keeps zs.toArray j=true
   ·exact Or.inr (by rw [if_pos c,←b];simp)
   unfold Lib.keeps at c;rw [decide_eq_true_iff] at c;have i:j≠0:=fun e=>c (Or.inl e)
   have f:zs.toArray[j]! = zs.toArray[j-1]! := Decidable.byContradiction fun e=>c (Or.inr e)
   exact Or.inl ⟨j-1,by omega,by rw [←f];exact b⟩
 rw [h _ (zT)]
 constructor
 ·rintro ⟨j,a,rfl⟩
  rw [getElem!_pos _ j (by simpa using a)]
  simp
 intro g;obtain ⟨j,d,rfl⟩:=List.getElem_of_mem g;exact ⟨j,d,by rw [getElem!_pos _ j (by simpa using d)];simp⟩
theorem vt (zs:List (List UInt8)) (r:zs.Pairwise (fun a b=>a≤b)):(Lib.compact zs).Nodup:=by
 unfold Lib.compact;have d:∀ i j,i≤j→j<zs.length→zs.toArray[i]!≤zs.toArray[j]! := fun i j q l=>by
  rw [getElem!_pos _ i (by simp;omega),getElem!_pos _ j (by simpa using l)]
  by_cases e:i=j
  ·subst e;exact List.le_refl _
  have:=List.pairwise_iff_getElem.1 r i j (by omega) l (by omega)
  simpa using this
 have h:∀ m,m≤zs.length→(Lib.compactUpTo zs.toArray m).Nodup∧∀ x∈Lib.compactUpTo zs.toArray m,∃ j,j<m∧zs.toArray[j]! = x:=by
  intro m
  induction m with
  | zero=>intro _;exact ⟨by simp [Lib.compactUpTo],fun x c=>by simp [Lib.compactUpTo] at c⟩
  | succ m ih =>
   intro s;obtain ⟨n,k⟩:=ih (by omega)
   rw [Lib.compactUpTo_succ];refine ⟨?_,fun x c=>?_⟩
   ·rw [List.nodup_append]
    refine ⟨n,by split <;> simp,fun a p b g e=>?_⟩
    split at g
    ·rename_i hk
     rw [List.mem_singleton.1 g] at e;obtain ⟨j,o,f⟩:=k a p;unfold Lib.keeps at hk
     rcases of_decide_eq_true hk with h5 | h5
     ·omega
     refine h5 (List.le_antisymm ?_ (d (m-1) m (by omega) (by omega)))
     rw [←e,←f];exact d j (m-1) (by omega) (by omega)
    cases g
   rcases List.mem_append.1 c with c | c
   ·obtain ⟨j,o,f⟩:=k x c
    exact ⟨j,by omega,f⟩
   split at c
   ·exact ⟨m,by omega,(List.mem_singleton.1 c).symm⟩
   cases c
 exact (h _ (zT)).1
theorem dC {s:ByteArray} (h:prsE s=0):av (bE s)=0:=by
 have a:bE s=eg s:=by unfold bE;rw [if_pos h]
 rw [a];unfold prsE at h
 split at h
 ·split at h <;> cases h
 split at h
 ·exact h
 cases h
theorem jt {l:List Nd} (h:av l=0):(aQ l).Nodup∧∀ x,x∈aQ l↔x∈dk l l.length:=by
 unfold aQ;rw [if_pos h];refine ⟨vt _ (Fj _),fun x=>?_⟩
 rw [Dh];exact (List.mergeSort_perm _ _).mem_iff
theorem qT {d:Dm} (w:(au d).2=0) {i:Nat} (B:(d.mem i).formula.size≠0) (A:mErr d i=0) (C:prsE (d.mem i).formula=0):(((aQ (bE (d.mem i).formula)).map (whL d)).mergeSort fun x y=>decide (x≤y))=dQ d i:=by
 obtain ⟨q,o⟩:=jt (dC C);have p:∀ z,z∈(aQ (bE (d.mem i).formula)).map (whL d)↔z∈dQ d i:=fun z=>by
  rw [eY w B A,List.mem_map]
  constructor
  ·rintro ⟨nm,c,rfl⟩;exact ⟨nm,(o nm).1 c,rfl⟩
  rintro ⟨nm,c,rfl⟩;exact ⟨nm,(o nm).2 c,rfl⟩
 have l:((aQ (bE (d.mem i).formula)).map (whL d)).Pairwise (fun a b=>a≠b):=by
  rw [List.pairwise_map];have f:∀ nm∈aQ (bE (d.mem i).formula),0≤whL d nm:=fun nm h=>(ef ((p _).1 (List.mem_map.2 ⟨nm,h,rfl⟩))).1
  refine List.Pairwise.imp_of_mem (R:=fun a b=>a≠b) (fun {a b} u v g e=>?_) q
  rcases whL_cases d a with ⟨c,_⟩ | ⟨k,c,_,r⟩
  ·have:=f a u;omega
  rcases whL_cases d b with ⟨s,_⟩ | ⟨m,s,_,t⟩
  ·have:=f b v;omega
  have:k=m:=by omega
  exact g (by rw [←r,←t,this])
 refine ju _ _ ?_ (gN d i) fun z=>?_
 ·have n:=(List.mergeSort_perm ((aQ (bE (d.mem i).formula)).map (whL d)) (fun x y=>decide (x≤y)))
  have j:List.Pairwise (fun a b=>a≠b) (((aQ (bE (d.mem i).formula)).map (whL d)).mergeSort fun x y=>decide (x≤y)):=n.symm.pairwise l fun {a b} h e=>h e.symm
  exact ((o6 _).and j).imp fun h=>by omega
 rw [(List.mergeSort_perm _ _).mem_iff,p]
theorem iv {w w1 w2:World} {r:Option Nat} (h:w.grownBy w1 r) (k:w1.grownBy w2 r):w.grownBy w2 r :=
 ⟨k.os.trans h.os,k.tape.trans h.tape,k.output.trans h.output,zV h.size k.size,fun i a b=>(k.block i (zW a h.size) b).trans (h.block i a b)⟩
theorem eF {w w':World} {r:Option Nat} (h:Bl w w'):w.grownBy w' r:=⟨h.os,h.tape,h.output,h.size,fun i a _=>h.block i a⟩
theorem pB (w:World) (g:Nat) (cs:Array Value):w.grownBy (w.setRow g cs) (some g) :=
 ⟨rfl,rfl,rfl,by rw [setRow_size];exact zT,fun i _ a=>setRow_other w g i cs fun e=>a (by rw [e])⟩
theorem jP (g:Nat) (t:TypeId):∀ (vs:List Value) (o:Nat) (a:Array Value) (w:World),w.heap[g]?=some (.cells a t (0,0))→o+vs.length≤a.size→w.setCells g o vs=w.setRow g (a.toList.take o ++ vs ++ a.toList.drop (o+vs.length)).toArray
 | [],o,a,w,hg,_=>by
  simp only [World.setCells,List.append_nil,List.length_nil,Nat.add_zero,List.take_append_drop,Array.toArray_toList];rw [setRow_self w g a t (0,0) hg]
 | v :: r,o,a,w,hg,hl=>by
  simp only [List.length_cons] at hl;rw [World.setCells,setCell_eq_setRow w g o a t (0,0) v hg,jP g t r (o+1) (a.setIfInBounds o v) _ (setRow_heap w g a _ t _ hg) (by simp;omega),setRow_setRow]
  have e:=list_seg_step a.toList o v r (by simp;omega)
  congr 2
  simpa [Array.toList_setIfInBounds,Nat.add_assoc] using e
theorem vW (F:Nat) (cap:Array Value) (p:Int→Bool) (a:∀ (args:Array Value) (w:World),(callFunc F args).run Tryz.prog w=.ok (.enter F args) w) (A:Option Addr) (c:Nat) (L:List Int) (w:World) (f:L.length≤3000) (d:bU w A c L)
  (b:∀ (x:Int) (w':World),x∈L→Bl w w'→Calls Tryz.prog F (#[.int .i64 x] ++ cap) w' fun e w''=>e=.returned (.bool (p x))∧Bl w' w'') :
  Rt 102 #[.slice A L.length c,.func (.func F) #[] cap] w (.int .i64 (findFrom (fun j=>p (L.getD j 0)) L.length 0)) :=
 qm F cap p a A c L w (by omega) (iF d) b
def q8 (L:List Int) (p:Int→Bool) (i j:Nat) (cur:Array Value):Prop:=i<j∧((L.take j).filter fun x => !p x).length=i∧(∀ m,m<i→cur[m]?=some (.int .i64 (((L.take j).filter fun x => !p x).getD m 0)))∧∀ m,j≤m→m<L.length→cur[m]?=some (.int .i64 (L.getD m 0))
theorem pb {L:List Int} {j:Nat} (h:j<L.length):L.take (j+1)=L.take j ++ [L.getD j 0]:=by
 rw [List.take_succ_eq_append_getElem h,zZ,zX h]
 rfl
theorem vz {L:List Int} {p:Int→Bool} {k:Nat} {a:Array Value} (l:k<L.length) (d:p (L.getD k 0)=true) (o:∀ j,j<k→p (L.getD j 0)=false) (c:∀ m,m<L.length→a[m]?=some (.int .i64 (L.getD m 0))):q8 L p k (k+1) a:=by
 have g:(L.take k).filter (fun x => !p x)=L.take k:=by
  rw [List.filter_eq_self];intro x q;obtain ⟨j,i,rfl⟩:=List.getElem_of_mem q;have b:j<k:=by rw [List.length_take] at i;omega
  have h:=o j b;rw [zZ,zX (by omega)] at h
  simpa using h
 have e:(L.take (k+1)).filter (fun x => !p x)=L.take k:=by
  rw [pb l,List.filter_append,g];generalize L.getD k 0=x at d ⊢
  simp [d]
 refine ⟨by omega,by rw [e,List.length_take];omega,fun m n=>?_,fun m r f=>c m f⟩
 rw [e,c m (by omega),zZ,zZ,List.getElem?_take_of_lt n]
theorem zP {L:List Int} {p:Int→Bool} {i j:Nat} {c:Array Value} (h:q8 L p i j c) (l:j<L.length) (d:p (L.getD j 0)=true):q8 L p i (j+1) c:=by
 have e:(L.take (j+1)).filter (fun x => !p x)=(L.take j).filter (fun x => !p x):=by
  rw [pb l,List.filter_append];generalize L.getD j 0=x at d ⊢
  simp [d]
 obtain ⟨o,f,g,k⟩:=h;refine ⟨by omega,by rw [e];exact f,fun m n=>by rw [e];exact g m n,fun m a b=>k m (by omega) b⟩
theorem zO {L:List Int} {p:Int→Bool} {i j:Nat} {c:Array Value} (h:q8 L p i j c) (n:j<L.length) (r:L.length≤c.size) (g:p (L.getD j 0)=false):q8 L p (i+1) (j+1) (c.setIfInBounds i (.int .i64 (L.getD j 0))):=by
 have e:(L.take (j+1)).filter (fun x => !p x)=(L.take j).filter (fun x => !p x) ++ [L.getD j 0]:=by
  rw [pb n,List.filter_append];generalize L.getD j 0=x at g ⊢
  simp [g]
 obtain ⟨o,f,k,l⟩:=h;generalize L.getD j 0=x at e ⊢;refine ⟨by omega,by rw [e,List.length_append,f];rfl,fun m q=>?_,fun m a b=>?_⟩
 ·rw [e,Array.getElem?_setIfInBounds]
  by_cases d:i=m
  ·rw [if_pos d,if_pos (by omega),zZ,List.getElem?_append_right (by omega),f,d]
   simp
  rw [if_neg d,k m (by omega),zZ,zZ,List.getElem?_append_left (by omega)]
 rw [Array.getElem?_setIfInBounds,if_neg (by omega)]
 exact l m (by omega) b
theorem tr {w wr:World} {g k:Nat} {v:Value} (h:w.grownBy wr (some g)):w.grownBy (wr.setCell ⟨g,k,none⟩ v) (some g):=by
 refine ⟨h.os,h.tape,h.output,by simpa [World.setCell] using h.size,fun i b a=>?_⟩
 rw [←h.block i b a];simp only [World.setCell,Array.getElem?_modify];rw [if_neg fun e=>a (by rw [e])]
theorem Dj (F:Nat) (Y:Array Value) (p:Int→Bool) (E:∀ (args:Array Value) (w:World),(callFunc F args).run Tryz.prog w=.ok (.enter F args) w) (base:Nat) (v:Value) (L:List Int) (w:World) (hn:L.length≤3000) (o:w.ownsRow base 3 1 v L.length (aE L))
  (Z:∀ (x:Int) (w':World),x∈L→w.grownBy w' v.ownBlock→Calls Tryz.prog F (#[.int .i64 x] ++ Y) w' fun e w''=>e=.returned (.bool (p x))∧Bl w' w'') :
  Calls Tryz.prog 197 #[v,.func (.func F) #[] Y] w fun e w'=>(∃ A' c',e=.returned (.slice A' (L.filter fun x => !p x).length c')∧aY w' A' c' (L.filter fun x => !p x))∧w.grownBy w' v.ownBlock:=by
 obtain ⟨A,c,rfl,hI⟩:=cE o;have l:=vW F Y p E A c L w (by omega) hI.at fun x w' hx hB=>Z x w' hx (eF hB)
 rcases findFrom_cases (fun j=>p (L.getD j 0)) L.length 0 with ⟨R,h2⟩ | ⟨k,R,_,h3,h4,h5⟩
 ·have N:(L.filter fun x => !p x)=L:=by
   rw [List.filter_eq_self];intro x hx;obtain ⟨j,hj,rfl⟩:=List.getElem_of_mem hx;have h:=h2 j (zU) (by omega)
   simp only [zZ,zX hj] at h
   simpa using h
  have HF:=aa N;have HI:=aa hI;rw [R] at l;rw [N];generalize L.length=n at l;clear Z o hI R h2 N E
  go_enter Tryz.func197,Tryz.ntmps197
  go_wp2_with fail;refine l.mono ?_;rintro e w1 ⟨rfl,r⟩;go_wp2_with fail;go_ret;exact ⟨⟨A,c,rfl,HI.out.later r⟩,eF r⟩
 have hk:k<L.length:=by omega
 obtain ⟨S,U,hI0 | ⟨g,cs0,fr0,rfl,hg0,-⟩⟩:=hI
 ·rw [hI0] at hk;simp at hk
 obtain ⟨b,f,V,D⟩:∃ b:Array Value,w.heap[g]?=some (.cells b 3 (0,0))∧b.size=c∧∀ m,m<L.length→b[m]?=some (.int .i64 (L.getD m 0)):=by
  rcases o.2 with ⟨e,_⟩ | ⟨g',cap,b,e,hb,f,hc,J,hs,ht⟩
  ·cases e
  cases e;refine ⟨b,f,by omega,fun m J=>?_⟩
  have h:(aE L)[m]?=some (.int .i64 (L.getD m 0)):=by simp [aE,List.getD,zX J]
  rw [←ht,Nat.mul_one,List.getElem?_take_of_lt J] at h;rw [←h]
  simp
 have HSt:Hid (q8 L p k (k+1) b):=vz hk h4 (fun j hj=>h5 j (zU) hj) D
 have HF:=aa Z;have HCs:=aa V;rw [R] at l;obtain ⟨n,K⟩:=ax L.length;have H:=aa K;have O:=aa f;rw [K] at l hk hn S ⊢;have hki:(k:Int)<(n:Int):=by omega
 have hnI:(n:Int)≤3000:=by omega
 have hne:((k:Int) == -1)=false:=by
  have:(k:Int)≠-1:=by omega
  simp only [beq_eq_false_iff_ne];exact this
 show Calls Tryz.prog 197 #[.slice (some ⟨g,0,none⟩) n c,.func (.func F) #[] Y] w fun e w'=>(∃ A' c',e=.returned (.slice A' (L.filter fun x => !p x).length c')∧aY w' A' c' (L.filter fun x => !p x))∧w.grownBy w' (some g)
 clear Z o hg0 D V R h3 h4 h5 f K
 go_enter Tryz.func197,Tryz.ntmps197
 go_wp2_with fail;refine l.mono ?_;rintro e w1 ⟨rfl,r⟩;have P:Hid (w1.heap[g]?=some (.cells b 3 (0,0))∧w.grownBy w1 (some g)):=⟨(r.block g (zY O.out).1).trans O.out,eF r⟩;clear r l;go_wp2_with fail
 go_loopg [5,6] (n-(k+1)) (fun gg s5 s6 wr => ∃ (i j:Nat) (q:Array Value),j≤n∧gg=n-j∧s5=.int .i64 i∧s6=.int .i64 j∧Hid (q8 L p i j q∧q.size=c)∧wr.heap[g]?=some (.cells q 3 (0,0))∧w.grownBy wr (some g))
 case atStart=>exact ⟨k,k+1,b,by omega,rfl,rfl,by go_num,(⟨HSt.out,HCs.out⟩:_∧_),P.out.1,P.out.2⟩
 case round =>
  obtain ⟨i,j,q,hj,rfl,rfl,rfl,y,f,M⟩:=hrel;have HG:=aa f;have Q:=aa M;have hij:=y.out.1.1;have X:g<wr.heap.size:=(zY f).1;have I:=y.out.2
  by_cases C:j<n
  ·have hji:(j:Int)<(n:Int):=by omega
   have hii:(i:Int)<(n:Int):=by omega
   have cj:wr.cell? ⟨g,j,none⟩=some (.int .i64 (L.getD j 0)):=by
    rw [Lib.cell_of_heap f];exact y.out.1.2.2.2 j (zT) (by rw [H.out];exact C)
   have a:=HF.out (L.getD j 0) wr (by rw [zZ,zX (by rw [H.out];exact C)];exact List.getElem_mem _) M
   cases hp:p (L.getD j 0)
   ·rw [hp] at a
    have z:Hid (q8 L p (i+1) (j+1) (q.setIfInBounds i (.int .i64 (L.getD j 0)))∧(q.setIfInBounds i (.int .i64 (L.getD j 0))).size=c):=⟨zO y.out.1 (by rw [H.out];exact C) (by rw [H.out,I];exact S) hp,by simpa using I⟩
    generalize L.getD j 0=x at cj a z;clear f M hp;go_wp2_with fail;refine a.mono ?_;rintro e w2 ⟨rfl,d⟩;have B:=(d.block g X).trans HG.out;have ci:(w2.cell? ⟨g,i,none⟩).isSome=true:=by
     rw [Lib.cell_of_heap B,Array.getElem?_eq_getElem (by omega)]
     rfl
    obtain ⟨old,hold⟩:∃ old,w2.cell? ⟨g,i,none⟩=some old:=Option.isSome_iff_exists.1 ci;have hfr:w2.frozen? ⟨g,i,none⟩=false:=Lib.frozen_of_heap B i;have G:Hid ((w2.setCell ⟨g,i,none⟩ (.int .i64 x)).heap[g]?=some (.cells (q.setIfInBounds i (.int .i64 x)) 3 (0,0))):=by
     show _=_
     simp [World.setCell,Array.getElem?_modify,B]
    have s:Hid (w.grownBy (w2.setCell ⟨g,i,none⟩ (.int .i64 x)) (some g)):=tr (iv Q.out (eF d));clear d B a ci;go_wp2_with fail
    go_roundg (n-(j+1))
    case measure=>omega
    case rel=>exact ⟨i+1,j+1,_,by omega,rfl,by go_num,by go_num,z,G.out,s.out⟩
   rw [hp] at a;have z:Hid (q8 L p i (j+1) q∧q.size=c):=⟨zP y.out.1 (by rw [H.out];exact C) hp,I⟩
   generalize L.getD j 0=x at cj a;clear f M hp;go_wp2_with fail;refine a.mono ?_;rintro e w2 ⟨rfl,d⟩;have G:=aa ((d.block g X).trans HG.out);have s:Hid (w.grownBy w2 (some g)):=iv Q.out (eF d);clear d a;go_wp2_with fail
   go_roundg (n-(j+1))
   case measure=>omega
   case rel=>exact ⟨i,j+1,_,by omega,rfl,rfl,by go_num,z,G.out,s.out⟩
  have hje:j=n:=by omega
  subst hje;have hii:(i:Int)<(j:Int):=by omega
  have a:∀ ty,(Builtin.clear_ #[26] ty #[.slice (some ⟨g,0+i,none⟩) (j-i) (c-i)]).run Tryz.prog wr=.ok (.tuple #[]) (wr.setCells g (0+i) (List.replicate (j-i) (.int .i64 0))) :=
   fun ty=>Lib.run_clear_slice wr _ _ ty _ Tryz.underlying26 Tryz.zeroValue3 rfl rfl g (0+i) _ _ (by omega) (fun t ht=>by rw [Lib.cell_of_heap f,Array.getElem?_eq_getElem (by omega)];rfl) (fun t _=>Lib.frozen_of_heap f _)
  have HDn:=aa y;have u:=jP g 3 (List.replicate (j-i) (.int .i64 0)) (0+i) q wr f (by simp;omega)
  obtain ⟨W,hW⟩:=ax (wr.setCells g (0+i) (List.replicate (j-i) (Value.int .i64 0)));have HGW:Hid (w.grownBy W (some g)):=by rw [←hW,u];exact iv M (pB wr g _)
  have HTW:Hid (aY W (some ⟨g,0,none⟩) c (L.filter fun x => !p x)):=by
   have N:(L.filter fun x => !p x)=(L.take j).filter fun x => !p x:=by rw [List.take_of_length_le (by rw [H.out];exact zT)]
   have T:W.heap[g]?=some (.cells (q.toList.take (0+i) ++ List.replicate (j-i) (Value.int .i64 0) ++ q.toList.drop (0+i+(List.replicate (j-i) (Value.int .i64 0)).length)).toArray 3 (0,0)):=by rw [←hW,u];exact setRow_heap wr g q _ _ _ f
   refine ⟨by rw [N,y.out.1.2.1];omega,U,Or.inr ⟨g,_,_,rfl,T,fun m J=>?_⟩⟩
   rw [N] at J ⊢;rw [y.out.1.2.1] at J;rw [Lib.cell_of_heap T,←y.out.1.2.2.1 m J];simp only [List.getElem?_toArray];rw [List.append_assoc,List.getElem?_append_left (by simp;omega),List.getElem?_take_of_lt (by omega)]
   simp
  have HFl:Hid ((L.filter fun x => !p x).length=i):=by
   show _=_
   rw [←y.out.1.2.1,List.take_of_length_le (by rw [H.out];exact zT)]
  rw [hW,Nat.zero_add] at a;have hcI:(j:Int)≤(c:Int):=by omega
  clear f M u hW;go_wp2;go_ret;exact ⟨⟨some ⟨g,0,none⟩,c,by rw [HFl.out];rfl,HTW.out⟩,HGW.out⟩
end Go.Proofs.YthlhjjabkgpenaaGreatDoor
