/-
  What the members of a dim need, what is wrong with a dim with all its formulas, and what both readings of a formula's refs come to: plain data.
-/
import Derived.Test.YtompdcaikmekkaaGreatDoorJHAO
namespace Go.Proofs.YtompdcaikmekkaaGreatDoor
def whL (d:Dm) (nm:List UInt8):Int:=findFrom (fun j=>same (d.mem j).name ⟨nm.toArray⟩) d.n 0
theorem m9 (s:ByteArray) (nm:List UInt8):same s ⟨nm.toArray⟩=decide (s.data.toList=nm):=by
 unfold same;rw [ByteArray.toList_eq,ByteArray.toList_eq]
 by_cases h:s.data.toList=nm
 ·simp [h]
 simp [h]
theorem whL_cases (d:Dm) (nm:List UInt8):(whL d nm = -1∧∀ j,j<d.n→(d.mem j).name.data.toList≠nm)∨∃ k:Nat,whL d nm=(k:Int)∧k<d.n∧(d.mem k).name.data.toList=nm:=by
 unfold whL
 rcases findFrom_cases (fun j=>same (d.mem j).name ⟨nm.toArray⟩) d.n 0 with ⟨a,c⟩ | ⟨k,a,_,e,b,_⟩
 ·refine Or.inl ⟨a,fun j f=>?_⟩
  have:=c j (zU) (by omega)
  rw [m9] at this;exact of_decide_eq_false this
 refine Or.inr ⟨k,a,by omega,?_⟩
 rw [m9] at b;exact of_decide_eq_true b
theorem Cj {d:Dm} (h:(az d).2=0) {j k:Nat} (g:j<d.n) (l:k<d.n) (e:(d.mem j).name.data.toList=(d.mem k).name.data.toList):j=k:=by
 obtain ⟨_,_,_,c⟩:=aL h;have f:∀ {a b:Nat},(d.mem a).name.data.toList=(d.mem b).name.data.toList→same (d.mem a).name (d.mem b).name=true:=fun {a b} e=>by
  unfold same;rw [ByteArray.toList_eq,ByteArray.toList_eq,e]
  simp
 rcases Nat.lt_trichotomy j k with h1 | h1 | h1
 ·have:=jo (c k l)
  have:=fU (q:=fun i=>same (d.mem i).name (d.mem k).name) h1 (f e)
  omega
 ·exact h1
 have:=jo (c j g);have:=fU (q:=fun i=>same (d.mem i).name (d.mem j).name) h1 (f e.symm)
 omega
theorem ID {d:Dm} (h:(az d).2=0) {k:Nat} (b:k<d.n):whL d (d.mem k).name.data.toList=(k:Int):=by
 rcases whL_cases d (d.mem k).name.data.toList with ⟨_,a⟩ | ⟨m,c,a,e⟩
 ·exact absurd rfl (a k b)
 rw [c,Cj h a b e]
def kf (d:Dm) (i:Nat):List (List UInt8):=dq (bG (d.mem i).formula) (bG (d.mem i).formula).length
theorem nG {l:List Nd} {x:Nd} (a:x∈l) (h:x.op=2):x.name.data.toList∈dq l l.length:=by
 unfold dq;rw [List.take_length];exact List.mem_map.2 ⟨x,List.mem_filter.2 ⟨a,by simp [h]⟩,rfl⟩
theorem zL {l:List Nd} {nm:List UInt8} (h:nm∈dq l l.length):∃ x∈l,x.op=2∧x.name.data.toList=nm:=by
 unfold dq at h;rw [List.take_length] at h;obtain ⟨x,c,rfl⟩:=List.mem_map.1 h;obtain ⟨a,b⟩:=List.mem_filter.1 c;exact ⟨x,a,by simpa using b,rfl⟩
def mErr (d:Dm) (i:Nat):Int:=if (d.mem i).formula.size=0 then 0 else if prsE (d.mem i).formula≠0 then prsE (d.mem i).formula else if (kf d i).any (fun nm=>decide (whL d nm<0))=true then 5 else 0
def vV (d:Dm) (k:Int):Bool:=decide ((d.mem k.toNat).sign≠0)
def Ah (d:Dm) (i k:Nat):Bool:=if (d.mem i).formula.size=0 then iG d.mem i k && vV d k else (kf d i).contains (d.mem k).name.data.toList
def eo (d:Dm) (i:Nat):List Int:=selTo (Ah d i) d.n
theorem iz (d:Dm) (i:Nat):(eo d i).Pairwise (· < ·):=fh _ _
theorem em {d:Dm} {i:Nat} {x:Int} (h:x∈eo d i):0≤x∧x<(d.n:Int):=by
 obtain ⟨m,rfl,a,-⟩:=cQ x h
 omega
theorem sx (d:Dm) (i:Nat):(eo d i).length≤d.n:=cF _ _
def eS (d:Dm):List (List Int):=(List.range d.n).map (eo d)
theorem fF (d:Dm):(eS d).length=d.n:=by simp [eS]
theorem mj {d:Dm} {i:Nat} (h:i<d.n):(eS d).getD i []=eo d i:=by
 unfold eS
 simp [List.getD,h]
theorem lc (d:Dm):ni (eS d):=fun i a x b=>by
 rw [fF] at a ⊢;rw [mj a] at b;exact em b
def tF (d:Dm) (i:Nat):Bool:=decide (mErr d i≠0)
noncomputable def bu (d:Dm):Int×Int :=
 if (az d).2≠0 then az d
 else if 0≤findFrom (tF d) d.n 0 then (findFrom (tF d) d.n 0,mErr d (findFrom (tF d) d.n 0).toNat)
 else if 0≤findFrom (cycB (eS d)) d.n 0 then (findFrom (cycB (eS d)) d.n 0,8)
 else (-1,0)
theorem Kd {d:Dm} (h:(az d).2≠0):bu d=az d:=by unfold bu;rw [if_pos h]
theorem J7 {d:Dm} (h:(az d).2=0) {i:Nat} (f:i<d.n) (a:mErr d i≠0) (b:∀ j,j<i→mErr d j=0):bu d=((i:Int),mErr d i):=by
 have e:findFrom (tF d) d.n 0=(i:Int):=eM (zU) (by omega) (decide_eq_true a) fun j _ c=>decide_eq_false (by simpa using b j c)
 unfold bu;rw [if_neg (by simpa using h),e,if_pos (by omega),Int.toNat_natCast]
theorem JV {d:Dm} (a:∀ j,j<d.n→mErr d j=0):findFrom (tF d) d.n 0 = -1:=bQ fun j _ b=>decide_eq_false (by simpa using a j (by omega))
theorem Ke {d:Dm} (h:(az d).2=0) (b:∀ j,j<d.n→mErr d j=0) {i:Nat} (f:i<d.n) (a:cycB (eS d) i=true) (e:∀ j,j<i→cycB (eS d) j=false):bu d=((i:Int),8):=by
 unfold bu;rw [if_neg (by simpa using h),JV b,if_neg (by omega),eM (zU) (by omega) a fun j _ c=>e j c,if_pos (by omega)]
theorem Kf {d:Dm} (h:(az d).2=0) (a:∀ j,j<d.n→mErr d j=0) (b:∀ j,j<d.n→cycB (eS d) j=false):bu d=(-1,0):=by
 unfold bu;rw [if_neg (by simpa using h),JV a,if_neg (by omega),bQ fun j _ c=>b j (by omega),if_neg (by omega)]
theorem bH {d:Dm} (h:(bu d).2=0):(az d).2=0∧(∀ j,j<d.n→mErr d j=0)∧(∀ j,j<d.n→cycB (eS d) j=false)∧(bu d).1 = -1:=by
 by_cases a:(az d).2=0
 ·rcases findFrom_cases (tF d) d.n 0 with ⟨_,l⟩ | ⟨k,_,_,m,c,e⟩
  ·have f:∀ j,j<d.n→mErr d j=0:=fun j b=>by
    have:=l j (zU) (by omega)
    unfold tF at this
    simpa using this
   rcases findFrom_cases (cycB (eS d)) d.n 0 with ⟨_,o⟩ | ⟨k,_,_,m,c,e⟩
   ·have i:∀ j,j<d.n→cycB (eS d) j=false:=fun j b=>o j (zU) (by omega)
    exact ⟨a,f,i,by rw [Kf a f i]⟩
   rw [Ke a f (by omega) c fun j b=>e j (zU) b] at h
   cases h
  have g:mErr d k≠0:=of_decide_eq_true c;rw [J7 a (by omega) g fun j b=>by have:=e j (zU) b;unfold tF at this;simpa using this] at h
  exact absurd h g
 rw [Kd a] at h;exact absurd h a
theorem my {d:Dm} (h:(bu d).2=0):∀ i:Nat,i<(eS d).length→cycB (eS d) i=false:=fun i a=>(bH h).2.2.1 i (by rw [←fF d];exact a)
theorem fx {d:Dm} (n:(az d).2=0) {i:Nat} (g:(d.mem i).formula.size≠0) (c:mErr d i=0) (z:Int):z∈eo d i↔∃ nm∈kf d i,z=whL d nm:=by
 have e:∀ nm∈kf d i,0≤whL d nm:=fun nm j=>by
  unfold mErr at c;rw [if_neg g] at c
  split at c
  ·rename_i f;exact absurd c f
  split at c
  ·cases c
  rename_i a
  rw [List.any_eq_true] at a;exact Decidable.byContradiction fun b=>a ⟨nm,j,decide_eq_true (by omega)⟩
 constructor
 ·intro h
  obtain ⟨m,rfl,a,b⟩:=cQ z h;unfold Ah at b;rw [if_neg g,List.contains_iff_mem] at b;exact ⟨_,b,(ID n a).symm⟩
 rintro ⟨nm,f,rfl⟩
 rcases whL_cases d nm with ⟨a,_⟩ | ⟨k,a,b,l⟩
 ·have:=e nm f;omega
 rw [a];refine jO b ?_;unfold Ah;rw [if_neg g,List.contains_iff_mem,l];exact f
theorem gE {d:Dm} {i:Nat} (a:(d.mem i).formula.size=0):(bz d.mem d.n i).filter (vV d)=eo d i:=by
 refine sZ _ _ _ _ fun j _=>?_
 unfold Ah;rw [if_pos a,Bool.and_eq_true]
/-! sorted, each once -/
theorem Gf (zs:List (List UInt8)):(zs.mergeSort fun x y=>decide (x≤y)).Pairwise (fun a b=>a≤b):=by
 have h:=List.pairwise_mergeSort (le:=fun x y:List UInt8=>decide (x≤y)) (fun a b c h k=>by simp at *;exact List.le_trans h k) (fun a b=>by simp;exact List.le_total a b) zs
 exact h.imp fun h=>by simpa using h
theorem lA (zs:List Int):(zs.mergeSort fun x y=>decide (x≤y)).Pairwise (fun a b=>a≤b):=by
 have h:=List.pairwise_mergeSort (le:=fun x y:Int=>decide (x≤y)) (fun a b c h k=>by simp at *;omega) (fun a b=>by simp;omega) zs
 exact h.imp fun h=>by simpa using h
theorem Eq (zs:List (List UInt8)) (x:List UInt8):x∈Lib.compact zs↔x∈zs:=by
 unfold Lib.compact;have h:∀ m,m≤zs.length→∀ x,x∈Lib.compactUpTo zs.toArray m↔∃ j,j<m∧zs.toArray[j]! = x:=by
  intro m
  induction m with
  | zero=>intro _ x;simp [Lib.compactUpTo]
  | succ m ih =>
   intro k x;rw [Lib.compactUpTo_succ,List.mem_append,ih (by omega)]
   constructor
   ·rintro (⟨j,a,b⟩ | a)
    ·exact ⟨j,by omega,b⟩
    split at a
    ·exact ⟨m,by omega,(List.mem_singleton.1 a).symm⟩
    cases a
   rintro ⟨j,a,b⟩
   by_cases e:j<m
   ·exact Or.inl ⟨j,e,b⟩
   have e:j=m:=by omega
   subst e
   by_cases c:Lib.keeps zs.toArray j=true
   ·exact Or.inr (by rw [if_pos c,←b];simp)
   unfold Lib.keeps at c;rw [decide_eq_true_iff] at c;have i:j≠0:=fun e=>c (Or.inl e)
   have f:zs.toArray[j]! = zs.toArray[j-1]! := Decidable.byContradiction fun e=>c (Or.inr e)
   exact Or.inl ⟨j-1,by omega,by rw [←f];exact b⟩
 rw [h _ (zT)]
 constructor
 ·rintro ⟨j,a,rfl⟩
  rw [getElem!_pos _ j (by simpa using a)]
  simp
 intro g;obtain ⟨j,d,rfl⟩:=List.getElem_of_mem g;exact ⟨j,d,by rw [getElem!_pos _ j (by simpa using d)];simp⟩
theorem wn (zs:List (List UInt8)) (r:zs.Pairwise (fun a b=>a≤b)):(Lib.compact zs).Nodup:=by
 unfold Lib.compact;have d:∀ i j,i≤j→j<zs.length→zs.toArray[i]!≤zs.toArray[j]! := fun i j q l=>by
  rw [getElem!_pos _ i (by simp;omega),getElem!_pos _ j (by simpa using l)]
  by_cases e:i=j
  ·subst e;exact List.le_refl _
  have:=List.pairwise_iff_getElem.1 r i j (by omega) l (by omega)
  simpa using this
 have h:∀ m,m≤zs.length→(Lib.compactUpTo zs.toArray m).Nodup∧∀ x∈Lib.compactUpTo zs.toArray m,∃ j,j<m∧zs.toArray[j]! = x:=by
  intro m
  induction m with
  | zero=>intro _;exact ⟨by simp [Lib.compactUpTo],fun x c=>by simp [Lib.compactUpTo] at c⟩
  | succ m ih =>
   intro s;obtain ⟨n,k⟩:=ih (by omega)
   rw [Lib.compactUpTo_succ];refine ⟨?_,fun x c=>?_⟩
   ·rw [List.nodup_append]
    refine ⟨n,by split <;> simp,fun a p b g e=>?_⟩
    split at g
    ·rename_i hk
     rw [List.mem_singleton.1 g] at e;obtain ⟨j,o,f⟩:=k a p;unfold Lib.keeps at hk
     rcases of_decide_eq_true hk with h5 | h5
     ·omega
     refine h5 (List.le_antisymm ?_ (d (m-1) m (by omega) (by omega)))
     rw [←e,←f];exact d j (m-1) (by omega) (by omega)
    cases g
   rcases List.mem_append.1 c with c | c
   ·obtain ⟨j,o,f⟩:=k x c
    exact ⟨j,by omega,f⟩
   split at c
   ·exact ⟨m,by omega,(List.mem_singleton.1 c).symm⟩
   cases c
 exact (h _ (zT)).1
theorem dL {s:ByteArray} (h:prsE s=0):aB (bG s)=0:=by
 have a:bG s=eD s:=by unfold bG;rw [if_pos h]
 rw [a];unfold prsE at h
 split at h
 ·split at h <;> cases h
 split at h
 ·exact h
 cases h
theorem jJ {l:List Nd} (h:aB l=0):(aX l).Nodup∧∀ x,x∈aX l↔x∈dq l l.length:=by
 unfold aX;rw [if_pos h];refine ⟨wn _ (Gf _),fun x=>?_⟩
 rw [Eq];exact (List.mergeSort_perm _ _).mem_iff
theorem rI {d:Dm} (w:(az d).2=0) {i:Nat} (B:(d.mem i).formula.size≠0) (A:mErr d i=0) (C:prsE (d.mem i).formula=0):(((aX (bG (d.mem i).formula)).map (whL d)).mergeSort fun x y=>decide (x≤y))=eo d i:=by
 obtain ⟨q,o⟩:=jJ (dL C);have p:∀ z,z∈(aX (bG (d.mem i).formula)).map (whL d)↔z∈eo d i:=fun z=>by
  rw [fx w B A,List.mem_map]
  constructor
  ·rintro ⟨nm,c,rfl⟩;exact ⟨nm,(o nm).1 c,rfl⟩
  rintro ⟨nm,c,rfl⟩;exact ⟨nm,(o nm).2 c,rfl⟩
 have l:((aX (bG (d.mem i).formula)).map (whL d)).Pairwise (fun a b=>a≠b):=by
  rw [List.pairwise_map];have f:∀ nm∈aX (bG (d.mem i).formula),0≤whL d nm:=fun nm h=>(em ((p _).1 (List.mem_map.2 ⟨nm,h,rfl⟩))).1
  refine List.Pairwise.imp_of_mem (R:=fun a b=>a≠b) (fun {a b} u v g e=>?_) q
  rcases whL_cases d a with ⟨c,_⟩ | ⟨k,c,_,r⟩
  ·have:=f a u;omega
  rcases whL_cases d b with ⟨s,_⟩ | ⟨m,s,_,t⟩
  ·have:=f b v;omega
  have:k=m:=by omega
  exact g (by rw [←r,←t,this])
 refine i6 _ _ ?_ (iz d i) fun z=>?_
 ·have n:=(List.mergeSort_perm ((aX (bG (d.mem i).formula)).map (whL d)) (fun x y=>decide (x≤y)))
  have j:List.Pairwise (fun a b=>a≠b) (((aX (bG (d.mem i).formula)).map (whL d)).mergeSort fun x y=>decide (x≤y)):=n.symm.pairwise l fun {a b} h e=>h e.symm
  exact ((lA _).and j).imp fun h=>by omega
 rw [(List.mergeSort_perm _ _).mem_iff,p]
end Go.Proofs.YtompdcaikmekkaaGreatDoor
namespace Go.Proofs.YtompdcaikmekkaaGreatDoor
open Go.ChangeShapes Go.WideShapes Go.ChangeAt Go.RowKit
open Go.Sort (putRow Holds grow holds_putRow)
set_option maxRecDepth 20000
def ji (w:World) (A:Option Addr) (c:Nat) (L:List Nd):Prop:=gp w A c L∧(L=[]∨∃ b o cs fr,A=some ⟨b,o,none⟩∧w.heap[b]?=some (.cells cs 131 fr))
theorem ji.nil (w:World) (A:Option Addr) (c:Nat) (h:c≤9223372036854775807):ji w A c []:=⟨gp.nil w A c h,Or.inl rfl⟩
theorem ji.keep {w w':World} {A:Option Addr} {c:Nat} {L:List Nd} (h:ji w A c L) (j:∀ (b:Nat) (cs:Array Value) (fr:Nat×Nat),w.heap[b]?=some (Obj.cells cs 131 fr)→w'.heap[b]?=w.heap[b]?):ji w' A c L:=by
 obtain ⟨⟨g,i,f⟩,e⟩:=h
 rcases e with e | ⟨b,o,cs,fr,hA,hb⟩
 ·exact ⟨⟨g,i,Or.inl e⟩,Or.inl e⟩
 have d:=j b cs fr hb;refine ⟨⟨g,i,?_⟩,Or.inr ⟨b,o,cs,fr,hA,d.trans hb⟩⟩
 rcases f with f | ⟨b',o',hA',h5,h6⟩
 ·exact Or.inl f
 rw [hA] at hA';cases hA';refine Or.inr ⟨b,o,hA,(zY (d.trans hb)).1,fun k l=>?_⟩
 obtain ⟨m,n,p,q,r⟩:=h6 k l;exact ⟨(World.cell?_of_block (a:=⟨b,_,none⟩) d).trans m,(World.cell?_of_block (a:=⟨b,_,none⟩) d).trans n,(World.cell?_of_block (a:=⟨b,_,none⟩) d).trans p,(World.cell?_of_block (a:=⟨b,_,none⟩) d).trans q,(World.cell?_of_block (a:=⟨b,_,none⟩) d).trans r⟩
theorem ji.later {w w':World} {A:Option Addr} {c:Nat} {L:List Nd} (h:ji w A c L) (a:Bl w w'):ji w' A c L :=
 h.keep fun b _ _ d=>a.block b (zY d).1
theorem Hh {w:World} {N:Nat} {A:Option Addr} {c:Nat} {l:List Nd} (h:w.ownsRow N 131 5 (.slice A l.length c) l.length (aS l)):ji w A c l:=by
 refine ⟨Ff h,?_⟩
 rcases h.2 with ⟨a,d⟩ | ⟨g,cap,b,a,f,e,-⟩
 ·exact Or.inl (List.eq_nil_of_length_eq_zero d)
 cases a;exact Or.inr ⟨g,0,_,_,rfl,e⟩
def jR (w:World) (A:Option Addr) (c:Nat) (L:List (List UInt8)):Prop:=gJ w A c L∧(L=[]∨∃ b o cs fr,A=some ⟨b,o,none⟩∧w.heap[b]?=some (.cells cs 9 fr))
theorem jR.nil (w:World) (A:Option Addr) (c:Nat) (h:c≤9223372036854775807):jR w A c []:=⟨gJ.nil w A c h,Or.inl rfl⟩
theorem jR.keep {w w':World} {A:Option Addr} {c:Nat} {L:List (List UInt8)} (h:jR w A c L) (j:∀ (b:Nat) (cs:Array Value) (fr:Nat×Nat),w.heap[b]?=some (Obj.cells cs 9 fr)→w'.heap[b]?=w.heap[b]?):jR w' A c L:=by
 obtain ⟨⟨g,i,e⟩,d⟩:=h
 rcases d with d | ⟨b,o,cs,fr,hA,hb⟩
 ·exact ⟨⟨g,i,Or.inl d⟩,Or.inl d⟩
 have f:=j b cs fr hb;refine ⟨⟨g,i,?_⟩,Or.inr ⟨b,o,cs,fr,hA,f.trans hb⟩⟩
 rcases e with e | ⟨b',o',hA',h5,h6⟩
 ·exact Or.inl e
 rw [hA] at hA';cases hA';exact Or.inr ⟨b,o,hA,(zY (f.trans hb)).1,fun k l=>(World.cell?_of_block (a:=⟨b,_,none⟩) f).trans (h6 k l)⟩
theorem jR.later {w w':World} {A:Option Addr} {c:Nat} {L:List (List UInt8)} (h:jR w A c L) (a:Bl w w'):jR w' A c L :=
 h.keep fun b _ _ d=>a.block b (zY d).1
theorem FR {w:World} {g n:Nat} {d:Array (List UInt8)} {cs:Array Value} {T:Nat} {fr:Nat×Nat} (h:w.heap[g]?=some (.cells cs T fr)):∃ cs' fr',(putRow encStr (Sort.ahead w n) g 0 d).heap[g]?=some (.cells cs' T fr'):=by
 unfold putRow Sort.mapBlock;have a:(Sort.ahead w n).heap[g]?=some (.cells cs T fr):=h;simp only [Array.getElem?_modify,if_true,a,Option.map_some];exact ⟨_,_,rfl⟩
theorem EP {w:World} {g T:Nat} {os:Array Obj} (h:∃ cs fr,w.heap[g]?=some (.cells cs T fr)):∃ cs fr,(grow w os).heap[g]?=some (.cells cs T fr):=by
 obtain ⟨cs,fr,h⟩:=h;exact ⟨cs,fr,by rw [Sort.heap_grow_old _ _ (zY h).1];exact h⟩
theorem D4 (N p:Nat) (b:Bld) (w:World) (q:N≤w.heap.size) (l:b.nodes.length+opsN b.waiting≤200) (m:b.ready.length≤200) (n:opsN b.waiting+1≤b.ready.length) (o:b.waiting.length≤200) (d:di N p b w) :
  Calls Tryz.prog 209 #[.pointer (some ⟨p,0,none⟩)] w fun e w'=>(∃ A c,e=.returned (.slice A (settleB 0 b).nodes.length c)∧ji w' A c (settleB 0 b).nodes)∧Kept N (fun k=>k=p) w w':=by
 have h:=kG N p b 0 w q l m n o d;generalize settleB 0 b=b1 at *;clear d
 go_enter Tryz.func209,Tryz.ntmps209
 go_wp2_with fail;refine h.mono ?_;rintro e w1 ⟨rfl,⟨AN,j,AR,r,AW,s,a⟩,f⟩;have c0:=a.c0;have i:Hid (ji w1 AN j b1.nodes):=Hh a.nod;have g:=aa f;clear a f h;go_wp2_with fail;go_ret;exact ⟨⟨_,_,rfl,i.out⟩,g.out⟩
theorem oM (s:ByteArray) (w:World) (y:s.size≤100):Calls Tryz.prog 164 #[.string s] w fun e w'=>(∃ A c,e=.returned (.tuple #[.slice A (bG s).length c,.int .i64 (jt s:Int),errV (prsE s)])∧ji w' A c (bG s))∧Bl w w':=by
 have hmf:∀ (fn:Fn) (first cap:Array Value) (w:World),(Instr.makeFunc fn first cap).run Tryz.prog w=.ok (.func fn first cap) w:=fun _ _ _ _=>rfl
 have S:(s.size:Int)≤100:=by omega
 have D:Hid ((dI s).1.at'≤s.size):=IP _ (zU);have i:=BS (tkB (w.heap.size+4) w.heap.size) (Jp _ _) s noB (qr w) (by show s.size≤100;exact y) (by rw [mo];rfl) (by rw [mo];exact Nat.lt_succ_self _) (Hi w) G3 (dI s) rfl
 have E:Hid (Bl w (qr w)):=xF w;obtain ⟨W,hW⟩:=aA (qr w);have HZ:Hid ((qr w).heap.size=w.heap.size+1):=mo w;rw [hW] at i E HZ;unfold qr at hW;have U:(tkB (w.heap.size+4) w.heap.size).fv=.func (.func 206) #[.pointer (some ⟨w.heap.size,0,none⟩)] #[]:=rfl;rw [U] at i;have HI:Hid (∀ st w',(tkB (w.heap.size+4) w.heap.size).I st w'→di (w.heap.size+4) w.heap.size st w'):=fun _ _ h=>h
 have HG:Hid (∀ a o ph st,(tkB (w.heap.size+4) w.heap.size).G a o ph st→FitB a o ph st):=fun _ _ _ _ h=>h
 have O:Hid ((tkB (w.heap.size+4) w.heap.size).p=w.heap.size∧(tkB (w.heap.size+4) w.heap.size).N=w.heap.size+4):=⟨rfl,rfl⟩;generalize tkB (w.heap.size+4) w.heap.size=T at *;cases hx:(dI s).2
 ·have q:prsE s=2:=by unfold prsE;rw [if_neg (by omega),if_neg (by rw [hx];decide)]
  have z:jt s=(dI s).1.at':=by unfold jt;rw [if_neg (by omega),if_neg (by rw [hx];decide)]
  have Z:bG s=[]:=by unfold bG;rw [if_neg (by rw [q];decide)]
  rw [q,z,Z,ak (by decide)]
  have P:=aa hx;clear q z Z hx
  go_enter Tryz.func164,Tryz.ntmps164
  go_wp2_with fail;refine i.mono ?_;rintro e w1 ⟨⟨B,-⟩,⟨R,-⟩ | ⟨-,rfl⟩⟩
  ·exact absurd (P.out.symm.trans R) (by decide)
  have b:Hid (Bl w w1):=g9 E.out B (by rw [O.out.1];exact zT)
  rw [ak (by decide)]
  clear B i;go_wp2_with fail;go_returns;exact ⟨⟨none,0,rfl,ji.nil _ _ _ (by omega)⟩,b.out⟩
 have q:prsE s=aB (eD s):=by unfold prsE;rw [if_neg (by omega),if_pos hx]
 have z:jt s=0:=by unfold jt;rw [if_neg (by omega),if_pos hx]
 have P:=aa hx;have F:=aa q;have n:Hid (bG s=if prsE s=0 then eD s else []):=rfl
 have M:Hid (eD s=(settleB 0 (dI s).1.st).nodes):=rfl;rw [q,z];clear q z hx
 go_enter Tryz.func164,Tryz.ntmps164
 go_wp2_with fail;refine i.mono ?_;rintro e w1 ⟨⟨B,C⟩,⟨-,rfl,Y,X⟩ | ⟨R,-⟩⟩
 case inr=>exact absurd (P.out.symm.trans R) (by decide)
 have b:Hid (Bl w w1):=g9 E.out B (by rw [O.out.1];exact zT)
 obtain ⟨f1,Q,f3,f4,f5⟩:=HG.out _ _ _ _ X;simp only [if_true] at Q;rw [O.out.2] at C;have hat:(dI s).1.at'≤200:=by have:=D.out;omega
 have j:=D4 (w.heap.size+4) w.heap.size (dI s).1.st w1 C (by omega) (by omega) Q (by omega) (HI.out _ _ Y)
 clear B i Y X f1 Q f3 f4 f5;rw [←M.out] at j;obtain ⟨L,r⟩:=aA (eD s);have x:=aa r;rw [r] at j F n;clear r;go_wp2_with fail;refine j.mono ?_;rintro e w2 ⟨⟨A,c,rfl,t⟩,g⟩;have u:Hid (Bl w w2):=⟨g.os.trans b.out.os,g.tape.trans b.out.tape,g.output.trans b.out.output,zV b.out.size g.size,fun k V=>by rw [g.block k (by omega) (by omega)];exact b.out.block k V⟩
 have J:=aa t;have f:=oI A c L w2 t.1;clear g t j
 by_cases l:aB L=0
 ·have v:Hid (bG s=L):=by show _=_;rw [n.out,F.out,if_pos l]
  rw [l,errV_zero] at f;have H:=aa l;clear l;go_wp2_with fail;refine f.mono ?_;rintro e w3 ⟨rfl,d⟩;have m:=aa (ae u.out d);have K:=aa (J.out.later d);clear d f;go_wp2_with fail;go_returns;exact ⟨⟨A,c,by rw [v.out,x.out,H.out];rfl,by rw [v.out];exact K.out⟩,m.out⟩
 have v:Hid (bG s=[]):=by show _=_;rw [n.out,F.out,if_neg l]
 rw [ak l] at f;have H:Hid (errV (aB L)=.iface 63 (.int .i64 (aB L))):=ak l;clear l;go_wp2_with fail;refine f.mono ?_;rintro e w3 ⟨rfl,d⟩;have m:=aa (ae u.out d);clear d f;go_wp2_with fail;go_returns;exact ⟨⟨none,0,by rw [v.out,x.out,H.out];rfl,by rw [v.out];exact ji.nil _ _ _ (by omega)⟩,m.out⟩
theorem qZ (A:Option Addr) (cap:Nat) (l:List Nd) (w:World) (T:gp w A cap l):Calls Tryz.prog 165 #[.slice A l.length cap] w fun e w'=>(∃ A' c',e=.returned (.tuple #[.slice A' (aX l).length c',errV (aB l)])∧jR w' A' c' (aX l))∧Bl w w':=by
 have f:=oI A cap l w T;obtain ⟨i0,hi0,hz0,hz1,hz2⟩:=info_parts Tryz.infoStrF
 by_cases G:aB l=0
 case neg =>
  have U:aX l=[]:=by unfold aX;rw [if_neg G]
  rw [U];rw [ak G] at f ⊢;clear G U
  go_enter Tryz.func165,Tryz.ntmps165
  go_wp2_with fail;refine f.mono ?_;rintro e w1 ⟨rfl,B⟩;go_wp2_with fail;go_returns;exact ⟨⟨none,0,rfl,jR.nil _ _ _ (by omega)⟩,B⟩
 obtain ⟨Y,hl30,hg,-⟩:=dC G;have U:aX l=Lib.compact ((dq l l.length).mergeSort fun x y=>decide (x≤y)):=by unfold aX;rw [if_pos G]
 rw [G,errV_zero] at f ⊢;obtain ⟨-,-,h1 | ⟨b,o,rfl,T⟩⟩:=T
 ·rw [h1] at Y;simp at Y
 have HG:=aa hg;have HN:=aa T;have HP:=aa U;obtain ⟨n,hn⟩:=aA l.length;have HL:=aa hn;rw [hn] at f ⊢;have hni:(n:Int)≤30:=by omega
 clear G U hg T
 go_enter Tryz.func165,Tryz.ntmps165
 go_wp2_with fail;refine f.mono ?_;rintro e w1 ⟨rfl,B⟩;have HB1:=aa B;clear B f;go_wp2_with fail
 go_loopg [5,15] n (fun g s5 s15 wr => ∃ (k:Nat) (v:Value),k≤n∧g=n-k∧s15=.int .i64 k∧v=s5∧wr.ownsRow w.heap.size 9 1 v (dq l k).length ((dq l k).map encStr)∧Bl w wr)
 case atStart=>exact ⟨0,_,zU,rfl,rfl,rfl,World.ownsRow_nil _ _ _ _,HB1.out⟩
 case round =>
  obtain ⟨k,v,hk,rfl,rfl,rfl,hO,S⟩:=hrel;have p:=aa hO;have F:=aa S;have hln:=Av l k;clear hO S
  by_cases hlt:k<n
  ·have hki:(k:Int)<(n:Int):=by omega
   obtain ⟨x0,x1,x2,x3,x4⟩:=(HN.out.later F.out).nd (k:=k) (by omega)
   have hbl:b<w.heap.size:=HN.out.1;have hsz:=F.out.size;have d:=HG.out k (by omega)
   obtain ⟨x,hx⟩:=aA (l.getD k bN);have HX:=aa hx;rw [hx] at x0 x1 x2 x3 x4 d;clear hx;obtain ⟨m,hm⟩:=aA ((dq l k).length)
   by_cases Q:x.op=2
   ·have HT:Hid (dq l (k+1)=dq l k ++ [x.name.data.toList]):=Hk (by omega) HX.out Q
    have C:aT x.name=0:=by
     unfold ndErr at d;rw [if_neg (by omega),if_neg (by omega),if_pos Q] at d
     split at d
     ·cases d
     rename_i h;simpa using h
    have hns:x.name.size≤8:=by
     unfold aT at C
     split at C
     ·cases C
     omega
    have V:=fun w=>pO x.name w (by omega)
    rw [Q] at x0;rw [hm] at p;clear d C;go_wp2_with fail;refine (V _).mono ?_;rintro e w2 ⟨rfl,J⟩;have t:Hid (Bl w w2):=ae F.out (ae (by go_grown) J)
    have I:=ao p.out (ae (by go_grown) J)
    have hsz2:=t.out.size;clear J V
    go_wp2_with (at_builtin;refine wpList_append_own _ rfl _ _ 119 rfl w.heap.size 9 i0 (.string ⟨#[]⟩) 1 16 Tryz.underlying119 hi0 hz0 hz1 hz2 rfl (by decide) _ _ _ rfl (I.alloc _) ⟨w2.heap.size,0,none⟩ 1 1 [.string x.name] rfl rfl bw (by intro u hu;simp at hu;subst hu;rfl) (by unfold maxLen;omega) (by omega) (by simp;omega) ?_)
    intro v' w3 s r _;have D:Hid (Bl w w3):=bB t.out I r;have HO3:Hid (w3.ownsRow w.heap.size 9 1 v' (dq l (k+1)).length ((dq l (k+1)).map encStr)):=by
     show World.ownsRow ..
     rw [HT.out,List.length_append,List.map_append,hm];exact s
    clear s r I;go_wp2_with fail
    go_roundg (n-(k+1))
    case measure=>omega
    case rel=>exact ⟨k+1,_,by omega,rfl,by go_num,rfl,HO3.out,D.out⟩
   have HT:Hid (dq l (k+1)=dq l k):=Fk (by omega) HX.out Q
   have e2:(x.op == 2)=false:=by simpa using Q
   clear d Q;go_wp2_with fail
   go_roundg (n-(k+1))
   case measure=>omega
   case rel=>exact ⟨k+1,_,by omega,rfl,by go_num,rfl,by rw [HT.out];exact ao p.out (by go_grown),ae F.out (by go_grown)⟩
  have hke:k=n:=by omega
  subst hke;obtain ⟨zs,P⟩:=aA (dq l k);have HZ:Hid (aX l=Lib.compact (zs.mergeSort fun x y=>decide (x≤y))):=by show _=_;rw [HP.out,HL.out,P]
  rw [P] at p hln;clear P
  by_cases hz:zs=[]
  ·subst hz
   have hv:v=.slice none 0 0∨∃ g c,v=.slice (some ⟨g,0,none⟩) 0 c∧c≤maxLen:=by
    rcases p.out.2 with ⟨h,_⟩ | ⟨g,c,R,h,_,_,_,hm,_⟩
    ·exact Or.inl h
    exact Or.inr ⟨g,c,h,hm⟩
   have z:Hid (aX l=[]):=by show _=_;rw [HZ.out,List.mergeSort_nil];rfl
   rcases hv with rfl | ⟨g,c,rfl,K⟩
   ·have i:=Any.slices_Sort_string_none Tryz.lays190 none 0 wr
    have a:=Any.slices_Compact_string_empty Tryz.lays194 none 0 wr;clear p;go_wp2_with fail;refine Calls.mono i ?_;rintro e w2 ⟨rfl,rfl⟩;go_wp2_with fail;refine Calls.mono a ?_;rintro e w3 ⟨rfl,rfl⟩;go_wp2_with fail;go_returns;exact ⟨⟨none,0,by rw [z.out];rfl,by rw [z.out];exact jR.nil _ _ _ (by omega)⟩,F.out⟩
   have i:=Any.slices_Sort_string_none Tryz.lays190 (some ⟨g,0,none⟩) c wr;have a:=Any.slices_Compact_string_empty Tryz.lays194 (some ⟨g,0,none⟩) c wr;clear p;go_wp2_with fail;refine Calls.mono i ?_;rintro e w2 ⟨rfl,rfl⟩;go_wp2_with fail;refine Calls.mono a ?_;rintro e w3 ⟨rfl,rfl⟩;go_wp2_with fail;go_returns;exact ⟨⟨some ⟨g,0,none⟩,c,by rw [z.out];rfl,by rw [z.out];exact jR.nil _ _ _ (by unfold maxLen at K;omega)⟩,F.out⟩
  have hpos:0<zs.length:=List.length_pos_iff.2 hz;obtain ⟨g,c,rfl,W,X,hnc,K,-,hH⟩:=Lib.holds_of_ownsRow p.out (by intro e;have:=p.out.2;rcases this with ⟨_,h⟩ | ⟨g,c,R,h,_⟩;omega;rw [e] at h;cases h)
  have HTy:Hid (∃ cs fr,wr.heap[g]?=some (.cells cs 9 fr)):=by
   rcases p.out.2 with ⟨h,-⟩ | ⟨g',c',R,h,-,hg',-⟩
   ·cases h
   cases h;exact ⟨_,_,hg'⟩
  have i:=Any.slices_Sort_string Tryz.lays190 g 0 c zs wr hH X (by omega)
  clear p;go_wp2_with fail;refine Calls.mono i ?_;rintro e w2 ⟨rfl,q,os,j⟩;obtain ⟨ys,O⟩:=aA ((zs.mergeSort fun x y=>decide (x≤y)))
  have N:ys.length=zs.length:=by rw [←O];exact List.length_mergeSort zs
  rw [O] at HZ j;have t:Hid (Bl w w2):=by rw [j];exact td F.out W
  have hg2:g<w2.heap.size:=by rw [j];simp;omega
  have H:Holds encStr w2 g 0 ys.toArray:=by
   rw [j];exact Sort.holds_grow encStr _ _ _ _ _ (by simpa using X) (holds_putRow encStr (Sort.ahead wr q) g 0 zs.toArray _ hH (by simp [N]))
  have a:=Any.slices_Compact_string Tryz.lays194 g 0 c ys w2 H (by omega) (by omega)
  rw [N] at a;have HT2:Hid (∃ cs fr,w2.heap[g]?=some (.cells cs 9 fr)):=by
   obtain ⟨cs,fr,L⟩:=HTy.out;rw [j];exact EP (FR (n:=q) L)
  have E:Hid (∀ q2,gJ (putRow encStr (Sort.ahead w2 q2) g 0 (Lib.compact ys ++ List.replicate (ys.length-(Lib.compact ys).length) []).toArray) (some ⟨g,0,none⟩) c (Lib.compact ys)):=fun q2=>u9 H (by omega) K hg2
  rw [N] at E;clear j O i hH H;go_wp2_with fail;refine Calls.mono a ?_;rintro e w3 ⟨rfl,q2,M⟩;have D:Hid (Bl w w3):=by rw [M];exact sN t.out W
  have HS3:Hid (jR w3 (some ⟨g,0,none⟩) c (Lib.compact ys)):=by
   rw [M];obtain ⟨cs,fr,L⟩:=HT2.out;obtain ⟨cs',fr',Z⟩:=FR (n:=q2) L;exact ⟨E.out q2,Or.inr ⟨g,0,_,_,rfl,Z⟩⟩
  clear M a E;go_wp2_with fail;go_returns;exact ⟨⟨some ⟨g,0,none⟩,c,by rw [HZ.out];rfl,by rw [HZ.out];exact HS3.out⟩,D.out⟩
theorem EM (s:ByteArray) (w:World) (a:s.size≤100):Calls Tryz.prog 164 #[.string s] w fun e w'=>(∃ A c,e=.returned (.tuple #[.slice A (bG s).length c,.int .i64 (jt s:Int),errV (prsE s)])∧gp w' A c (bG s))∧Bl w w' :=
 (oM s w a).mono fun _ _ ⟨⟨A,c,b,d⟩,f⟩=>⟨⟨A,c,b,d.1⟩,f⟩
theorem G4 (A:Option Addr) (cap:Nat) (l:List Nd) (w:World) (f:gp w A cap l):Calls Tryz.prog 165 #[.slice A l.length cap] w fun e w'=>(∃ A' a,e=.returned (.tuple #[.slice A' (aX l).length a,errV (aB l)])∧gJ w' A' a (aX l))∧Bl w w' :=
 (qZ A cap l w f).mono fun _ _ ⟨⟨A',a,b,c⟩,d⟩=>⟨⟨A',a,b,c.1⟩,d⟩
end Go.Proofs.YtompdcaikmekkaaGreatDoor
