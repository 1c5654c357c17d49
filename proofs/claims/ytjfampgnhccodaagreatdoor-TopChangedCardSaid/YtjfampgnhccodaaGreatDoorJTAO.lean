/- An outline copied: wha -/
import Derived.Test.YtjfampgnhccodaaGreatDoorShelfG
import Derived.Laws.Cover1
import Derived.Test.YtjfampgnhccodaaGreatDoorJTAM
import Derived.Test.YtjfampgnhccodaaGreatDoorJTAN
namespace Go.Proofs.YtjfampgnhccodaaGreatDoor
open Tryz ChangeShapes WideShapes ChangeAt RowKit
set_option maxRecDepth 99999
set_option maxHeartbeats 0
theorem infoMemH:(prog.info? 64).map (fun i=>(i.zero,i.size,i.bytes))=some (some (.agg #[.string ⟨#[]⟩,.int .i64 0,.int .i64 0,.string ⟨#[]⟩]),4,48):=by kernel_rfl
theorem infoDimH:(prog.info? 67).map (fun i=>(i.zero,i.size,i.bytes))=some (some (.agg #[.string ⟨#[]⟩,.int .i64 0,.slice none 0 0]),3,48):=by kernel_rfl
def yZ(D:Nat->Dm)(A:Nat->Option Addr)(C:Nat->Nat)(j:Nat):Value:=if j % 3=0 then .string (D (j / 3)).name else if j % 3=1 then .int .i64 (D (j / 3)).solve else .slice (A (j / 3)) (D (j / 3)).n (C (j / 3))
def qA(M:Nat->Mem)(j:Nat):Value:=if j % 4=0 then .string (M (j / 4)).name else if j % 4=1 then .int .i64 (M (j / 4)).parent else if j % 4=2 then .int .i64 (M (j / 4)).sign else .string (M (j / 4)).formula
def rowF(f:Nat->Value)(n:Nat):List Value:=(List.range n).map f
theorem fR(f:Nat->Value)(n:Nat):(rowF f n).length=n:=by simp[rowF]
theorem DH{f:Nat->Value}{n j:Nat}{u:Value}(h:(rowF f n)[j]?=some u):j<n/\u=f j:=by
 have a:j<n:=by have:=(List.getElem?_eq_some_iff.1 h).1;rwa [fR]at this
 simp[rowF,List.getElem?_range a]at h
 exact⟨a,h.symm⟩
theorem iS(f:Nat->Value){n j:Nat}(h:j<n):(rowF f n)[j]?=some (f j):=by simp[rowF,List.getElem?_range h]
theorem La(D:Nat->Dm)(A:Nat->Option Addr)(C:Nat->Nat)(n:Nat):∀u∈rowF (yZ D A C) n,u.oneCell'=true:=fun u a=>by
 unfold rowF at a;obtain⟨j,-,rfl⟩:=List.mem_map.1 a;unfold yZ
 split
 ·rfl
 split<;>rfl
theorem Dq(M:Nat->Mem)(n:Nat):∀u∈rowF (qA M) n,u.oneCell'=true:=fun u a=>by
 unfold rowF at a;obtain⟨j,-,rfl⟩:=List.mem_map.1 a;unfold qA
 split
 ·rfl
 split
 ·rfl
 split<;>rfl
theorem eh.dc{w:World}{b o n:Nat}{D:Nat->Dm}{A:Nat->Option Addr}{C:Nat->Nat}(h:eh w b o n D A C){j:Nat}(f:j<n*3):w.cell? ⟨b,o+j,none⟩=some (yZ D A C j):=by
 obtain⟨a,c,d,-⟩:=h.2 (j / 3) ω
 unfold yZ
 split
 ·rename_i e;rw[show o+j=o+j / 3*3 by omega];exact a
 split
 ·rename_i e;rw[show o+j=o+j / 3*3+1 by omega];exact c
 rw[show o+j=o+j / 3*3+2 by omega];exact d
theorem cI.mc{w:World}{b o n:Nat}{M:Nat->Mem}(h:cI w b o n M){j:Nat}(f:j<n*4):w.cell? ⟨b,o+j,none⟩=some (qA M j):=by
 obtain⟨a,c,d,e⟩:=h.2 (j / 4) ω
 unfold qA
 split
 ·rw[show o+j=o+j / 4*4 by omega];exact a
 split
 ·rw[show o+j=o+j / 4*4+1 by omega];exact c
 split
 ·rw[show o+j=o+j / 4*4+2 by omega];exact d
 rw[show o+j=o+j / 4*4+3 by omega];exact e
def vB(w:World)(g n:Nat)(M:Nat->Mem):Prop := ∃cur fr,w.heap[g]?=some (.cells cur 64 fr)/\∀j,j<n*4->cur[j]?=some (qA M j)
theorem vB.lt{w:World}{g n:Nat}{M:Nat->Mem}(h:vB w g n M):g<w.heap.size:=by
 obtain⟨a,fr,b,-⟩:=h;exact(zY b).1
theorem vB.same{w w':World}{g n:Nat}{M:Nat->Mem}(h:vB w g n M)(d:w'.heap[g]?=w.heap[g]?):vB w' g n M:=by
 obtain⟨a,fr,b,c⟩:=h;exact⟨a,fr,d.trans b,c⟩
theorem vB.mems{w:World}{g n:Nat}{M:Nat->Mem}(h:vB w g n M):cI w g 0 n M:=by
 refine⟨h.lt,fun i d=>?_⟩
 obtain⟨a,fr,b,c⟩:=h;have e:∀k,k<4->w.cell? ⟨g,0+i*4+k,none⟩=some (qA M (i*4+k)):=fun k f=>by
  rw[Lib.cell_of_heap b,Nat.zero_add];exact c _ ω
 refine⟨(e 0 ω).trans ?_,(e 1 ω).trans ?_,(e 2 ω).trans ?_,(e 3 ω).trans ?_⟩
 ·unfold qA;rw[if_pos ω,show(i*4+0) / 4=i by omega]
 ·unfold qA;rw[if_neg ω,if_pos ω,show(i*4+1) / 4=i by omega]
 ·unfold qA;rw[if_neg ω,if_neg ω,if_pos ω,show(i*4+2) / 4=i by omega]
 unfold qA;rw[if_neg ω,if_neg ω,if_neg ω,show(i*4+3) / 4=i by omega]
theorem mz{w:World}{g k T:Nat}{cs:Array Value}{fr:Nat×Nat}{v:Value}(h:w.heap[g]?=some (.cells cs T fr)):(w.setCell ⟨g,k,none⟩ v).heap[g]?=some (.cells (cs.setIfInBounds k v) T fr):=by
 rw[Sort.setCell_eq];unfold Sort.mapBlock;simp only[Array.getElem?_modify,if_true,h,Option.map_some]
 rfl
def vz(w:World)(g n:Nat)(f:Nat->Value):Prop := ∃cur,w.heap[g]?=some (.cells cur 67 (0,0))/\∀j,j<n*3->cur[j]?=some (f j)
theorem vz.lt{w:World}{g n:Nat}{f:Nat->Value}(h:vz w g n f):g<w.heap.size:=by
 obtain⟨a,b,-⟩:=h;exact(zY b).1
theorem vz.same{w w':World}{g n:Nat}{f:Nat->Value}(h:vz w g n f)(d:w'.heap[g]?=w.heap[g]?):vz w' g n f:=by
 obtain⟨a,b,c⟩:=h;exact⟨a,d.trans b,c⟩
theorem vz.cell{w:World}{g n:Nat}{f:Nat->Value}(h:vz w g n f){j:Nat}(d:j<n*3):w.cell? ⟨g,j,none⟩=some (f j):=by
 obtain⟨a,b,c⟩:=h;rw[Lib.cell_of_heap b];exact c j d
def lv(w:World)(N g n:Nat)(D:Nat->Dm)(G C:Nat->Nat):Prop:=N<=g/\vz w g n (yZ D (fun i=>some ⟨G i,0,none⟩) C)/\∀i,i<n->N<=G i/\(D i).n<=C i/\vB w (G i) (D i).n (D i).mem
theorem lv.dims{w:World}{N g n:Nat}{D:Nat->Dm}{G C:Nat->Nat}(h:lv w N g n D G C):eh w g 0 n D (fun i=>some ⟨G i,0,none⟩) C:=by
 refine⟨h.2.1.lt,fun i c=>?_⟩
 have e:∀k,k<3->w.cell? ⟨g,0+i*3+k,none⟩=some (yZ D (fun i=>some ⟨G i,0,none⟩) C (i*3+k)):=fun k d=>by
  rw[Nat.zero_add];exact h.2.1.cell ω
 obtain⟨-,a,b⟩:=h.2.2 i c;refine⟨(e 0 ω).trans ?_,(e 1 ω).trans ?_,(e 2 ω).trans ?_,a,Or.inr ⟨G i,0,rfl,b.mems⟩⟩
 ·unfold yZ;rw[if_pos ω,show(i*3+0) / 3=i by omega]
 ·unfold yZ;rw[if_neg ω,if_pos ω,show(i*3+1) / 3=i by omega]
 unfold yZ;rw[if_neg ω,if_neg ω,show(i*3+2) / 3=i by omega]
def whL(d:Dm)(nm:List UInt8):Int:=findFrom (fun j=>same (d.mem j).name ⟨nm.toArray⟩) d.n 0
theorem oK(s:ByteArray)(nm:List UInt8):same s ⟨nm.toArray⟩=decide (s.data.toList=nm):=by
 unfold same;rw[ByteArray.toList_eq,ByteArray.toList_eq]
 by_cases h:s.data.toList=nm
 ·simp[h]
 simp[h]
theorem whL_cases(d:Dm)(nm:List UInt8):(whL d nm = -1/\∀j,j<d.n->(d.mem j).name.data.toList≠nm)\/∃k:Nat,whL d nm=(k:Int)/\k<d.n/\(d.mem k).name.data.toList=nm:=by
 unfold whL
 rcases findFrom_cases (fun j=>same (d.mem j).name ⟨nm.toArray⟩) d.n 0 with⟨a,c⟩|⟨k,a,_,e,b,_⟩
 ·refine Or.inl ⟨a,fun j f=>?_⟩
  have:=c j zU ω
  rw[oK]at this;exact of_decide_eq_false this
 refine Or.inr ⟨k,a,ω,?_⟩
 rw[oK]at b;exact of_decide_eq_true b
theorem Fi{d:Dm}(h:(am d).2=0){j k:Nat}(g:j<d.n)(l:k<d.n)(e:(d.mem j).name.data.toList=(d.mem k).name.data.toList):j=k:=by
 obtain⟨_,_,_,c⟩:=aq h;have f:∀ {a b:Nat},(d.mem a).name.data.toList=(d.mem b).name.data.toList->same (d.mem a).name (d.mem b).name=true:=fun{a b} e=>by
  unfold same;rw[ByteArray.toList_eq,ByteArray.toList_eq,e]
  simp
 rcases Nat.lt_trichotomy j k with h1|h1|h1
 ·have:=gH (c k l)
  have:=bJ (q:=fun i=>same (d.mem i).name (d.mem k).name) h1 (f e)
  omega
 ·exact h1
 have:=gH (c j g);have:=bJ (q:=fun i=>same (d.mem i).name (d.mem j).name) h1 (f e.symm)
 omega
theorem MP{d:Dm}(h:(am d).2=0){k:Nat}(b:k<d.n):whL d (d.mem k).name.data.toList=(k:Int):=by
 rcases whL_cases d (d.mem k).name.data.toList with⟨_,a⟩|⟨m,c,a,e⟩
 ·exact absurd rfl (a k b)
 rw[c,Fi h a b e]
def ox(d:Dm)(i:Nat):List (List UInt8):=dD (bK (d.mem i).formula) (bK (d.mem i).formula).length
theorem LT{l:List Nd}{x:Nd}(a:x∈l)(h:x.op=2):x.name.data.toList∈dD l l.length:=by
 unfold dD;rw[List.take_length];exact List.mem_map.2 ⟨x,List.mem_filter.2 ⟨a,by simp[h]⟩,rfl⟩
def mErr(d:Dm)(i:Nat):Int:=if(d.mem i).formula.size=0 then 0 else if prsE (d.mem i).formula≠0 then prsE (d.mem i).formula else if(ox d i).any (fun nm=>decide (whL d nm<0))=true then 5 else 0
def KO(d:Dm)(k:Int):Bool:=decide ((d.mem k.toNat).sign≠0)
def Ds(d:Dm)(i k:Nat):Bool:=if(d.mem i).formula.size=0 then bD d.mem i k&&KO d k else(ox d i).contains (d.mem k).name.data.toList
def f9(d:Dm)(i:Nat):List Int:=selTo (Ds d i) d.n
theorem jT(d:Dm)(i:Nat):(f9 d i).Pairwise (· < ·):=gK _ _
theorem fA{d:Dm}{i:Nat}{x:Int}(h:x∈f9 d i):0<=x/\x<(d.n:Int):=by
 obtain⟨m,rfl,a,-⟩:=dy x h
 omega
theorem LG(d:Dm)(i:Nat):(f9 d i).length<=d.n:=ea _ _
def jz(d:Dm):List (List Int):=(List.range d.n).map (f9 d)
theorem gX(d:Dm):(jz d).length=d.n:=by simp[jz]
theorem Bj{d:Dm}{i:Nat}(h:i<d.n):(jz d).getD i []=f9 d i:=by
 unfold jz
 simp[List.getD,h]
theorem pd(d:Dm):rZ (jz d):=fun i a x b=>by
 rw[gX]at a|-;rw[Bj a]at b;exact fA b
def vK(d:Dm)(i:Nat):Bool:=decide (mErr d i≠0)
noncomputable def bB(d:Dm):Int×Int :=
 if(am d).2≠0 then am d
 else if 0<=findFrom (vK d) d.n 0 then(findFrom (vK d) d.n 0,mErr d (findFrom (vK d) d.n 0).toNat)
 else if 0<=findFrom (cycB (jz d)) d.n 0 then(findFrom (cycB (jz d)) d.n 0,8)
 else(-1,0)
theorem Pj{d:Dm}(h:(am d).2≠0):bB d=am d:=by unfold bB;rw[if_pos h]
theorem Pk{d:Dm}(h:(am d).2=0){i:Nat}(f:i<d.n)(a:mErr d i≠0)(b:∀j,j<i->mErr d j=0):bB d=((i:Int),mErr d i):=by
 have e:findFrom (vK d) d.n 0=(i:Int):=fN zU ω (decide_eq_true a) fun j _ c=>decide_eq_false (by simpa using b j c)
 unfold bB;rw[if_neg (by simpa using h),e,if_pos ω,Int.toNat_natCast]
theorem OH{d:Dm}(a:∀j,j<d.n->mErr d j=0):findFrom (vK d) d.n 0 = -1:=aN fun j _ b=>decide_eq_false (by simpa using a j ω)
theorem Pm{d:Dm}(h:(am d).2=0)(b:∀j,j<d.n->mErr d j=0){i:Nat}(f:i<d.n)(a:cycB (jz d) i=true)(e:∀j,j<i->cycB (jz d) j=false):bB d=((i:Int),8):=by
 unfold bB;rw[if_neg (by simpa using h),OH b,if_neg ω,fN zU ω a fun j _ c=>e j c,if_pos ω]
theorem O5{d:Dm}(h:(am d).2=0)(a:∀j,j<d.n->mErr d j=0)(b:∀j,j<d.n->cycB (jz d) j=false):bB d=(-1,0):=by
 unfold bB;rw[if_neg (by simpa using h),OH a,if_neg ω,aN fun j _ c=>b j ω,if_neg ω]
theorem bw{d:Dm}(h:(bB d).2=0):(am d).2=0/\(∀j,j<d.n->mErr d j=0)/\(∀j,j<d.n->cycB (jz d) j=false)/\(bB d).1 = -1:=by
 by_cases a:(am d).2=0
 ·rcases findFrom_cases (vK d) d.n 0 with⟨_,l⟩|⟨k,_,_,m,c,e⟩
  ·have f:∀j,j<d.n->mErr d j=0:=fun j b=>by
    have:=l j zU ω
    unfold vK at this
    simpa using this
   rcases findFrom_cases (cycB (jz d)) d.n 0 with⟨_,o⟩|⟨k,_,_,m,c,e⟩
   ·have i:∀j,j<d.n->cycB (jz d) j=false:=fun j b=>o j zU ω
    exact⟨a,f,i,by rw[O5 a f i]⟩
   rw[Pm a f ω c fun j b=>e j zU b]at h
   cases h
  have g:mErr d k≠0:=of_decide_eq_true c;rw[Pk a ω g fun j b=>by have:=e j zU b;unfold vK at this;simpa using this]at h
  exact absurd h g
 rw[Pj a]at h;exact absurd h a
theorem nB{d:Dm}(h:(bB d).2=0):∀i:Nat,i<(jz d).length->cycB (jz d) i=false:=fun i a=>(bw h).2.2.1 i (by rw[←gX d];exact a)
theorem jj{d:Dm}(n:(am d).2=0){i:Nat}(g:(d.mem i).formula.size≠0)(c:mErr d i=0)(z:Int):z∈f9 d i↔∃nm∈ox d i,z=whL d nm:=by
 have e:∀nm∈ox d i,0<=whL d nm:=fun nm j=>by
  unfold mErr at c;rw[if_neg g]at c
  split at c
  ·rename_i f;exact absurd c f
  split at c
  ·cases c
  rename_i a
  rw[List.any_eq_true]at a;exact Decidable.byContradiction fun b=>a ⟨nm,j,decide_eq_true ω⟩
 constructor
 ·intro h
  obtain⟨m,rfl,a,b⟩:=dy z h;unfold Ds at b;rw[if_neg g,List.contains_iff_mem]at b;exact⟨_,b,(MP n a).symm⟩
 rintro⟨nm,f,rfl⟩
 rcases whL_cases d nm with⟨a,_⟩|⟨k,a,b,l⟩
 ·have:=e nm f;omega
 rw[a];refine ks b ?_;unfold Ds;rw[if_neg g,List.contains_iff_mem,l];exact f
theorem jn{d:Dm}{i:Nat}(a:(d.mem i).formula.size=0):(gb d.mem d.n i).filter (KO d)=f9 d i:=by
 refine ve _ _ _ _ fun j _=>?_
 unfold Ds;rw[if_pos a,Bool.and_eq_true]
/-! sorted, each once -/
theorem Ka(zs:List (List UInt8)):(zs.mergeSort fun x y=>decide (x<=y)).Pairwise (fun a b=>a<=b):=by
 have h:=List.pairwise_mergeSort (le:=fun x y:List UInt8=>decide (x<=y)) (fun a b c h k=>by simp at *;exact List.le_trans h k) (fun a b=>by simp;exact List.le_total a b) zs
 exact h.imp fun h=>by simpa using h
theorem mA(zs:List Int):(zs.mergeSort fun x y=>decide (x<=y)).Pairwise (fun a b=>a<=b):=by
 have h:=List.pairwise_mergeSort (le:=fun x y:Int=>decide (x<=y)) (fun a b c h k=>by simp at *;omega) (fun a b=>by simp;omega) zs
 exact h.imp fun h=>by simpa using h
theorem Hk(zs:List (List UInt8))(x:List UInt8):x∈Lib.compact zs↔x∈zs:=by
 unfold Lib.compact;have h:∀m,m<=zs.length->∀x,x∈Lib.compactUpTo zs.toArray m↔∃j,j<m/\zs.toArray[j]! =x:=by
  intro m
  induction m with
  |zero=>intro _ x;simp[Lib.compactUpTo]
  |succ m ih =>
   intro k x;rw[Lib.compactUpTo_succ,List.mem_append,ih ω]
   constructor
   ·rintro(⟨j,a,b⟩|a)
    ·exact⟨j,ω,b⟩
    split at a
    ·exact⟨m,ω,(List.mem_singleton.1 a).symm⟩
    cases a
   rintro⟨j,a,b⟩
   by_cases e:j<m
   ·exact Or.inl ⟨j,e,b⟩
   have e:j=m:=ω;subst e
   by_cases c:Lib.keeps zs.toArray j=true
   ·exact Or.inr (by rw[if_pos c,←b];simp)
   unfold Lib.keeps at c;rw[decide_eq_true_iff]at c;have i:j≠0:=fun e=>c (Or.inl e)
   have f:zs.toArray[j]! =zs.toArray[j-1]! :=Decidable.byContradiction fun e=>c (Or.inr e)
   exact Or.inl ⟨j-1,ω,by rw[←f];exact b⟩
 rw[h _ zT]
 constructor
 ·rintro⟨j,a,rfl⟩
  rw[getElem!_pos _ j (by simpa using a)]
  simp
 intro g;obtain⟨j,d,rfl⟩:=List.getElem_of_mem g;exact⟨j,d,by rw[getElem!_pos _ j (by simpa using d)];simp⟩
theorem zo(zs:List (List UInt8))(r:zs.Pairwise (fun a b=>a<=b)):(Lib.compact zs).Nodup:=by
 unfold Lib.compact;have d:∀i j,i<=j->j<zs.length->zs.toArray[i]!<=zs.toArray[j]! :=fun i j q l=>by
  rw[getElem!_pos _ i (by simp;omega),getElem!_pos _ j (by simpa using l)]
  by_cases e:i=j
  ·subst e;exact List.le_refl _
  have:=List.pairwise_iff_getElem.1 r i j ω l ω
  simpa using this
 have h:∀m,m<=zs.length->(Lib.compactUpTo zs.toArray m).Nodup/\∀x∈Lib.compactUpTo zs.toArray m,∃j,j<m/\zs.toArray[j]! =x:=by
  intro m
  induction m with
  |zero=>intro _;exact⟨by simp[Lib.compactUpTo],fun x c=>by simp[Lib.compactUpTo]at c⟩
  |succ m ih =>
   intro s;obtain⟨n,k⟩:=ih ω
   rw[Lib.compactUpTo_succ];refine⟨?_,fun x c=>?_⟩
   ·rw[List.nodup_append]
    refine⟨n,by split<;>simp,fun a p b g e=>?_⟩
    split at g
    ·rename_i hk
     rw[List.mem_singleton.1 g]at e;obtain⟨j,o,f⟩:=k a p;unfold Lib.keeps at hk
     rcases of_decide_eq_true hk with h5|h5
     ·omega
     refine h5 (List.le_antisymm ?_ (d (m-1) m ω ω))
     rw[←e,←f];exact d j (m-1) ω ω
    cases g
   rcases List.mem_append.1 c with c|c
   ·obtain⟨j,o,f⟩:=k x c
    exact⟨j,ω,f⟩
   split at c
   ·exact⟨m,ω,(List.mem_singleton.1 c).symm⟩
   cases c
 exact(h _ zT).1
theorem eH{s:ByteArray}(h:prsE s=0):ax (bK s)=0:=by
 have a:bK s=fU s:=by unfold bK;rw[if_pos h]
 rw[a];unfold prsE at h
 split at h
 ·split at h<;>cases h
 split at h
 ·exact h
 cases h
theorem kr{l:List Nd}(h:ax l=0):(aP l).Nodup/\∀x,x∈aP l↔x∈dD l l.length:=by
 unfold aP;rw[if_pos h];refine⟨zo _ (Ka _),fun x=>?_⟩
 rw[Hk];exact(List.mergeSort_perm _ _).mem_iff
theorem tM{d:Dm}(w:(am d).2=0){i:Nat}(B:(d.mem i).formula.size≠0)(A:mErr d i=0)(C:prsE (d.mem i).formula=0):(((aP (bK (d.mem i).formula)).map (whL d)).mergeSort fun x y=>decide (x<=y))=f9 d i:=by
 obtain⟨q,o⟩:=kr (eH C);have p:∀z,z∈(aP (bK (d.mem i).formula)).map (whL d)↔z∈f9 d i:=fun z=>by
  rw[jj w B A,List.mem_map]
  constructor
  ·rintro⟨nm,c,rfl⟩;exact⟨nm,(o nm).1 c,rfl⟩
  rintro⟨nm,c,rfl⟩;exact⟨nm,(o nm).2 c,rfl⟩
 have l:((aP (bK (d.mem i).formula)).map (whL d)).Pairwise (fun a b=>a≠b):=by
  rw[List.pairwise_map];have f:∀nm∈aP (bK (d.mem i).formula),0<=whL d nm:=fun nm h=>(fA ((p _).1 (List.mem_map.2 ⟨nm,h,rfl⟩))).1
  refine List.Pairwise.imp_of_mem (R:=fun a b=>a≠b) (fun{a b} u v g e=>?_) q
  rcases whL_cases d a with⟨c,_⟩|⟨k,c,_,r⟩
  ·have:=f a u;omega
  rcases whL_cases d b with⟨s,_⟩|⟨m,s,_,t⟩
  ·have:=f b v;omega
  have:k=m:=ω;exact g (by rw[←r,←t,this])
 refine mu _ _ ?_ (jT d i) fun z=>?_
 ·have n:=(List.mergeSort_perm ((aP (bK (d.mem i).formula)).map (whL d)) (fun x y=>decide (x<=y)))
  have j:List.Pairwise (fun a b=>a≠b) (((aP (bK (d.mem i).formula)).map (whL d)).mergeSort fun x y=>decide (x<=y)):=n.symm.pairwise l fun{a b} h e=>h e.symm
  exact((mA _).and j).imp fun h=>ω
 rw[(List.mergeSort_perm _ _).mem_iff,p]
def MT(w:World)(A:Option Addr)(c:Nat)(N:List ByteArray):Prop:=N.length<=c/\N.length<4611686018427387904/\c<=9223372036854775807/\(N=[]\/∃b o,A=some ⟨b,o,none⟩/\b<w.heap.size/\∀j,j<N.length->w.cell? ⟨b,o+j,none⟩=some (.string (N.getD j pw)))
theorem MT.later{w w':World}{A:Option Addr}{c:Nat}{N:List ByteArray}(h:MT w A c N)(i:Bl w w'):MT w' A c N:=by
 obtain⟨d,e,f,a|⟨b,o,a,g,k⟩⟩:=h
 ·exact⟨d,e,f,Or.inl a⟩
 exact⟨d,e,f,Or.inr ⟨b,o,a,zW g i.size,fun j l=>aM i g (k j l)⟩⟩
theorem yr(An:Option Addr)(cn:Nat)(N:List ByteArray)(Ac:Option Addr)(cc:Nat)(C:List (Int×Int))(w:World)(hN:MT w An cn N)(hC:eP w Ac cc C):
  Rt 155 #[.slice An N.length cn,.slice Ac C.length cc] w (errV (dO N C)):=by
 by_cases c:C.length=N.length
 case neg =>
  have hb:((C.length:Int) !=(N.length:Int))=true:=by simp;omega
  rw[wf c,ac (by decide)]
  clear c hN hC
  go_enter func155,ntmps155
  go_wp2_with fail;go_ret;exact⟨rfl,zS⟩
 obtain⟨-,z,-,I⟩:=hN;obtain⟨-,-,G⟩:=hC;obtain⟨n,t⟩:=ar N.length;have l:=aa t;have f:=aa (c.trans t);rw[c,t];rw[t]at z 
 by_cases h0:n=0
 ·subst h0
  rw[ug (N:=N) (C:=C) c (fun j r=>by have:=f.o;omega) (fun j _ r=>ω),errV_zero]
  clear I G c t z
  go_enter func155,ntmps155
  go_wp2_with fail;refine wp_loop_rounds 1 ?_;rw[rounds_succ];go_wp2_with fail;refine wp_loop_rounds 1 ?_;rw[rounds_succ];go_wp2_with fail;go_ret;exact⟨rfl,zS⟩
 obtain⟨b,o,rfl,H⟩:=G.resolve_left (fun e=>by rw[e]at c;simp at c;omega)
 obtain⟨bn,on,rfl,K,J⟩:=I.resolve_left (fun e=>by rw[e]at t;simp at t;omega)
 have X:=aa H;have Z:=aa J;have ah:(n:Int)<4611686018427387904:=ω;have ag:0<(n:Int):=ω;clear c t H J z
 go_enter func155,ntmps155
 go_wp2_with fail
 go_loopg [17] n (fun g ae wr =>∃(k:Nat),k<=n/\g=n-k/\ae=.int .i64 k/\(∀j,j<k->gE C j=false)/\Bl w wr)
 case atStart=>exact⟨0,zU,rfl,rfl,fun j r=>absurd r (Nat.not_lt_zero j),zS⟩
 case round =>
  obtain⟨k,hk,rfl,rfl,p,d⟩:=hrel;have D:=aa p;have P:=aa d;have af:b<w.heap.size:=X.o.1;have ai:=d.size;clear p d
  by_cases M:k<n
  ·have L:(k:Int)<(n:Int):=ω;obtain⟨x0,x1⟩:=(X.o.later P.o).2 k (by rw[f.o];exact M)
   have a:=sQ (C.getD k noC).1 (C.getD k noC).2;obtain⟨kk,A⟩:=ar ((C.getD k noC).1);obtain⟨nn,B⟩:=ar ((C.getD k noC).2);have Y:Hid (gE C k = !(good kk nn)):=by show _=_;unfold gE;rw[A,B]
   rw[A]at x0 a;rw[B]at x1 a;clear A B;cases hg:good kk nn
   ·rw[hg]at a
    have F:Hid (dO N C=1):=C6 (by rw[f.o,l.o]) (i:=k) (by rw[f.o];exact M) (by rw[Y.o,hg];rfl)
    rw[if_neg (by decide)]at a
    clear hg;go_wp2_with fail;refine(a _).mono ?_;rintro e w1⟨rfl,m⟩;have u:Hid (Bl w w1):=ad P.o (ad γ m)
    clear m a;go_wp2_with fail;go_ret;exact⟨by rw[F.o];rfl,u.o⟩
   rw[hg,if_pos rfl]at a;have S:Hid (gE C k=false):=by show _=_;rw[Y.o,hg];rfl
   clear hg;go_wp2_with fail;refine(a _).mono ?_;rintro e w1⟨rfl,m⟩;have u:Hid (Bl w w1):=ad P.o (ad γ m)
   clear m a;go_wp2_with fail
   go_roundg (n-(k+1))
   case measure=>omega
   case rel=>exact⟨k+1,ω,rfl,by go_num,fun j r=>by rcases Nat.lt_succ_iff_lt_or_eq.1 r with h|h;exact D.o j h;rw[h];exact S.o,u.o⟩
  have U:k=n:=ω;subst U;have s:Hid (∀j,j<C.length->gE C j=false):=fun j r=>D.o j (by have:=f.o;omega)
  go_wp2_with fail
  go_loopg [8] k (fun g s8 ws =>∃(i:Nat),i<k/\g=k-i/\s8=.int .i64 ((i:Int)+1)/\(∀j,1<=j->j<i+1->fM N j=false)/\Bl w ws)
  case atStart=>exact⟨0,ω,rfl,rfl,fun j Q h2=>ω,P.o⟩
  case round =>
   obtain⟨i,hi,rfl,rfl,p,d⟩:=hrel;have E:=aa p;have HV:=aa d;clear p
   by_cases q:i+1<k
   ·have L:(i:Int)+1<(k:Int):=ω;have c1:=aM d K (Z.o (i+1) (by rw[l.o];exact q))
    have c0:=aM d K (Z.o i (by rw[l.o];omega))
    obtain⟨x,V⟩:=ar (N.getD (i+1) pw);obtain⟨y,W⟩:=ar (N.getD i pw);have O:Hid (fM N (i+1)=(Op.bytesLess x.toList y.toList||x.toList ==y.toList)):=by show _=_;unfold fM;rw[V,Nat.add_sub_cancel,W]
    rw[V]at c1;rw[W]at c0;have ab:(i:Int)+1-1=(i:Int):=ω;have ak:((i:Int)+1).toNat=i+1:=ω;clear V W d;cases ht:(Op.bytesLess x.toList y.toList||x.toList ==y.toList)
    ·have R:Hid (fM N (i+1)=false):=by show _=_;rw[O.o,ht]
     clear O;go_wp2_with fail
     go_quiet (fail)
     have v:Hid (Bl w (wr.drewN nq)):=aj HV.o _;go_wp2_with fail
     go_roundg (k-(i+1))
     case measure=>omega
     case rel=>exact⟨i+1,q,rfl,by go_num,fun j Q r=>by rcases Nat.lt_succ_iff_lt_or_eq.1 r with h|h;exact E.o j Q h;rw[h];exact R.o,v.o⟩
    have F:Hid (dO N C=7):=C7 (by rw[f.o,l.o]) s.o (i:=i+1) ω (by rw[l.o];exact q) (by rw[O.o,ht])
    clear O;go_wp2_with fail
    go_quiet (fail)
    have v:Hid (Bl w (wr.drewN nq)):=aj HV.o _;go_wp2_with fail;go_ret;exact⟨by rw[F.o];rfl,v.o⟩
   have T:k=i+1:=ω;have F:Hid (dO N C=0):=ug (by rw[f.o,l.o]) s.o (fun j Q r=>E.o j Q (by have:=l.o;omega))
   have L :¬(i:Int)+1<(k:Int):=ω;clear T;go_wp2_with fail;go_ret;exact⟨by rw[F.o];rfl,HV.o⟩
end Go.Proofs.YtjfampgnhccodaaGreatDoor
