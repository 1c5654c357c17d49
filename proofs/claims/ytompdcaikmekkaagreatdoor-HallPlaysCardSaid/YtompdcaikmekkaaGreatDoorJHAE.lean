/- What package tree tell -/
import Derived.OwnWalk
import Derived.WalkSpells
import Derived.WalkLawsBesides
import Derived.Test.YtompdcaikmekkaaGreatDoorJHAD
namespace Go.Proofs.YtompdcaikmekkaaGreatDoor
open ChangeShapes WideShapes ChangeAt RowKit Go
set_option maxRecDepth 99999
set_option maxHeartbeats 0
def Tr (M:Nat→Mem) (n:Nat):Prop := ∀ k,k<n→-1≤(M k).parent∧(M k).parent<(k:Int)
def Sg (M:Nat→Mem) (n:Nat):Prop := ∀ k,k<n→-1≤(M k).sign∧(M k).sign≤1
theorem mR {M:Nat→Mem} {i:Nat} (h:aZ M i=0):(-1≤(M i).parent∧(M i).parent<(i:Int))∧(-1≤(M i).sign∧(M i).sign≤1)∧(0≤(M i).parent→(M (M i).parent.toNat).formula.size=0):=by
 unfold aZ at h
 split at h
 ·simp at h
 split at h
 ·simp at h
 split at h
 ·simp at h
 split at h
 ·simp at h
 split at h
 ·simp at h
 rename_i h1 h2 h3 h4 h5
 refine ⟨by omega,by omega,fun a=>?_⟩
 exact Decidable.byContradiction fun b=>h4 ⟨a,b⟩
theorem Tr.of {d:Dm} (h:(az d).2=0):Tr d.mem d.n:=fun k a=>(mR ((aL h).2.2.2 k a)).1
theorem Sg.of {d:Dm} (h:(az d).2=0):Sg d.mem d.n:=fun k a=>(mR ((aL h).2.2.2 k a)).2.1
def selTo (p:Nat→Bool):Nat→List Int
 | 0=>[]
 | k+1=>selTo p k ++ (if p k=true then [(k:Int)] else [])
theorem jN {p:Nat→Bool} {k:Nat} (h:p k=true):selTo p (k+1)=selTo p k ++ [(k:Int)]:=by simp [selTo,h]
theorem gF {p:Nat→Bool} {k:Nat} (h:p k=false):selTo p (k+1)=selTo p k:=by simp [selTo,h]
theorem cF (p:Nat→Bool) (k:Nat):(selTo p k).length≤k:=by
 induction k with
 | zero=>exact zT
 | succ k ih=>rw [selTo,List.length_append];split <;> simp <;> omega
theorem cQ {p:Nat→Bool} {k:Nat}:∀ j∈selTo p k,∃ m:Nat,j=m∧m<k∧p m=true:=by
 induction k with
 | zero=>intro j a;cases a
 | succ k ih =>
  intro j a;rw [selTo,List.mem_append] at a
  rcases a with a | a
  ·obtain ⟨m,b,d,c⟩:=ih j a;exact ⟨m,b,by omega,c⟩
  split at a
  ·rename_i hp;simp at a;exact ⟨k,a,by omega,hp⟩
  cases a
theorem vH {p q:Nat→Bool} {k:Nat} (h:∀ j,j<k→p j=q j):selTo p k=selTo q k:=by
 induction k with
 | zero=>rfl
 | succ k ih=>rw [selTo,selTo,ih fun j a=>h j (by omega),h k (by omega)]
theorem yH {p:Nat→Bool} {k:Nat} (h:∀ j,j<k→p j=false):selTo p k=[]:=by
 induction k with
 | zero=>rfl
 | succ k ih=>rw [gF (h k (by omega)),ih fun j a=>h j (by omega)]
def iG (M:Nat→Mem) (i:Int) (k:Nat):Bool:=(M k).parent == i
def leafB (M:Nat→Mem) (n k:Nat):Bool:=decide ((M k).formula.size=0) && !decide (0≤findFrom (iG M k) n 0)
def nA (L:List Int) (i:Int):Bool:=decide (i∈L)
def bz (M:Nat→Mem) (n:Nat) (i:Int):List Int:=selTo (iG M i) n
theorem G2 (L:List Int) (i:Int):decide (0≤findFrom (fun j=>L.getD j 0 == i) L.length 0)=nA L i:=by
 unfold nA;rw [decide_eq_decide]
 rcases findFrom_cases (fun j=>L.getD j 0 == i) L.length 0 with ⟨a,d⟩ | ⟨k,a,_,g,b,_⟩
 ·rw [a]
  constructor
  ·intro h;omega
  intro h;obtain ⟨j,f,e⟩:=List.getElem_of_mem h;have:=d j (zU) (by omega)
  simp [List.getD,zX f,e] at this
 rw [a]
 constructor
 ·intro _
  have c:k<L.length:=by omega
  simp [List.getD,zX c] at b
  rw [←b];exact List.getElem_mem c
 intro _;omega
def pE (n:Nat) (L:List Int):Int:=if 0≤findFrom (fun j=>decide (L.getD j 0<0) || decide ((n:Int)≤L.getD j 0)) L.length 0 then 1 else 0
def treeErr (d:Dm) (L:List Int):Int:=if (az d).2≠0 then (az d).2 else pE d.n L
theorem vO {d:Dm} {L:List Int} (h:(az d).2≠0):treeErr d L=(az d).2:=by unfold treeErr;rw [if_pos h]
theorem gZ {d:Dm} {i:Int} (h:(az d).2=0):treeErr d [i]=if i<0∨(d.n:Int)≤i then 1 else 0:=by
 unfold treeErr pE;rw [if_neg (by simpa using h)]
 by_cases a:i<0∨(d.n:Int)≤i
 ·rw [if_pos a];simp [findFrom,a]
 rw [if_neg a];simp [findFrom,a]
def fy (N:List (List Int)) (i:Int):List Int:=N.getD i.toNat []
def ni (N:List (List Int)):Prop := ∀ (i:Nat),i<N.length→∀ x∈N.getD i [],0≤x∧x<(N.length:Int)
theorem ni.at {N:List (List Int)} (h:ni N) {a:Int} (c:0≤a) (d:a<(N.length:Int)) {x:Int} (b:x∈fy N a):0≤x∧x<(N.length:Int):=h a.toNat (by omega) x b
inductive Rch (N:List (List Int)):Int→Int→Prop
 | one {a b:Int}:b∈fy N a→Rch N a b
 | more {a b c:Int}:b∈fy N a→Rch N b c→Rch N a c
theorem Rch.trans {N:List (List Int)} {a b c:Int} (h:Rch N a b) (k:Rch N b c):Rch N a c:=by
 induction h with
 | one h=>exact .more h k
 | more h _ ih=>exact .more h (ih k)
theorem Rch.snoc {N:List (List Int)} {a b c:Int} (h:Rch N a b) (k:c∈fy N b):Rch N a c:=h.trans (.one k)
theorem Rch.inn {N:List (List Int)} (e:ni N) {a b:Int} (h:Rch N a b):0≤a→a<(N.length:Int)→0≤b∧b<(N.length:Int):=by
 induction h with
 | one h=>exact fun c d=>e.at c d h
 | more h _ ih=>exact fun c d=>let ⟨x,y⟩:=e.at c d h;ih x y
theorem Rch.closed {N:List (List Int)} {S:Int→Prop} {a b:Int} (h:Rch N a b):(∀ x∈fy N a,S x)→(∀ x,S x→∀ y∈fy N x,S y)→S b:=by
 induction h with
 | one h=>exact fun c _=>c _ h
 | more h _ ih=>exact fun c d=>ih (fun x e=>d _ (c _ h) x e) d
noncomputable def cycB (N:List (List Int)) (i:Nat):Bool := @decide (Rch N i i) (Classical.propDecidable _)
theorem cyc_iff {N:List (List Int)} {i:Nat}:cycB N i=true↔Rch N i i:=by
 unfold cycB;exact @decide_eq_true_iff _ (Classical.propDecidable _)
theorem zB {N:List (List Int)} {i:Nat}:cycB N i=false↔¬ Rch N i i:=by
 rw [←cyc_iff];cases cycB N i <;> simp
theorem few (n:Nat):∀ (L:List Int),L.Nodup→(∀ x∈L,0≤x∧x<(n:Int))→L.length≤n:=by
 induction n with
 | zero =>
  intro L _ h;cases L with
  | nil=>exact zT
  | cons x r=>have:=h x (by simp);omega
 | succ n ih =>
  intro L b h;have e:=ih (L.erase (n:Int)) (b.erase _) fun x d=>by
   have a:=(b.mem_erase_iff.1 d);have:=h x a.2;have:=a.1
   omega
  have f:L.length≤(L.erase (n:Int)).length+1:=by
   by_cases c:(n:Int)∈L
   ·rw [List.length_erase_of_mem c];omega
   rw [List.erase_of_not_mem c];omega
  omega
def sD (N:List (List Int)) (out:List Int) (i:Nat):Bool := !(out.contains (i:Int)) && (N.getD i []).all fun x=>out.contains x
def mU (N:List (List Int)) (out:List Int):Int:=findFrom (sD N out) N.length 0
def aC (N:List (List Int)):Nat→List Int
 | 0=>[]
 | k+1=>aC N k ++ (if 0≤mU N (aC N k) then [mU N (aC N k)] else [])
theorem mr {N:List (List Int)} {out:List Int} (h:0≤mU N out):∃ k:Nat,mU N out=(k:Int)∧k<N.length∧sD N out k=true∧∀ j,j<k→sD N out j=false:=by
 unfold mU at *
 rcases findFrom_cases (sD N out) N.length 0 with ⟨a,_⟩ | ⟨k,a,_,e,b,c⟩
 ·omega
 exact ⟨k,a,by omega,b,fun j d=>c j (zU) d⟩
theorem fY {N:List (List Int)} {out:List Int} {k:Nat} (h:sD N out k=true):(k:Int)∉out∧∀ x∈N.getD k [],x∈out:=by
 unfold sD at h;simp only [Bool.and_eq_true,Bool.not_eq_true',List.all_eq_true] at h;refine ⟨fun a=>?_,fun x b=>?_⟩
 ·have:=h.1
  rw [←Bool.not_eq_true,List.contains_iff_mem] at this;exact this a
 exact List.contains_iff_mem.1 (h.2 x b)
theorem uN {N:List (List Int)} {out:List Int} {k:Nat} (a:(k:Int)∉out) (b:∀ x∈N.getD k [],x∈out):sD N out k=true:=by
 unfold sD;simp only [Bool.and_eq_true,Bool.not_eq_true',List.all_eq_true];refine ⟨?_,fun x c=>List.contains_iff_mem.2 (b x c)⟩
 rw [←Bool.not_eq_true,List.contains_iff_mem];exact a
theorem pq (N:List (List Int)) (k:Nat):(aC N k).Nodup∧(∀ x∈aC N k,0≤x∧x<(N.length:Int)):=by
 induction k with
 | zero=>exact ⟨List.nodup_nil,fun x c=>by cases c⟩
 | succ k ih =>
  rw [aC]
  split
  ·rename_i h
   obtain ⟨m,d,j,f,-⟩:=mr h;rw [d];refine ⟨?_,fun x c=>?_⟩
   ·rw [List.nodup_append]
    refine ⟨ih.1,by simp,fun a g b i=>?_⟩
    rw [List.mem_singleton.1 i];intro e;exact (fY f).1 (e ▸ g)
   rcases List.mem_append.1 c with c | c
   ·exact ih.2 x c
   rw [List.mem_singleton.1 c];omega
  rw [List.append_nil];exact ih
theorem way {N:List (List Int)} {out:List Int} (s:ni N) (n:∀ i:Nat,i<N.length→sD N out i=false) {a:Nat} (v:a<N.length) (l:(a:Int)∉out) (k:Nat) :
  (∃ i:Nat,i<N.length∧Rch N i i)∨∃ (P:List Int) (x:Int),x∈P∧P.length=k+1∧P.Nodup∧(∀ y∈P,0≤y∧y<(N.length:Int)∧y∉out)∧∀ y∈P,y=x∨Rch N y x:=by
 induction k with
 | zero=>exact Or.inr ⟨[(a:Int)],a,by simp,rfl,by simp,fun y f=>by rw [List.mem_singleton.1 f];exact ⟨by omega,by omega,l⟩,fun y f=>Or.inl (List.mem_singleton.1 f)⟩
 | succ k ih =>
  rcases ih with h | ⟨P,x,hxP,hlen,hnd,hin,hto⟩
  ·exact Or.inl h
  obtain ⟨o,p,q⟩:=hin x hxP;obtain ⟨m,rfl⟩:∃ m:Nat,x=m:=⟨x.toNat,by omega⟩
  have c:=n m (by omega)
  obtain ⟨y,f,r⟩:∃ y∈N.getD m [],y∉out:=by
   refine Classical.byContradiction fun t=>?_
   rw [uN q fun x u=>Classical.byContradiction fun h=>t ⟨x,u,h⟩] at c
   cases c
  have d:y∈fy N (m:Int):=by unfold fy;simpa using f
  have j:=s.at o p d
  by_cases g:y∈P
  ·refine Or.inl ⟨m,by omega,?_⟩
   rcases hto y g with e | e
   ·exact .one (e ▸ d)
   exact .more d e
  refine Or.inr ⟨y :: P,y,by simp,by simp [hlen],List.nodup_cons.2 ⟨g,hnd⟩,fun z b=>?_,fun z b=>?_⟩
  ·rcases List.mem_cons.1 b with rfl | b
   ·exact ⟨j.1,j.2,r⟩
   exact hin z b
  rcases List.mem_cons.1 b with rfl | b
  ·exact Or.inl rfl
  rcases hto z b with e | e
  ·exact Or.inr (.one (e ▸ d))
  exact Or.inr (e.snoc d)
theorem o8 {N:List (List Int)} (B:ni N) (D:∀ i:Nat,i<N.length→cycB N i=false) {k:Nat} (I:k<N.length) (J:(aC N k).length=k):0≤mU N (aC N k):=by
 unfold mU
 rcases findFrom_cases (sD N (aC N k)) N.length 0 with ⟨_,A⟩ | ⟨m,G,_⟩
 ·exfalso
  have q:∀ i:Nat,i<N.length→sD N (aC N k) i=false:=fun i t=>A i (zU) (by omega)
  obtain ⟨a,c,o⟩:∃ a:Nat,a<N.length∧(a:Int)∉aC N k:=by
   refine Classical.byContradiction fun E=>?_
   have d:∀ a:Nat,a<N.length→(a:Int)∈aC N k:=fun a c=>Classical.byContradiction fun h=>E ⟨a,c,h⟩
   have j:(List.range N.length).map (fun a:Nat=>(a:Int)) ⊆ aC N k:=fun x n=>by
    obtain ⟨a,c,rfl⟩:=List.mem_map.1 n;exact d a (List.mem_range.1 c)
   have g:∀ (X Y:List Int),X.Nodup→X ⊆ Y→X.length≤Y.length:=by
    intro X
    induction X with
    | nil=>intro Y _ _;exact zU
    | cons x r ih =>
     intro Y C u;have n:=List.nodup_cons.1 C;have l:x∈Y:=u (by simp)
     have:=ih (Y.erase x) n.2 fun z w=>(List.mem_erase_of_ne (fun e:z=x=>n.1 (by rw [←e];exact w))).2 (u (List.mem_cons_of_mem _ w))
     rw [List.length_erase_of_mem l] at this;have:=List.length_pos_of_mem l;simp only [List.length_cons]
     omega
   have s:(List.range N.length).Pairwise (fun a b=>a≠b):=List.nodup_range
   have:=g _ _ (show List.Pairwise (fun a b=>a≠b) _ from List.pairwise_map.2 (s.imp fun {a b:Nat} (h:a≠b) (e:(a:Int)=(b:Int))=>h (by omega))) j
   rw [List.length_map,List.length_range] at this
   omega
  rcases way B q c o N.length with ⟨i,t,F⟩ | ⟨P,x,_,H,p,f,_⟩
  ·exact (zB.1 (D i t)) F
  have:=few N.length P p fun y v=>⟨(f y v).1,(f y v).2.1⟩
  omega
 omega
theorem eb {N:List (List Int)} (a:ni N) (b:∀ i:Nat,i<N.length→cycB N i=false) (k:Nat) (c:k≤N.length):(aC N k).length=k:=by
 induction k with
 | zero=>rfl
 | succ k ih =>
  have h:=ih (by omega)
  rw [aC,if_pos (o8 a b (by omega) h),List.length_append,h]
  rfl
theorem pr {N:List (List Int)} (b:ni N) (c:∀ i:Nat,i<N.length→cycB N i=false) {k:Nat} (g:k<N.length):∃ m:Nat,mU N (aC N k)=(m:Int)∧m<N.length∧sD N (aC N k) m=true∧(∀ j,j<m→sD N (aC N k) j=false)∧aC N (k+1)=aC N k ++ [(m:Int)]:=by
 have h:=o8 b c g (eb b c k (by omega))
 obtain ⟨m,a,d,e,f⟩:=mr h;exact ⟨m,a,d,e,f,by rw [aC,if_pos h,a]⟩
theorem uV {N:List (List Int)} (a:ni N) (b:∀ i:Nat,i<N.length→cycB N i=false) {k:Nat} (n:Nat) (f:k≤n) (d:n≤N.length):(aC N n).take k=aC N k:=by
 induction n with
 | zero =>
  have:k=0:=by omega
  subst this
  rfl
 | succ n ih =>
  by_cases e:k=n+1
  ·subst e
   exact List.take_of_length_le (by rw [eb a b _ d];exact zT)
  obtain ⟨m,_,_,_,_,c⟩:=pr a b (k:=n) (by omega)
  rw [c,List.take_append_of_le_length (by rw [eb a b n (by omega)];omega)]
  exact ih (by omega) (by omega)
theorem xP {N:List (List Int)} (a:ni N) (b:∀ i:Nat,i<N.length→cycB N i=false) {k:Nat} (h:k<N.length):∃ m:Nat,(aC N N.length).getD k 0=(m:Int)∧m<N.length∧(m:Int)∉(aC N N.length).take k∧(∀ x∈N.getD m [],x∈(aC N N.length).take k)∧(aC N N.length).take (k+1)=(aC N N.length).take k ++ [(m:Int)]:=by
 obtain ⟨m,_,g,e,_,f⟩:=pr a b h;have c:=uV a b (k:=k) N.length (by omega) (zT)
 have d:=uV a b (k:=k+1) N.length (by omega) (zT)
 refine ⟨m,?_,g,by rw [c];exact (fY e).1,by rw [c];exact (fY e).2,by rw [c,d,f]⟩
 have j:=eb a b N.length (zT);have:((aC N N.length).take (k+1)).getD k 0=(m:Int):=by
  rw [d,f,zZ,List.getElem?_append_right (by rw [eb a b k (by omega)];exact zT),eb a b k (by omega)]
  simp
 rw [zZ,List.getElem?_take_of_lt (by omega)] at this
 rw [zZ];exact this
theorem i6:∀ (L K:List Int),L.Pairwise (· < ·)→K.Pairwise (· < ·)→(∀ x,x∈L↔x∈K)→L=K
 | [],[],_,_,_=>rfl
 | [],y :: K,_,_,h=>by have:=(h y).2 (by simp);cases this
 | x :: L,[],_,_,h=>by have:=(h x).1 (by simp);cases this
 | x :: L,y :: K,hL,hK,h=>by
  have b:=List.pairwise_cons.1 hL;have a:=List.pairwise_cons.1 hK;have e:x=y:=by
   rcases List.mem_cons.1 ((h x).1 (by simp)) with e | e
   ·exact e
   rcases List.mem_cons.1 ((h y).2 (by simp)) with e2 | e2
   ·exact e2.symm
   have:=b.1 _ e2;have:=a.1 _ e
   omega
  subst e
  congr 1
  refine i6 L K b.2 a.2 fun z=>⟨fun c=>?_,fun c=>?_⟩
  ·rcases List.mem_cons.1 ((h z).1 (List.mem_cons_of_mem _ c)) with e | e
   ·have:=b.1 z c;omega
   exact e
  rcases List.mem_cons.1 ((h z).2 (List.mem_cons_of_mem _ c)) with e | e
  ·have:=a.1 z c;omega
  exact e
theorem fh (p:Nat→Bool) (k:Nat):(selTo p k).Pairwise (· < ·):=by
 induction k with
 | zero=>exact List.Pairwise.nil
 | succ k ih =>
  rw [selTo,List.pairwise_append];refine ⟨ih,?_,fun a d b c=>?_⟩
  ·split <;> simp
  obtain ⟨m,e,f,-⟩:=cQ a d
  split at c
  ·rw [List.mem_singleton.1 c];omega
  cases c
theorem jO {p:Nat→Bool} {k m:Nat} (h:m<k) (a:p m=true):(m:Int)∈selTo p k:=by
 induction k with
 | zero=>omega
 | succ k ih =>
  rw [selTo,List.mem_append]
  by_cases e:m=k
  ·subst e;exact Or.inr (by rw [if_pos a];simp)
  exact Or.inl (ih (by omega))
theorem sZ (p q:Nat→Bool) (f:Int→Bool) (k:Nat) (h:∀ j,j<k→(q j=true↔p j=true∧f (j:Int)=true)):(selTo p k).filter f=selTo q k:=by
 induction k with
 | zero=>rfl
 | succ k ih =>
  rw [selTo,selTo,List.filter_append,ih fun j d=>h j (by omega)]
  congr 1
  have c:=h k (by omega)
  by_cases a:p k=true
  ·by_cases b:f (k:Int)=true
   ·rw [if_pos a,if_pos (c.2 ⟨a,b⟩)];simp [b]
   rw [if_pos a,if_neg fun e=>b (c.1 e).2];simp [b]
  rw [if_neg a,if_neg fun e=>a (c.1 e).1];rfl
theorem pH {L:List Int} (h:L.Pairwise (· < ·)):L.Nodup:=h.imp fun h e=>by omega
def bindN (op:Int):Int:=if op=3∨op=4 then 1 else if op=5∨op=6 then 2 else 3
theorem nZ (op:Int):1≤bindN op:=by unfold bindN;split <;> (try split) <;> omega
structure Bld where
 nodes:List Nd
 ready:List Int
 waiting:List Int
def noB:Bld:=⟨[],[],[]⟩
def jS (x:Nd) (b:Bld):Bld:=⟨b.nodes ++ [x],b.ready ++ [(b.nodes.length:Int)],b.waiting⟩
def dh (op:Int) (b:Bld):Bld:=jS ⟨op,0,⟨#[]⟩,b.ready.getD (b.ready.length-2) 0,b.ready.getD (b.ready.length-2+1) 0⟩ ⟨b.nodes,b.ready.take (b.ready.length-2),b.waiting⟩
def bh (least:Int):Nat→Bld→Bld
 | 0,b=>b
 | k+1,b=>if b.waiting.getD k 0=0∨bindN (b.waiting.getD k 0)<least then b else bh least k (dh (b.waiting.getD k 0) ⟨b.nodes,b.ready,b.waiting.take k⟩)
def settleB (least:Int) (b:Bld):Bld:=bh least b.waiting.length b
def numW (t:ByteArray):Int:=t.data.toList.foldl (fun n c=>n*10+((c.toNat:Int)-48)) 0
def opndN (t:ByteArray):Nd:=if 97≤byteN t 0∧byteN t 0≤122 then ⟨2,0,t,0,0⟩ else ⟨1,numW t,⟨#[]⟩,0,0⟩
def signI (c:Int):Int:=if c=43 then 0 else if c=45 then 1 else if c=42 then 2 else if c=47 then 3 else -1
def takeB (b:Bld) (t:ByteArray):Bld :=
 if byteN t 0=40 then ⟨b.nodes,b.ready,b.waiting ++ [0]⟩
 else if byteN t 0=41 then ⟨(settleB 0 b).nodes,(settleB 0 b).ready,(settleB 0 b).waiting.take ((settleB 0 b).waiting.length-1)⟩
 else if 0≤signI (byteN t 0) then ⟨(settleB (bindN (3+signI (byteN t 0))) b).nodes,(settleB (bindN (3+signI (byteN t 0))) b).ready,(settleB (bindN (3+signI (byteN t 0))) b).waiting ++ [3+signI (byteN t 0)]⟩
 else jS (opndN t) b
def dX (l:List Int):Nat:=l.countP (fun x=>decide (x=0))
def opsN (l:List Int):Nat:=l.countP (fun x=>decide (x≠0))
theorem GE (l:List Int):dX l+opsN l=l.length:=by
 induction l with
 | nil=>rfl
 | cons x r ih =>
  simp only [dX,opsN,List.countP_cons,List.length_cons] at *
  by_cases h:x=0
  ·rw [if_pos (by simpa using h),if_neg (by simpa using h)];omega
  rw [if_neg (by simpa using h),if_pos (by simpa using h)];omega
def b8 (c:Int):Bool:=decide (48≤c) && decide (c≤57)
def bD (c:Int):Bool:=decide (97≤c) && decide (c≤122)
def leadTo (p:Int→Bool) (t:ByteArray):Nat→Nat→Nat
 | 0,i=>i
 | f+1,i=>if p (byteN t i) then leadTo p t f (i+1) else i
def leadN (p:Int→Bool) (t:ByteArray):Nat:=leadTo p t t.size 0
def nextB (s:ByteArray) (a:Nat):Int:=if a=s.size then 0 else byteN s a
structure Rd (S:Type) where
 at':Nat
 opn:Nat
 st:S
section
variable {S:Type} (s:ByteArray) (tk:S→ByteArray→S)
def wordR (n:Nat) (r:Rd S):Rd S:=⟨r.at'+n,r.opn,tk r.st (s.extract r.at' (r.at'+n))⟩
def opensR:Nat→Rd S→Rd S
 | 0,r=>r
 | f+1,r=>if nextB s r.at'=40 then opensR f (wordR s tk 1 ⟨r.at',r.opn+1,r.st⟩) else r
def bv:Nat→Rd S→Rd S
 | 0,r=>r
 | f+1,r=>if 0<r.opn∧nextB s r.at'=41 then bv f (wordR s tk 1 ⟨r.at',r.opn-1,r.st⟩) else r
def digitsN (a:Nat):Nat:=if nextB s a=48 then 1 else min (leadN b8 (s.extract a s.size)) 7
def bJ (r:Rd S):Rd S:=opensR s tk (s.size-r.at') r
def aE (r:Rd S):Rd S×Bool :=
 if b8 (nextB s (bJ s tk r).at') then (bv s tk s.size (wordR s tk (digitsN s (bJ s tk r).at') (bJ s tk r)),true)
 else if bD (nextB s (bJ s tk r).at') then (bv s tk s.size (wordR s tk (leadN bD (s.extract (bJ s tk r).at' s.size)) (bJ s tk r)),true)
 else (bJ s tk r,false)
def cJ (r:Rd S):Rd S×Bool:=if signI (nextB s r.at')<0 then (r,false) else (wordR s tk 1 r,true)
def dp:Nat→Rd S→Rd S×Bool
 | 0,r=>(r,true)
 | f+1,r=>if r.at'<s.size then
   (if (cJ s tk r).2 then (if (aE s tk (cJ s tk r).1).2 then dp f (aE s tk (cJ s tk r).1).1 else ((aE s tk (cJ s tk r).1).1,false)) else ((cJ s tk r).1,false))
  else (r,true)
def iq (r:Rd S):Rd S×Bool :=
 if (aE s tk r).2 then (if (dp s tk s.size (aE s tk r).1).2 then ((dp s tk s.size (aE s tk r).1).1,decide ((dp s tk s.size (aE s tk r).1).1.opn=0)) else ((dp s tk s.size (aE s tk r).1).1,false))
 else ((aE s tk r).1,false)
end
def zi (w:World) (b o:Nat) (d:Dm) (A:Option Addr) (c:Nat):Prop:=w.cell? ⟨b,o,none⟩=some (.string d.name)∧w.cell? ⟨b,o+1,none⟩=some (.int .i64 d.solve)∧w.cell? ⟨b,o+2,none⟩=some (.slice A d.n c)∧eg w A c d.n d.mem
def dS (w:World) (b o n:Nat) (D:Nat→Dm) (A:Nat→Option Addr) (C:Nat→Nat):Prop:=b<w.heap.size∧∀ i,i<n→zi w b (o+i*3) (D i) (A i) (C i)
theorem zi.later {w w':World} {b o:Nat} {d:Dm} {A:Option Addr} {c:Nat} (h:zi w b o d A c) (e:b<w.heap.size) (a:Bl w w'):zi w' b o d A c :=
 ⟨aD a e h.1,aD a e h.2.1,aD a e h.2.2.1,h.2.2.2.later a⟩
theorem dS.later {w w':World} {b o n:Nat} {D:Nat→Dm} {A:Nat→Option Addr} {C:Nat→Nat} (h:dS w b o n D A C) (a:Bl w w'):dS w' b o n D A C :=
 ⟨zW h.1 a.size,fun i c=>(h.2 i c).later h.1 a⟩
theorem dS.less {w:World} {b o n m:Nat} {D:Nat→Dm} {A:Nat→Option Addr} {C:Nat→Nat} (h:dS w b o n D A C) (c:m≤n):dS w b o m D A C:=⟨h.1,fun i a=>h.2 i (by omega)⟩
def JB (q:Nat) (w:World) (n:Nat) (D:Nat→Dm) (A:Nat→Option Addr) (C:Nat→Nat) (p:Nat→Bool):Prop := ∀ (i:Nat) (w':World),i<n→Bl w w'→Calls Tryz.prog 123 #[cM (D i) (A i) (C i),.pointer (some ⟨q,0,none⟩)] w' fun e w''=>e=.returned (.bool (p i))∧Bl w' w''
theorem xi (q b o n cap:Nat) (D:Nat→Dm) (A:Nat→Option Addr) (C:Nat→Nat) (p:Nat→Bool) (w:World) (G:n≤4) (s:dS w b o n D A C) (t:JB q w n D A C p) :
  Rt 151 #[.slice (some ⟨b,o,none⟩) n cap,.func (.func 123) #[] #[.pointer (some ⟨q,0,none⟩)]] w (.int .i64 (findFrom p n 0)):=by
 have u:=aa s;have v:=aa t;clear s t
 go_enter Tryz.func151,Tryz.ntmps151
 go_wp2_with fail
 go_loopg [8] n (fun g s8 wr => ∃ (k:Nat),k≤n∧g=n-k∧s8=.int .i64 k∧findFrom p (n-k) k=findFrom p n 0∧Bl w wr)
 case atStart=>exact ⟨0,zU,rfl,rfl,rfl,zS⟩
 case round =>
  obtain ⟨k,F,rfl,rfl,j,a⟩:=hrel
  by_cases f:k<n
  ·obtain ⟨z,B,E,-⟩:=(u.out.later a).2 k f
   have x:(k:Int)<(n:Int):=by omega
   have m:=aa j;have r:=aa a;have h:n-k=(n-(k+1))+1:=by omega
   have c:=v.out k wr f a;unfold cM at c;have y:(n:Int)≤4:=by omega
   clear j a;cases hb:p k
   ·rw [hb] at c
    have i:=aa hb;clear hb;go_wp2_with fail;refine c.mono ?_;rintro e w1 ⟨rfl,d⟩;go_wp2_with fail
    go_roundg (n-(k+1))
    case measure=>omega
    case rel=>exact ⟨k+1,by omega,rfl,by go_num,by rw [←m.out,h,be _ i.out],ae r.out d⟩
   rw [hb] at c;have i:=aa hb;clear hb;go_wp2_with fail;refine c.mono ?_;rintro e w1 ⟨rfl,d⟩;go_wp2_with fail;go_ret;exact ⟨by rw [←m.out,h,bj _ i.out];rfl,ae r.out d⟩
  have l:k=n:=by omega
  subst l;go_wp2_with fail;go_ret;exact ⟨by rw [←j,Nat.sub_self];rfl,a⟩
theorem qm (q b o n cap:Nat) (D:Nat→Dm) (A:Nat→Option Addr) (C:Nat→Nat) (p:Nat→Bool) (w:World) (f:n≤4) (c:dS w b o n D A C) (d:JB q w n D A C p) :
  Rt 122 #[.slice (some ⟨b,o,none⟩) n cap,.func (.func 123) #[] #[.pointer (some ⟨q,0,none⟩)]] w (.bool (decide (0≤findFrom p n 0))):=by
 have h:=xi q b o n cap D A C p w f c d;clear c d
 go_enter Tryz.func122,Tryz.ntmps122
 go_wp2_with fail;refine h.mono ?_;rintro e w1 ⟨rfl,a⟩;go_wp2_with fail;go_ret;exact ⟨rfl,a⟩
theorem DX (d:Dm) (A:Option Addr) (c:Nat) (s:ByteArray) (q:Nat) (w:World) (a:q<w.heap.size) (h:w.cell? ⟨q,0,none⟩=some (.string s)):Rt 123 #[cM d A c,.pointer (some ⟨q,0,none⟩)] w (.bool (same d.name s)):=by
 unfold cM
 go_enter Tryz.func123,Tryz.ntmps123
 go_wp2_with fail;go_ret;exact ⟨by simp [same],by go_grown⟩
theorem kD {D:Nat→Dm} {k:Nat} (h:∀ j,j<k→(D j).n≤12) (a:k≤4):prodN D k≤20736:=by
 refine zV (vg h) ?_;exact zV (Nat.pow_le_pow_right (by omega) a) (by decide)
theorem Bw (b o n cap:Nat) (D:Nat→Dm) (A:Nat→Option Addr) (C:Nat→Nat) (w:World) (E:n≤4) (i:∀ j,j<n→(D j).n≤12) (h:dS w b o n D A C):Rt 124 #[.agg #[.slice (some ⟨b,o,none⟩) n cap]] w (.int .i64 (prodN D n)):=by
 have l:=aa h;have m:=aa i;clear h i
 go_enter Tryz.func124,Tryz.ntmps124
 go_wp2_with fail
 go_loopg [3,9] n (fun g s3 s9 wr => ∃ (k:Nat),k≤n∧g=n-k∧s9=.int .i64 k∧s3=.int .i64 (prodN D k)∧Bl w wr)
 case atStart=>exact ⟨0,zU,rfl,rfl,rfl,by go_grown⟩
 case round =>
  obtain ⟨k,B,rfl,rfl,rfl,a⟩:=hrel
  by_cases e:k<n
  ·obtain ⟨v,x,y,-⟩:=(l.out.later a).2 k e
   have r:(k:Int)<(n:Int):=by omega
   have u:(n:Int)≤4:=by omega
   have f:prodN D (k+1)≤20736:=kD (fun j z=>m.out j (by omega)) (by omega)
   have c:(prodN D (k+1):Int)=(prodN D k:Int)*((D k).n:Int):=by rw [prodN];exact Int.natCast_mul _ _
   have s:0≤(prodN D k:Int)*((D k).n:Int):=by omega
   have t:(prodN D k:Int)*((D k).n:Int)≤20736:=by omega
   have q:=aa a;have p:=aa c;clear a f c;go_wp2_with fail
   go_roundg (n-(k+1))
   case measure=>omega
   case rel=>exact ⟨k+1,by omega,rfl,by go_num,by rw [p.out],ae q.out (by go_grown)⟩
  have d:k=n:=by omega
  subst d;go_wp2_with fail;go_ret;exact ⟨rfl,a⟩
def aY (w:World) (A0:Option Addr) (cap n:Nat) (D:Nat→Dm) (A:Nat→Option Addr) (C:Nat→Nat):Prop:=n≤cap∧(n=0∨∃ b o,A0=some ⟨b,o,none⟩∧dS w b o n D A C)
theorem aY.later {w w':World} {A0:Option Addr} {cap n:Nat} {D:Nat→Dm} {A:Nat→Option Addr} {C:Nat→Nat} (h:aY w A0 cap n D A C) (e:Bl w w'):aY w' A0 cap n D A C:=by
 obtain ⟨c,a | ⟨b,o,a,d⟩⟩:=h
 ·exact ⟨c,Or.inl a⟩
 exact ⟨c,Or.inr ⟨b,o,a,d.later e⟩⟩
theorem Km {D:Nat→Dm} {n:Nat} (h:4<n):am D n=(-1,-1,4):=by unfold am;rw [if_pos h]
theorem Kn {D:Nat→Dm} {n:Nat} (h:n=0):am D n=(-1,-1,5):=by unfold am;rw [if_neg (by omega),if_pos h]
theorem J1 {D:Nat→Dm} {n:Nat} (h : ¬ 4<n) (a : ¬ n=0) (b:(dP D n 0).2.2≠0):am D n=dP D n 0:=by unfold am;rw [if_neg h,if_neg a,if_pos b]
theorem Ko {D:Nat→Dm} {n:Nat} (h : ¬ 4<n) (a : ¬ n=0) (b:(dP D n 0).2.2=0) (c:3000<prodN D n):am D n=(-1,-1,4):=by unfold am;rw [if_neg h,if_neg a,if_neg (by simpa using b),if_pos c]
theorem Kp {D:Nat→Dm} {n:Nat} (h : ¬ 4<n) (a : ¬ n=0) (b:(dP D n 0).2.2=0) (c : ¬ 3000<prodN D n):am D n=(-1,-1,0):=by unfold am;rw [if_neg h,if_neg a,if_neg (by simpa using b),if_neg c]
theorem JR {D:Nat→Dm} {i:Nat} (h:(az (D i)).2≠0):gB D i=az (D i):=by unfold gB;rw [if_pos h]
theorem JS {D:Nat→Dm} {i:Nat} (h:(az (D i)).2=0) (a:fT D i=true):gB D i=(-1,7):=by unfold gB;rw [if_neg (by simpa using h),if_pos a]
theorem JT {D:Nat→Dm} {i:Nat} (h:(az (D i)).2=0) (a:fT D i=false):gB D i=(-1,0):=by unfold gB;rw [if_neg (by simpa using h),if_neg (by simp [a])]
def ay (w:World) (A0:Option Addr) (n cap T:Nat):World:=w.alloc (.cells #[.slice A0 n cap] T)
theorem aI (w:World) (A0:Option Addr) (n cap T:Nat):(ay w A0 n cap T).cell? ⟨w.heap.size,0,none⟩=some (.slice A0 n cap):=by unfold ay;simp
theorem aw (w:World) (A0:Option Addr) (n cap T:Nat):(ay w A0 n cap T).heap.size=w.heap.size+1:=by unfold ay;simp
theorem aq (w:World) (A0:Option Addr) (n cap T:Nat):Bl w (ay w A0 n cap T):=by unfold ay;go_grown
theorem rY (A0:Option Addr) (cap n:Nat) (D:Nat→Dm) (A:Nat→Option Addr) (C:Nat→Nat) (w:World) (V:aY w A0 cap n D A C):Rt 86 #[.agg #[.slice A0 n cap]] w (.tuple #[.int .i64 (am D n).1,.int .i64 (am D n).2.1,errV (am D n).2.2]):=by
 by_cases E:4<n
 ·have KH:4<(n:Int):=by omega
  have i:Hid (am D n=(-1,-1,4)):=Km E;clear E V
  go_enter Tryz.func86,Tryz.ntmps86
  go_wp2_with fail;refine bodyPost_ret (v:=.tuple #[.int .i64 (-1),.int .i64 (-1),.iface 63 (.int .i64 4)]) (by simp [results,Tryz.results86,go_sem]) rfl ⟨by rw [i.out];rfl,?_⟩
  go_grown
 have KH:(n:Int)≤4:=by omega
 by_cases B:n=0
 ·have i:Hid (am D n=(-1,-1,5)):=Kn B
  have hz:((n:Int) == 0)=true:=by simp [B]
  clear B V E
  go_enter Tryz.func86,Tryz.ntmps86
  go_wp2_with fail;refine bodyPost_ret (v:=.tuple #[.int .i64 (-1),.int .i64 (-1),.iface 63 (.int .i64 5)]) (by simp [results,Tryz.results86,go_sem]) rfl ⟨by rw [i.out];rfl,?_⟩
  go_grown
 have hz:((n:Int) == 0)=false:=by simp;omega
 obtain ⟨hcap,h0 | ⟨b,o,rfl,K⟩⟩:=V
 ·omega
 have Y:(n:Int)≤(cap:Int):=by omega
 have u:=aq w (some ⟨b,o,none⟩) n cap 24;have hS:=aw w (some ⟨b,o,none⟩) n cap 24;have U:=aI w (some ⟨b,o,none⟩) n cap 24;obtain ⟨W,X⟩:∃ W,W=ay w (some ⟨b,o,none⟩) n cap 24:=⟨_,rfl⟩;rw [←X] at u hS U;have T:=aa (K.later u);have N:w.heap.size<W.heap.size:=by omega
 clear K;have HW:=aa X;have HA:=aa U;have t:=aa u;clear X U u hS
 go_enter Tryz.func86,Tryz.ntmps86
 go_wp2_with fail
 go_loopg [22] n (fun g s22 wr => ∃ (k:Nat),k≤n∧g=n-k∧s22=.int .i64 k∧dP D (n-k) k=dP D n 0∧Bl W wr)
 case atStart=>exact ⟨0,zU,rfl,rfl,rfl,by rw [HW.out];exact zS⟩
 case round =>
  obtain ⟨k,hk,rfl,rfl,M,l⟩:=hrel;have h:=aa l;have R:=aa M;have c0:wr.cell? ⟨w.heap.size,0,none⟩=some (.slice (some ⟨b,o,none⟩) n cap):=aD l N HA.out;have m:=T.out.later l;have O:w.heap.size<wr.heap.size:=zW N l.size;clear M l
  by_cases KG:k<n
  ·obtain ⟨h0,h1,h2,h3⟩:=m.2 k KG
   have hki:(k:Int)<(n:Int):=by omega
   have F:n-k=(n-(k+1))+1:=by omega
   have I:=aU wr (D k) (A k) (C k) 70;have d:=kr (D k) (A k) (C k) (aM wr (D k) (A k) (C k) 70) (h3.later I);unfold cM at d;have H:=aa m;clear h3 m I
   by_cases x:(az (D k)).2=0
   ·obtain ⟨e1,hd1,hd2,-⟩:=aL x
    rw [x,e1,errV_zero] at d;have G:=aa x;clear x e1;go_wp2_with fail;refine d.mono ?_;rintro e w1 ⟨rfl,a⟩;have f:Bl wr w1:=ae (aU wr (D k) (A k) (C k) 70) a;have Q:wr.heap.size<w1.heap.size:=by
     have:=a.size;rw [bg] at this
     omega
    have q0:w1.cell? ⟨wr.heap.size,0,none⟩=some (.string (D k).name):=(a.cell (p:=⟨wr.heap.size,0,none⟩) (by show wr.heap.size<_;rw [bg];omega)).trans (dN wr (D k) (A k) (C k) 70).1
    have c1:w1.cell? ⟨w.heap.size,0,none⟩=some (.slice (some ⟨b,o,none⟩) n cap):=aD f O c0;have J:=H.out.later f;have q:=qm wr.heap.size b o k cap D A C (fun j=>same (D j).name (D k).name) w1 (by omega) (J.less (by omega)) (fun j w' _ P=>DX (D j) (A j) (C j) (D k).name wr.heap.size w' (zW Q P.size) (aD P Q q0))
    change Calls _ _ _ _ (fun e w'=>e=.returned (.bool (fT D k))∧_) at q
    clear a d J q0 c0 h0 h1 h2 H;cases hc:fT D k
    ·rw [hc] at q
     have z:Hid (gB D k=(-1,0)):=JT G.out hc;clear hc;go_wp2_with fail;refine q.mono ?_;rintro e w2 ⟨rfl,c⟩;go_wp2_with fail
     go_roundg (n-(k+1))
     case measure=>omega
     case rel=>exact ⟨k+1,by omega,rfl,by go_num,by rw [←R.out,F,pN _ (by rw [z.out])],ae (ae h.out f) c⟩
    rw [hc] at q;have z:Hid (gB D k=(-1,7)):=JS G.out hc;clear hc;go_wp2_with fail;refine q.mono ?_;rintro e w2 ⟨rfl,c⟩;go_wp2_with fail;have s:dP D n 0=((k:Int),-1,7):=by rw [←R.out,F,iI _ (by rw [z.out];decide),z.out]
    have i:am D n=((k:Int),-1,7):=by rw [J1 (by omega) (by omega) (by rw [s];show (7:Int)≠0;decide),s]
    refine bodyPost_ret (v:=.tuple #[.int .i64 k,.int .i64 (-1),.iface 63 (.int .i64 7)]) (by simp [results,Tryz.results86,go_sem]) rfl ⟨by rw [i];rfl,?_⟩
    exact ae t.out (ae (ae h.out f) c)
   rw [ak x] at d;have z:Hid (gB D k=az (D k)):=JR x;have G:=aa x;clear x;go_wp2_with fail;refine d.mono ?_;rintro e w1 ⟨rfl,a⟩;have f:Bl wr w1:=ae (aU wr (D k) (A k) (C k) 70) a;clear a d;go_wp2_with fail;have s:dP D n 0=((k:Int),(az (D k)).1,(az (D k)).2):=by rw [←R.out,F,iI _ (by rw [z.out];exact G.out),z.out]
   have i:am D n=((k:Int),(az (D k)).1,(az (D k)).2):=by rw [J1 (by omega) (by omega) (by rw [s];exact G.out),s]
   refine bodyPost_ret (v:=.tuple #[.int .i64 k,.int .i64 (az (D k)).1,.iface 63 (.int .i64 (az (D k)).2)]) (by simp [results,Tryz.results86,go_sem]) rfl ⟨by rw [i,ak G.out],?_⟩
   exact ae t.out (ae h.out f)
  have Z:k=n:=by omega
  subst Z;have r:(dP D k 0).2.2=0:=by rw [←R.out,Nat.sub_self];rfl
  have y:=(jx k 0 r).2;have L:=Bw b o k cap D A C wr (by omega) (fun j hj=>(aL (kz (y j (zU) (by omega)))).2.2.1) m
  clear y m
  by_cases S:3000<prodN D k
  ·have KI:3000<(prodN D k:Int):=by omega
   have i:Hid (am D k=(-1,-1,4)):=Ko (by omega) (by omega) r S
   clear r S;go_wp2_with fail;refine L.mono ?_;rintro e w2 ⟨rfl,c⟩;go_wp2_with fail;refine bodyPost_ret (v:=.tuple #[.int .i64 (-1),.int .i64 (-1),.iface 63 (.int .i64 4)]) (by simp [results,Tryz.results86,go_sem]) rfl ⟨by rw [i.out];rfl,?_⟩
   exact ae t.out (ae h.out c)
  have KI:(prodN D k:Int)≤3000:=by omega
  have i:Hid (am D k=(-1,-1,0)):=Kp (by omega) (by omega) r S
  clear r S;go_wp2_with fail;refine L.mono ?_;rintro e w2 ⟨rfl,c⟩;go_wp2_with fail;refine bodyPost_ret (v:=.tuple #[.int .i64 (-1),.int .i64 (-1),.nilIface]) (by simp [results,Tryz.results86,go_sem]) rfl ⟨by rw [i.out];rfl,?_⟩
  exact ae t.out (ae h.out c)
theorem xq:dt 225:=fun args w=>by simp [callFunc,Tryz.func225];rfl
theorem um (m:Mem) (i:Int) (q:Nat) (w:World) (a:q<w.heap.size) (h:w.cell? ⟨q,0,none⟩=some (.int .i64 i)):Rt 225 #[qq m,.pointer (some ⟨q,0,none⟩)] w (.bool (m.parent == i)):=by
 unfold qq
 go_enter Tryz.func225,Tryz.ntmps225
 go_wp2_with fail;go_ret;exact ⟨by simp,by go_grown⟩
def ib (w:World) (i:Int) (T:Nat):World:=w.alloc (.cells #[.int .i64 i] T)
theorem mu (w:World) (i:Int) (T:Nat):(ib w i T).cell? ⟨w.heap.size,0,none⟩=some (.int .i64 i):=by unfold ib;simp
theorem gP (w:World) (i:Int) (T:Nat):(ib w i T).heap.size=w.heap.size+1:=by unfold ib;simp
theorem ef (w:World) (i:Int) (T:Nat):Bl w (ib w i T):=by unfold ib;go_grown
theorem oW {M:Nat→Mem} {n k:Nat} (h:(M k).formula.size≠0):leafB M n k=false:=by simp [leafB,h]
theorem mQ {M:Nat→Mem} {n k:Nat} (h:(M k).formula.size=0):leafB M n k = !decide (0≤findFrom (iG M k) n 0):=by simp [leafB,h]
theorem xr (b o n cap i:Nat) (M:Nat→Mem) (w:World) (x:n≤12) (u:i<n) (l:b7 w b o n M):Rt 186 #[.slice (some ⟨b,o,none⟩) n cap,.int .i64 i] w (.bool (leafB M n i)):=by
 have s:=gP w i 3;have a:=ef w i 3;have r:=mu w i 3;have g:=l.later a;have c:=j8 225 w.heap.size xq b o n cap M (iG M i) (ib w i 3) x g (fun j w' _ h=>um (M j) i w.heap.size w' (by have:=h.size;omega) (aD h (by show w.heap.size<_;omega) r))
 have m:=aa a;obtain ⟨-,-,-,z⟩:=l.2 i u;have t:=l.1;have v:(i:Int)<(n:Int):=by omega
 have y:(n:Int)≤12:=by omega
 clear l s a r g
 by_cases d:(M i).formula.size=0
 ·have q:(M i).formula.toList.isEmpty=true:=by rw [aV];simpa using d
  have k:Hid (leafB M n i = !decide (0≤findFrom (iG M i) n 0)):=mQ d;clear d;generalize decide (0≤findFrom (iG M i) n 0)=f at c k
  go_enter Tryz.func186,Tryz.ntmps186
  go_wp2_with fail;refine c.mono ?_;rintro e w1 ⟨rfl,p⟩;go_wp2_with fail;go_ret;exact ⟨by rw [k.out];rfl,ae m.out p⟩
 have q:(M i).formula.toList.isEmpty=false:=by rw [aV];simpa using d
 have k:Hid (leafB M n i=false):=oW d;clear d c
 go_enter Tryz.func186,Tryz.ntmps186
 go_wp2_with fail;go_ret;exact ⟨by rw [k.out];rfl,by go_grown⟩
def bW (w:World) (A:Option Addr) (cap:Nat) (L:List Int):Prop:=L.length≤cap∧(L=[]∨∃ b,A=some ⟨b,0,none⟩∧b<w.heap.size∧∀ j,j<L.length→w.cell? ⟨b,j,none⟩=some (.int .i64 (L.getD j 0)))
theorem bW.later {w w':World} {A:Option Addr} {cap:Nat} {L:List Int} (h:bW w A cap L) (e:Bl w w'):bW w' A cap L:=by
 obtain ⟨c,a | ⟨b,a,d,f⟩⟩:=h
 ·exact ⟨c,Or.inl a⟩
 exact ⟨c,Or.inr ⟨b,a,zW d e.size,fun j g=>aD e d (f j g)⟩⟩
def aF (L:List Int):List Value:=L.map (Value.int .i64)
theorem mapI_snoc (L:List Int) (x:Int):aF (L ++ [x])=aF L ++ [Value.int .i64 x]:=by simp [aF]
theorem ss {w:World} {base e:Nat} {v:Value} {L:List Int} (h:w.ownsRow base e 1 v L.length (aF L)):∃ A cap,v=.slice A L.length cap∧bW w A cap L:=by
 rcases h.2 with ⟨rfl,b⟩ | ⟨g,cap,d,rfl,l,i,f,_,_,_⟩
 ·exact ⟨none,0,by rw [b],by omega,Or.inl (List.eq_nil_of_length_eq_zero b)⟩
 refine ⟨_,cap,rfl,f,Or.inr ⟨g,rfl,(zY i).1,fun j k=>?_⟩⟩
 have c:=h.cells (g:=g) rfl j (.int .i64 (L.getD j 0)) (by simp [aF,List.getD,zX k])
 have a:(⟨g,0,none⟩:Addr).add j=⟨g,j,none⟩:=by unfold Addr.add;split <;> simp_all
 rw [a] at c;exact c
theorem ao {w w':World} {base e size:Nat} {v:Value} {n:Nat} {xs:List Value} (h:w.ownsRow base e size v n xs) (a:Bl w w'):w'.ownsRow base e size v n xs:=by
 refine ⟨h.1,?_⟩
 rcases h.2 with h0 | ⟨g,cap,cur,rfl,hb,hg,h1⟩
 ·exact Or.inl h0
 exact Or.inr ⟨g,cap,cur,rfl,hb,(a.block g (zY hg).1).trans hg,h1⟩
theorem bB {w wr w1:World} {e size n:Nat} {v:Value} {xs:List Value} {o:Obj} (c:Bl w wr) (b:wr.ownsRow w.heap.size e size v n xs) (a:(wr.alloc o).grownBy w1 v.ownBlock):Bl w w1 :=
 (c.alloc c.size o).grown a (by have:=c.size;simp;omega) (fun j d=>(b.lt j d).1)
theorem bw {wr:World} {x:Value} {T:Nat}:∀ j u,[x][j]?=some u→(wr.alloc (.cells #[x] T)).cell? ((⟨wr.heap.size,0,none⟩:Addr).add j)=some u:=by
 intro j u a
 match j,a with
 | 0,a=>simp at a;subst a;simp [Addr.add]
theorem dF {x:Int}:∀ u∈[Value.int .i64 x],u.oneCell'=true:=by intro u a;simp at a;subst a;rfl
theorem Tryz.infoInt:(Tryz.prog.info? 3).map (fun i=>(i.zero,i.size,i.bytes))=some (some (.int .i64 0),1,8):=by kernel_rfl
theorem D7 (s:ByteArray) (k:Nat) (h:k<s.size):byteN s k=(s[k].toNat:Int):=by
 unfold byteN;rw [List.getD,zX (by simpa using h)]
 rfl
theorem mA (s:ByteArray) (w:World):Calls Tryz.prog 110 #[.string s] w fun e w'=>e=.returned (.int .i64 (aT s))∧w'=w:=by
 by_cases c:s.size<1
 ·rw [fE (Or.inl c)]
  have p:s.toList.isEmpty=true:=by rw [aV];simpa using (by omega:s.size=0)
  clear c
  go_enter Tryz.func110,Tryz.ntmps110
  go_wp2;go_ret;exact ⟨rfl,rfl⟩
 have u:s.toList.isEmpty=false:=by rw [aV];simpa using (by omega : ¬ s.size=0)
 by_cases p:8<s.size
 ·rw [fE (Or.inr p)]
  have i:8<(s.size:Int):=by omega
  clear c
  go_enter Tryz.func110,Tryz.ntmps110
  go_wp2;go_ret;exact ⟨rfl,rfl⟩
 have i:(s.size:Int)≤8:=by omega
 have f:Hid (aT s=if 0≤findFrom (da s) s.size 0 then 2 else 0):=ke (by omega) (by omega)
 clear c
 go_enter Tryz.func110,Tryz.ntmps110
 go_wp2
 go_loopg [3] s.size (fun g s3 wr => ∃ k:Nat,k≤s.size∧g=s.size-k∧s3=.int .i64 k∧findFrom (da s) (s.size-k) k=findFrom (da s) s.size 0∧wr=w)
 case atStart=>exact ⟨0,zU,rfl,rfl,rfl,rfl⟩
 case round =>
  obtain ⟨k,v,rfl,rfl,d,rfl⟩:=hrel
  by_cases n:k<s.size
  ·have b:=aa d
   have a:s.size-k=(s.size-(k+1))+1:=by omega
   have m:(k:Int)<(s.size:Int):=by omega
   have o:=D7 s k n;have h:=aa o;clear d o
   by_cases r:(s[k].toNat:Int)<97
   ·go_wp2
    go_ret;have j:da s k=true:=by unfold da vZ;rw [h.out];simp [r]
    exact ⟨by rw [f.out,←b.out,a,bj _ j,if_pos (by omega)];rfl,rfl⟩
   by_cases t:122<(s[k].toNat:Int)
   ·go_wp2
    go_ret;have j:da s k=true:=by unfold da vZ;rw [h.out];simp [t]
    exact ⟨by rw [f.out,←b.out,a,bj _ j,if_pos (by omega)];rfl,rfl⟩
   have q:Hid (da s k=false):=by show da s k=false;unfold da vZ;rw [h.out];simp;omega
   go_wp2
   go_roundg (s.size-(k+1))
   case measure=>omega
   case rel=>exact ⟨k+1,by omega,rfl,by go_num,by rw [←b.out,a,be _ q.out],rfl⟩
  have l:k=s.size:=by omega
  have b:=aa d;have m:(s.size:Int)≤(k:Int):=by omega
  clear d;go_wp2;go_ret;exact ⟨by rw [f.out,←b.out,l,Nat.sub_self];rfl,rfl⟩
theorem mH (d:Dm) (A:Option Addr) (cap:Nat) (s:ByteArray) (w:World) (G:d.n≤12) (t:eg w A cap d.n d.mem):Rt 62 #[cM d A cap,.string s] w (.int .i64 (findFrom (fun j=>same (d.mem j).name s) d.n 0)):=by
 have z:=aa t;clear t;unfold cM;have C:(d.n:Int)≤12:=by omega
 have u:=bg w d A cap 70;have e:=aU w d A cap 70;have c:=(dN w d A cap 70).2.2;obtain ⟨W,m⟩:∃ W,W=aM w d A cap 70:=⟨_,rfl⟩;rw [←m] at e u c;have B:=aa m;have y:=aa c;have a:=aa e;have D:w.heap.size<W.heap.size:=by omega
 clear m c e u
 go_enter Tryz.func62,Tryz.ntmps62
 go_wp2_with fail
 go_loopg [5] d.n (fun g s5 wr => ∃ k:Nat,k≤d.n∧g=d.n-k∧s5=.int .i64 k∧findFrom (fun j=>same (d.mem j).name s) (d.n-k) k=findFrom (fun j=>same (d.mem j).name s) d.n 0∧wr=W)
 case atStart=>exact ⟨0,zU,rfl,rfl,rfl,by rw [B.out];rfl⟩
 case round =>
  obtain ⟨k,F,rfl,rfl,x,rfl⟩:=hrel;have i:=aa x;have c2:=y.out;clear x
  by_cases r:k<d.n
  ·obtain ⟨v,E | ⟨b,o,rfl,f⟩⟩:=z.out.later a.out
   ·omega
   obtain ⟨n0,-,-,-⟩:=f.2 k r;have q:(k:Int)<(d.n:Int):=by omega
   have h:d.n-k=(d.n-(k+1))+1:=by omega
   clear f;cases hq:((d.mem k).name.toList == s.toList)
   ·have l:=aa hq
    go_wp2_with fail
    go_roundg (d.n-(k+1))
    case measure=>omega
    case rel=>exact ⟨k+1,by omega,rfl,by go_num,by rw [←i.out,h,be _ l.out],rfl⟩
   have l:=aa hq;go_wp2_with fail;go_ret;exact ⟨by rw [←i.out,h,bj _ l.out];rfl,a.out⟩
  have p:k=d.n:=by omega
  have q:(d.n:Int)≤(k:Int):=by omega
  go_wp2_with fail;go_ret;exact ⟨by rw [←i.out,p,Nat.sub_self];rfl,a.out⟩
theorem yh {H:Type} {enc:TypeId×Value→H} {P:Program} {f:Func} {s:ChangeSpec} {apart d a:Bool} {W W':World} {args:Array Value} {v:Value} {i gs:List (DataW H)} {before pa pv:List MemPlace}
  (m:DataW.Whole enc P f.params.toList s.vars apart W args.toList i gs before)
  (k:∀ (b:Nat) (sp:Nat→Bool) (n:Bool),DataW.TrodAll enc P W' b sp n f.resultTypes.toList (v.resultList f.resultTypes.size) (s.fn H (i ++ gs)).results [])
  (e:∀ sp:Nat→Bool,(∀ p∈before,sp p.block=true)→DataW.TrodAll enc P W' 0 sp true f.params.toList args.toList (s.fn H (i ++ gs)).args pa)
  (g:∀ sp:Nat→Bool,(∀ p∈before,sp p.block=true)→DataW.TrodVars enc P W' sp s.vars (s.fn H (i ++ gs)).vars pv)
  (l:before=pa ++ pv) (o:W.keptBut W' (·∈before)) :
  s.post enc P f apart d a false W args v W':=by
 have c:∀ p∈before,(fun b=>decide (b<W.heap.size)) p.block=true:=fun p j=>by simpa using m.lt p j
 refine ⟨i,gs,before,[],pa,pv,m,k _ _ _,e _ c,g _ c,World.keptBut_mono (fun p j=>⟨j,?_⟩) o,fun h=>by cases h⟩
 rw [l,List.mem_append] at j;exact Or.inr j
end Go.Proofs.YtompdcaikmekkaaGreatDoor
