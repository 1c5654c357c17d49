/-
  What package tree tells, as plain functions on plain data: the path of a member, its parts, its leafs, how a leaf counts in a member, how long paths are; and small facts on them.
-/
import Derived.Test.YtfgegmpoejilnaaGreatDoorJGAE
namespace Go.Proofs.YtfgegmpoejilnaaGreatDoor
def Tr (M:Nat→Mem) (n:Nat):Prop := ∀ k,k<n→-1≤(M k).parent∧(M k).parent<(k:Int)
def Sg (M:Nat→Mem) (n:Nat):Prop := ∀ k,k<n→-1≤(M k).sign∧(M k).sign≤1
theorem memErr_tree {M:Nat→Mem} {i:Nat} (h:memErr M i=0):(-1≤(M i).parent∧(M i).parent<(i:Int))∧(-1≤(M i).sign∧(M i).sign≤1)∧(0≤(M i).parent→(M (M i).parent.toNat).formula.size=0):=by
 unfold memErr at h
 split at h
 ·simp at h
 ·split at h
  ·simp at h
  ·split at h
   ·simp at h
   ·split at h
    ·simp at h
    ·split at h
     ·simp at h
     ·rename_i h1 h2 h3 h4 h5
      refine ⟨by omega,by omega,fun h6=>?_⟩
      exact Decidable.byContradiction fun h7=>h4 ⟨h6,h7⟩
theorem Tr.of {d:Dm} (h:(dimErr d).2=0):Tr d.mem d.n:=fun k hk=>(memErr_tree ((dimErr_right h).2.2.2 k hk)).1
theorem Sg.of {d:Dm} (h:(dimErr d).2=0):Sg d.mem d.n:=fun k hk=>(memErr_tree ((dimErr_right h).2.2.2 k hk)).2.1
def pth (M:Nat→Mem):Nat→Int→List Int
 | 0,_=>[]
 | f+1,i=>if i<0 then [] else i :: pth M f (M i.toNat).parent
def pathOf (M:Nat→Mem) (i:Int):List Int:=pth M (i.toNat+1) i
theorem pth_same {M:Nat→Mem} {n:Nat} (ht:Tr M n) (f:Nat):∀ (g:Nat) (i:Int),i<n→i<f→i<g→pth M f i=pth M g i:=by
 induction f with
 | zero =>
  intro g i _ h2 _
  have:i<0:=by omega
  cases g with
  | zero=>rfl
  | succ g=>simp [pth,this]
 | succ f ih =>
  intro g i h1 h2 h3
  cases g with
  | zero =>
   have:i<0:=by omega
   simp [pth,this]
  | succ g =>
   by_cases h0:i<0
   ·simp [pth,h0]
   ·simp only [pth,if_neg h0]
    have:=ht i.toNat (by omega)
    rw [ih g _ (by omega) (by omega) (by omega)]
theorem pathOf_neg {M:Nat→Mem} {i:Int} (h:i<0):pathOf M i=[]:=by simp [pathOf,pth,h]
theorem pathOf_cons {M:Nat→Mem} {n:Nat} (ht:Tr M n) {i:Nat} (h:i<n):pathOf M i=(i:Int) :: pathOf M (M i).parent:=by
 have:=ht i h
 unfold pathOf
 rw [show ((i:Int)).toNat=i by omega,pth,if_neg (by omega),show ((i:Int)).toNat=i by omega,pth_same ht i ((M i).parent.toNat+1) _ (by omega) (by omega) (by omega)]
theorem pathOf_mem {M:Nat→Mem} {n:Nat} (ht:Tr M n) (k:Nat):∀ i:Int,i<n→i<k→∀ j∈pathOf M i,0≤j∧j≤i:=by
 induction k with
 | zero=>intro i _ h j hj;rw [pathOf_neg (by omega)] at hj;cases hj
 | succ k ih =>
  intro i h1 h2 j hj
  by_cases h0:i<0
  ·rw [pathOf_neg h0] at hj;cases hj
  ·obtain ⟨q,rfl⟩:∃ q:Nat,i=q:=⟨i.toNat,by omega⟩
   have:=ht q (by omega)
   rw [pathOf_cons ht (by omega),List.mem_cons] at hj
   rcases hj with rfl | hj
   ·omega
   ·have:=ih (M q).parent (by omega) (by omega) j hj
    omega
def selTo (p:Nat→Bool):Nat→List Int
 | 0=>[]
 | k+1=>selTo p k ++ (if p k=true then [(k:Int)] else [])
theorem selTo_hit {p:Nat→Bool} {k:Nat} (h:p k=true):selTo p (k+1)=selTo p k ++ [(k:Int)]:=by simp [selTo,h]
theorem selTo_miss {p:Nat→Bool} {k:Nat} (h:p k=false):selTo p (k+1)=selTo p k:=by simp [selTo,h]
theorem selTo_len (p:Nat→Bool) (k:Nat):(selTo p k).length≤k:=by
 induction k with
 | zero=>exact Nat.le_refl _
 | succ k ih=>rw [selTo,List.length_append];split <;> simp <;> omega
theorem selTo_mem {p:Nat→Bool} {k:Nat}:∀ j∈selTo p k,∃ m:Nat,j=m∧m<k∧p m=true:=by
 induction k with
 | zero=>intro j hj;cases hj
 | succ k ih =>
  intro j hj
  rw [selTo,List.mem_append] at hj
  rcases hj with hj | hj
  ·obtain ⟨m,h1,h2,h3⟩:=ih j hj;exact ⟨m,h1,by omega,h3⟩
  ·split at hj
   ·rename_i hp;simp at hj;exact ⟨k,hj,by omega,hp⟩
   ·cases hj
theorem selTo_none {p:Nat→Bool} {k:Nat} (h:∀ j,j<k→p j=false):selTo p k=[]:=by
 induction k with
 | zero=>rfl
 | succ k ih=>rw [selTo_miss (h k (by omega)),ih fun j hj=>h j (by omega)]
def partB (M:Nat→Mem) (i:Int) (k:Nat):Bool:=(M k).parent == i
def leafB (M:Nat→Mem) (n k:Nat):Bool:=decide ((M k).formula.size=0) && !decide (0≤findFrom (partB M k) n 0)
def inB (L:List Int) (i:Int):Bool:=decide (i∈L)
def partsOf (M:Nat→Mem) (n:Nat) (i:Int):List Int:=selTo (partB M i) n
theorem find_in (L:List Int) (i:Int):decide (0≤findFrom (fun j=>L.getD j 0 == i) L.length 0)=inB L i:=by
 unfold inB
 rw [decide_eq_decide]
 rcases findFrom_cases (fun j=>L.getD j 0 == i) L.length 0 with ⟨h1,h2⟩ | ⟨k,h1,_,h3,h4,_⟩
 ·rw [h1]
  constructor
  ·intro h;omega
  ·intro h
   obtain ⟨j,hj,e⟩:=List.getElem_of_mem h
   have:=h2 j (Nat.zero_le _) (by omega)
   simp [List.getD,List.getElem?_eq_getElem hj,e] at this
 ·rw [h1]
  constructor
  ·intro _
   have hk:k<L.length:=by omega
   simp [List.getD,List.getElem?_eq_getElem hk] at h4
   rw [←h4];exact List.getElem_mem hk
  ·intro _;omega
def wgt (M:Nat→Mem) (i:Int):List Int→Int→Int
 | [],_=>0
 | k :: t,a=>if k=i then a else wgt M i t (a*(M k.toNat).sign)
def weightOf (M:Nat→Mem) (i j:Int):Int:=wgt M i (pathOf M j) 1
theorem wgt_hit {M:Nat→Mem} {i:Int} (t:List Int) (a:Int):wgt M i (i :: t) a=a:=by simp [wgt]
theorem wgt_miss {M:Nat→Mem} {i k:Int} (h:k≠i) (t:List Int) (a:Int):wgt M i (k :: t) a=wgt M i t (a*(M k.toNat).sign):=by simp [wgt,h]
theorem wgt_out {M:Nat→Mem} {i:Int} (L:List Int) (h:i∉L):∀ a,wgt M i L a=0:=by
 induction L with
 | nil=>intro a;rfl
 | cons k t ih =>
  intro a
  simp only [List.mem_cons,not_or] at h
  rw [wgt_miss (fun e=>h.1 e.symm)]
  exact ih h.2 _
theorem small_mul {a b:Int} (ha : -1≤a∧a≤1) (hb : -1≤b∧b≤1) : -1≤a*b∧a*b≤1:=by
 rcases (show a = -1∨a=0∨a=1 by omega) with rfl | rfl | rfl <;> simp <;> omega
theorem wgt_small {M:Nat→Mem} {n:Nat} (hs:Sg M n) (i:Int) (L:List Int) (hL:∀ j∈L,0≤j∧j<n):∀ a,(-1≤a∧a≤1)→-1≤wgt M i L a∧wgt M i L a≤1:=by
 induction L with
 | nil=>intro a _;simp [wgt]
 | cons k t ih =>
  intro a ha
  by_cases hk:k=i
  ·subst hk;rw [wgt_hit];exact ha
  ·rw [wgt_miss hk]
   have:=hL k (List.mem_cons_self ..)
   exact ih (fun j hj=>hL j (List.mem_cons_of_mem _ hj)) _ (small_mul ha (hs k.toNat (by omega)))
def rangeErr (n:Nat) (L:List Int):Int:=if 0≤findFrom (fun j=>decide (L.getD j 0<0) || decide ((n:Int)≤L.getD j 0)) L.length 0 then 1 else 0
def treeErr (d:Dm) (L:List Int):Int:=if (dimErr d).2≠0 then (dimErr d).2 else rangeErr d.n L
theorem treeErr_dim {d:Dm} {L:List Int} (h:(dimErr d).2≠0):treeErr d L=(dimErr d).2:=by unfold treeErr;rw [if_pos h]
theorem treeErr_one {d:Dm} {i:Int} (h:(dimErr d).2=0):treeErr d [i]=if i<0∨(d.n:Int)≤i then 1 else 0:=by
 unfold treeErr rangeErr;rw [if_neg (by simpa using h)]
 by_cases h1:i<0∨(d.n:Int)≤i
 ·rw [if_pos h1];simp [findFrom,h1]
 ·rw [if_neg h1];simp [findFrom,h1]
def rowN (N:List (List Int)) (i:Int):List Int:=N.getD i.toNat []
def Inn (N:List (List Int)):Prop := ∀ (i:Nat),i<N.length→∀ x∈N.getD i [],0≤x∧x<(N.length:Int)
theorem Inn.at {N:List (List Int)} (h:Inn N) {a:Int} (h0:0≤a) (h1:a<(N.length:Int)) {x:Int} (hx:x∈rowN N a):0≤x∧x<(N.length:Int):=h a.toNat (by omega) x hx
inductive Rch (N:List (List Int)):Int→Int→Prop
 | one {a b:Int}:b∈rowN N a→Rch N a b
 | more {a b c:Int}:b∈rowN N a→Rch N b c→Rch N a c
theorem Rch.trans {N:List (List Int)} {a b c:Int} (h:Rch N a b) (k:Rch N b c):Rch N a c:=by
 induction h with
 | one h=>exact .more h k
 | more h _ ih=>exact .more h (ih k)
theorem Rch.snoc {N:List (List Int)} {a b c:Int} (h:Rch N a b) (k:c∈rowN N b):Rch N a c:=h.trans (.one k)
theorem Rch.inn {N:List (List Int)} (hN:Inn N) {a b:Int} (h:Rch N a b):0≤a→a<(N.length:Int)→0≤b∧b<(N.length:Int):=by
 induction h with
 | one h=>exact fun h0 h1=>hN.at h0 h1 h
 | more h _ ih=>exact fun h0 h1=>let ⟨x,y⟩:=hN.at h0 h1 h;ih x y
theorem Rch.closed {N:List (List Int)} {S:Int→Prop} {a b:Int} (h:Rch N a b):(∀ x∈rowN N a,S x)→(∀ x,S x→∀ y∈rowN N x,S y)→S b:=by
 induction h with
 | one h=>exact fun h1 _=>h1 _ h
 | more h _ ih=>exact fun h1 h2=>ih (fun x hx=>h2 _ (h1 _ h) x hx) h2
noncomputable def cycB (N:List (List Int)) (i:Nat):Bool := @decide (Rch N i i) (Classical.propDecidable _)
theorem cyc_iff {N:List (List Int)} {i:Nat}:cycB N i=true↔Rch N i i:=by
 unfold cycB
 exact @decide_eq_true_iff _ (Classical.propDecidable _)
theorem cyc_not {N:List (List Int)} {i:Nat}:cycB N i=false↔¬ Rch N i i:=by
 rw [←cyc_iff]
 cases cycB N i <;> simp
theorem few (n:Nat):∀ (L:List Int),L.Nodup→(∀ x∈L,0≤x∧x<(n:Int))→L.length≤n:=by
 induction n with
 | zero =>
  intro L _ h
  cases L with
  | nil=>exact Nat.le_refl _
  | cons x r=>have:=h x (by simp);omega
 | succ n ih =>
  intro L hL h
  have h1:=ih (L.erase (n:Int)) (hL.erase _) fun x hx=>by
   have h2:=(hL.mem_erase_iff.1 hx)
   have:=h x h2.2
   have:=h2.1
   omega
  have h3:L.length≤(L.erase (n:Int)).length+1:=by
   by_cases hm:(n:Int)∈L
   ·rw [List.length_erase_of_mem hm];omega
   ·rw [List.erase_of_not_mem hm];omega
  omega
def okN (N:List (List Int)) (out:List Int) (i:Nat):Bool := !(out.contains (i:Int)) && (N.getD i []).all fun x=>out.contains x
def nextO (N:List (List Int)) (out:List Int):Int:=findFrom (okN N out) N.length 0
def ordTo (N:List (List Int)):Nat→List Int
 | 0=>[]
 | k+1=>ordTo N k ++ (if 0≤nextO N (ordTo N k) then [nextO N (ordTo N k)] else [])
theorem next_some {N:List (List Int)} {out:List Int} (h:0≤nextO N out):∃ k:Nat,nextO N out=(k:Int)∧k<N.length∧okN N out k=true∧∀ j,j<k→okN N out j=false:=by
 unfold nextO at *
 rcases findFrom_cases (okN N out) N.length 0 with ⟨h1,_⟩ | ⟨k,h1,_,h3,h4,h5⟩
 ·omega
 ·exact ⟨k,h1,by omega,h4,fun j hj=>h5 j (Nat.zero_le _) hj⟩
theorem ok_out {N:List (List Int)} {out:List Int} {k:Nat} (h:okN N out k=true):(k:Int)∉out∧∀ x∈N.getD k [],x∈out:=by
 unfold okN at h
 simp only [Bool.and_eq_true,Bool.not_eq_true',List.all_eq_true] at h
 refine ⟨fun hm=>?_,fun x hx=>?_⟩
 ·have:=h.1
  rw [←Bool.not_eq_true,List.contains_iff_mem] at this
  exact this hm
 ·exact List.contains_iff_mem.1 (h.2 x hx)
theorem ok_of {N:List (List Int)} {out:List Int} {k:Nat} (h1:(k:Int)∉out) (h2:∀ x∈N.getD k [],x∈out):okN N out k=true:=by
 unfold okN
 simp only [Bool.and_eq_true,Bool.not_eq_true',List.all_eq_true]
 refine ⟨?_,fun x hx=>List.contains_iff_mem.2 (h2 x hx)⟩
 rw [←Bool.not_eq_true,List.contains_iff_mem]
 exact h1
theorem ord_in (N:List (List Int)) (k:Nat):(ordTo N k).Nodup∧(∀ x∈ordTo N k,0≤x∧x<(N.length:Int)):=by
 induction k with
 | zero=>exact ⟨List.nodup_nil,fun x hx=>by cases hx⟩
 | succ k ih =>
  rw [ordTo]
  split
  ·rename_i h
   obtain ⟨m,h1,h2,h3,-⟩:=next_some h
   rw [h1]
   refine ⟨?_,fun x hx=>?_⟩
   ·rw [List.nodup_append]
    refine ⟨ih.1,by simp,fun a ha b hb=>?_⟩
    rw [List.mem_singleton.1 hb]
    intro e
    exact (ok_out h3).1 (e ▸ ha)
   ·rcases List.mem_append.1 hx with hx | hx
    ·exact ih.2 x hx
    ·rw [List.mem_singleton.1 hx];omega
  ·rw [List.append_nil];exact ih
theorem way {N:List (List Int)} {out:List Int} (hN:Inn N) (hno:∀ i:Nat,i<N.length→okN N out i=false) {a:Nat} (ha:a<N.length) (hao:(a:Int)∉out) (k:Nat) :
  (∃ i:Nat,i<N.length∧Rch N i i)∨∃ (P:List Int) (x:Int),x∈P∧P.length=k+1∧P.Nodup∧(∀ y∈P,0≤y∧y<(N.length:Int)∧y∉out)∧∀ y∈P,y=x∨Rch N y x:=by
 induction k with
 | zero=>exact Or.inr ⟨[(a:Int)],a,by simp,rfl,by simp,fun y hy=>by rw [List.mem_singleton.1 hy];exact ⟨by omega,by omega,hao⟩,fun y hy=>Or.inl (List.mem_singleton.1 hy)⟩
 | succ k ih =>
  rcases ih with h | ⟨P,x,hxP,hlen,hnd,hin,hto⟩
  ·exact Or.inl h
  ·obtain ⟨hx0,hx1,hx2⟩:=hin x hxP
   obtain ⟨m,rfl⟩:∃ m:Nat,x=m:=⟨x.toNat,by omega⟩
   have hmf:=hno m (by omega)
   obtain ⟨y,hy,hyo⟩:∃ y∈N.getD m [],y∉out:=by
    refine Classical.byContradiction fun hc=>?_
    rw [ok_of hx2 fun x hx=>Classical.byContradiction fun h=>hc ⟨x,hx,h⟩] at hmf
    cases hmf
   have hr:y∈rowN N (m:Int):=by unfold rowN;simpa using hy
   have hyi:=hN.at hx0 hx1 hr
   by_cases hyP:y∈P
   ·refine Or.inl ⟨m,by omega,?_⟩
    rcases hto y hyP with e | e
    ·exact .one (e ▸ hr)
    ·exact .more hr e
   ·refine Or.inr ⟨y :: P,y,by simp,by simp [hlen],List.nodup_cons.2 ⟨hyP,hnd⟩,fun z hz=>?_,fun z hz=>?_⟩
    ·rcases List.mem_cons.1 hz with rfl | hz
     ·exact ⟨hyi.1,hyi.2,hyo⟩
     ·exact hin z hz
    ·rcases List.mem_cons.1 hz with rfl | hz
     ·exact Or.inl rfl
     ·rcases hto z hz with e | e
      ·exact Or.inr (.one (e ▸ hr))
      ·exact Or.inr (e.snoc hr)
theorem next_there {N:List (List Int)} (hN:Inn N) (hc:∀ i:Nat,i<N.length→cycB N i=false) {k:Nat} (hk:k<N.length) (hl:(ordTo N k).length=k):0≤nextO N (ordTo N k):=by
 unfold nextO
 rcases findFrom_cases (okN N (ordTo N k)) N.length 0 with ⟨_,h2⟩ | ⟨m,h1,_⟩
 ·exfalso
  have hno:∀ i:Nat,i<N.length→okN N (ordTo N k) i=false:=fun i hi=>h2 i (Nat.zero_le _) (by omega)
  obtain ⟨a,ha,hao⟩:∃ a:Nat,a<N.length∧(a:Int)∉ordTo N k:=by
   refine Classical.byContradiction fun hn=>?_
   have hall:∀ a:Nat,a<N.length→(a:Int)∈ordTo N k:=fun a ha=>Classical.byContradiction fun h=>hn ⟨a,ha,h⟩
   have hmap:(List.range N.length).map (fun a:Nat=>(a:Int)) ⊆ ordTo N k:=fun x hx=>by
    obtain ⟨a,ha,rfl⟩:=List.mem_map.1 hx
    exact hall a (List.mem_range.1 ha)
   have hlen:∀ (X Y:List Int),X.Nodup→X ⊆ Y→X.length≤Y.length:=by
    intro X
    induction X with
    | nil=>intro Y _ _;exact Nat.zero_le _
    | cons x r ih =>
     intro Y hX hs
     have hx:=List.nodup_cons.1 hX
     have hxY:x∈Y:=hs (by simp)
     have:=ih (Y.erase x) hx.2 fun z hz=>(List.mem_erase_of_ne (fun e:z=x=>hx.1 (by rw [←e];exact hz))).2 (hs (List.mem_cons_of_mem _ hz))
     rw [List.length_erase_of_mem hxY] at this
     have:=List.length_pos_of_mem hxY
     simp only [List.length_cons]
     omega
   have hrn:(List.range N.length).Pairwise (fun a b=>a≠b):=List.nodup_range
   have:=hlen _ _ (show List.Pairwise (fun a b=>a≠b) _ from List.pairwise_map.2 (hrn.imp fun {a b:Nat} (h:a≠b) (e:(a:Int)=(b:Int))=>h (by omega))) hmap
   rw [List.length_map,List.length_range] at this
   omega
  rcases way hN hno ha hao N.length with ⟨i,hi,hr⟩ | ⟨P,x,_,hP,hnd,hin,_⟩
  ·exact (cyc_not.1 (hc i hi)) hr
  ·have:=few N.length P hnd fun y hy=>⟨(hin y hy).1,(hin y hy).2.1⟩
   omega
 ·omega
theorem ord_len {N:List (List Int)} (hN:Inn N) (hc:∀ i:Nat,i<N.length→cycB N i=false) (k:Nat) (hk:k≤N.length):(ordTo N k).length=k:=by
 induction k with
 | zero=>rfl
 | succ k ih =>
  have h:=ih (by omega)
  rw [ordTo,if_pos (next_there hN hc (by omega) h),List.length_append,h]
  rfl
theorem ord_snoc {N:List (List Int)} (hN:Inn N) (hc:∀ i:Nat,i<N.length→cycB N i=false) {k:Nat} (hk:k<N.length):∃ m:Nat,nextO N (ordTo N k)=(m:Int)∧m<N.length∧okN N (ordTo N k) m=true∧(∀ j,j<m→okN N (ordTo N k) j=false)∧ordTo N (k+1)=ordTo N k ++ [(m:Int)]:=by
 have h:=next_there hN hc hk (ord_len hN hc k (by omega))
 obtain ⟨m,h1,h2,h3,h4⟩:=next_some h
 exact ⟨m,h1,h2,h3,h4,by rw [ordTo,if_pos h,h1]⟩
theorem ord_take {N:List (List Int)} (hN:Inn N) (hc:∀ i:Nat,i<N.length→cycB N i=false) {k:Nat} (n:Nat) (hk:k≤n) (hn:n≤N.length):(ordTo N n).take k=ordTo N k:=by
 induction n with
 | zero =>
  have:k=0:=by omega
  subst this
  rfl
 | succ n ih =>
  by_cases e:k=n+1
  ·subst e
   exact List.take_of_length_le (by rw [ord_len hN hc _ hn];exact Nat.le_refl _)
  ·obtain ⟨m,_,_,_,_,h5⟩:=ord_snoc hN hc (k:=n) (by omega)
   rw [h5,List.take_append_of_le_length (by rw [ord_len hN hc n (by omega)];omega)]
   exact ih (by omega) (by omega)
theorem ord_at {N:List (List Int)} (hN:Inn N) (hc:∀ i:Nat,i<N.length→cycB N i=false) {k:Nat} (hk:k<N.length):∃ m:Nat,(ordTo N N.length).getD k 0=(m:Int)∧m<N.length∧(m:Int)∉(ordTo N N.length).take k∧(∀ x∈N.getD m [],x∈(ordTo N N.length).take k)∧(ordTo N N.length).take (k+1)=(ordTo N N.length).take k ++ [(m:Int)]:=by
 obtain ⟨m,_,h2,h3,_,h5⟩:=ord_snoc hN hc hk
 have e1:=ord_take hN hc (k:=k) N.length (by omega) (Nat.le_refl _)
 have e2:=ord_take hN hc (k:=k+1) N.length (by omega) (Nat.le_refl _)
 refine ⟨m,?_,h2,by rw [e1];exact (ok_out h3).1,by rw [e1];exact (ok_out h3).2,by rw [e1,e2,h5]⟩
 have hl:=ord_len hN hc N.length (Nat.le_refl _)
 have:((ordTo N N.length).take (k+1)).getD k 0=(m:Int):=by
  rw [e2,h5,List.getD_eq_getElem?_getD,List.getElem?_append_right (by rw [ord_len hN hc k (by omega)];exact Nat.le_refl _),ord_len hN hc k (by omega)]
  simp
 rw [List.getD_eq_getElem?_getD,List.getElem?_take_of_lt (by omega)] at this
 rw [List.getD_eq_getElem?_getD]
 exact this
theorem rise_eq:∀ (L K:List Int),L.Pairwise (· < ·)→K.Pairwise (· < ·)→(∀ x,x∈L↔x∈K)→L=K
 | [],[],_,_,_=>rfl
 | [],y :: K,_,_,h=>by have:=(h y).2 (by simp);cases this
 | x :: L,[],_,_,h=>by have:=(h x).1 (by simp);cases this
 | x :: L,y :: K,hL,hK,h=>by
  have hL1:=List.pairwise_cons.1 hL
  have hK1:=List.pairwise_cons.1 hK
  have e:x=y:=by
   rcases List.mem_cons.1 ((h x).1 (by simp)) with e | e
   ·exact e
   ·rcases List.mem_cons.1 ((h y).2 (by simp)) with e2 | e2
    ·exact e2.symm
    ·have:=hL1.1 _ e2
     have:=hK1.1 _ e
     omega
  subst e
  congr 1
  refine rise_eq L K hL1.2 hK1.2 fun z=>⟨fun hz=>?_,fun hz=>?_⟩
  ·rcases List.mem_cons.1 ((h z).1 (List.mem_cons_of_mem _ hz)) with e | e
   ·have:=hL1.1 z hz;omega
   ·exact e
  ·rcases List.mem_cons.1 ((h z).2 (List.mem_cons_of_mem _ hz)) with e | e
   ·have:=hK1.1 z hz;omega
   ·exact e
theorem sel_rise (p:Nat→Bool) (k:Nat):(selTo p k).Pairwise (· < ·):=by
 induction k with
 | zero=>exact List.Pairwise.nil
 | succ k ih =>
  rw [selTo,List.pairwise_append]
  refine ⟨ih,?_,fun a ha b hb=>?_⟩
  ·split <;> simp
  ·obtain ⟨m,h1,h2,-⟩:=selTo_mem a ha
   split at hb
   ·rw [List.mem_singleton.1 hb];omega
   ·cases hb
theorem sel_has {p:Nat→Bool} {k m:Nat} (h:m<k) (hp:p m=true):(m:Int)∈selTo p k:=by
 induction k with
 | zero=>omega
 | succ k ih =>
  rw [selTo,List.mem_append]
  by_cases e:m=k
  ·subst e;exact Or.inr (by rw [if_pos hp];simp)
  ·exact Or.inl (ih (by omega))
theorem selru_filter (p q:Nat→Bool) (f:Int→Bool) (k:Nat) (h:∀ j,j<k→(q j=true↔p j=true∧f (j:Int)=true)):(selTo p k).filter f=selTo q k:=by
 induction k with
 | zero=>rfl
 | succ k ih =>
  rw [selTo,selTo,List.filter_append,ih fun j hj=>h j (by omega)]
  congr 1
  have hk:=h k (by omega)
  by_cases h1:p k=true
  ·by_cases h2:f (k:Int)=true
   ·rw [if_pos h1,if_pos (hk.2 ⟨h1,h2⟩)];simp [h2]
   ·rw [if_pos h1,if_neg fun e=>h2 (hk.1 e).2];simp [h2]
  ·rw [if_neg h1,if_neg fun e=>h1 (hk.1 e).1];rfl
theorem rise_nodup {L:List Int} (h:L.Pairwise (· < ·)):L.Nodup:=h.imp fun h e=>by omega
structure Nd where
 op:Int
 n:Int
 name:ByteArray
 left:Int
 right:Int
def noN:Nd:=⟨0,0,⟨#[]⟩,0,0⟩
def ndErr (x:Nd) (i:Nat):Int :=
 if x.op<1∨6<x.op then 1
 else if x.op=1 then (if x.n<0∨1000000<x.n then 1 else if x.name.size≠0∨x.left≠0∨x.right≠0 then 3 else 0)
 else if x.op=2 then (if nameErr x.name≠0 then 2 else if x.n≠0∨x.left≠0∨x.right≠0 then 3 else 0)
 else if x.left<0∨(i:Int)≤x.left∨x.right<0∨(i:Int)≤x.right then 1
 else if x.n≠0∨x.name.size≠0 then 3 else 0
def uses (x:Nd) (k:Nat):Nat:=if 2<x.op then (if x.left=(k:Int) then 1 else 0)+(if x.right=(k:Int) then 1 else 0) else 0
def usedTo (l:List Nd):Nat→Nat→Nat
 | 0,_=>0
 | i+1,k=>usedTo l i k+uses (l.getD i noN) k
def badN (l:List Nd) (i:Nat):Bool:=decide (ndErr (l.getD i noN) i≠0)
def oddN (l:List Nd) (i:Nat):Bool:=decide (usedTo l l.length i≠1)
def formErr (l:List Nd):Int :=
 if l.length=0 then 5
 else if 30<l.length then 4
 else if 0≤findFrom (badN l) l.length 0 then ndErr (l.getD (findFrom (badN l) l.length 0).toNat noN) (findFrom (badN l) l.length 0).toNat
 else if 0≤findFrom (oddN l) (l.length-1) 0 then 3 else 0
section
variable {l:List Nd} {i:Nat}
theorem form_none (h:l.length=0):formErr l=5:=by simp [formErr,h]
theorem form_full (h:30<l.length):formErr l=4:=by
 have h1:l.length≠0:=by omega
 rw [formErr,if_neg h1,if_pos h]
theorem form_bad (h:l.length≤30) (hi:i<l.length) (hb:badN l i=true) (ha:∀ j,j<i→badN l j=false):formErr l=ndErr (l.getD i noN) i:=by
 have h1 : ¬ l.length=0:=by omega
 have h2 : ¬ 30<l.length:=by omega
 have h3:findFrom (badN l) l.length 0=(i:Int):=findFrom_at (Nat.zero_le _) (by omega) hb (fun j _ hj=>ha j hj)
 rw [formErr,if_neg h1,if_neg h2,h3,if_pos (by omega)]
 simp
theorem form_odd (h0:l.length≠0) (h:l.length≤30) (hb:∀ j,j<l.length→badN l j=false) (hi:i<l.length-1) (ho:oddN l i=true):formErr l=3:=by
 have h2 : ¬ 30<l.length:=by omega
 have h3:findFrom (badN l) l.length 0 = -1:=findFrom_none (fun j _ hj=>hb j (by omega))
 rw [formErr,if_neg h0,if_neg h2,h3,if_neg (by omega)]
 rcases findFrom_cases (oddN l) (l.length-1) 0 with ⟨_,h5⟩ | ⟨m,e,_⟩
 ·rw [h5 i (Nat.zero_le _) (by omega)] at ho;cases ho
 ·rw [e,if_pos (by omega)]
theorem form_good (h0:l.length≠0) (h:l.length≤30) (hb:∀ j,j<l.length→badN l j=false) (ho:∀ j,j<l.length-1→oddN l j=false):formErr l=0:=by
 have h2 : ¬ 30<l.length:=by omega
 have h3:findFrom (badN l) l.length 0 = -1:=findFrom_none (fun j _ hj=>hb j (by omega))
 have h4:findFrom (oddN l) (l.length-1) 0 = -1:=findFrom_none (fun j _ hj=>ho j (by omega))
 rw [formErr,if_neg h0,if_neg h2,h3,if_neg (by omega),h4,if_neg (by omega)]
theorem form_right (h:formErr l=0):0<l.length∧l.length≤30∧(∀ j,j<l.length→ndErr (l.getD j noN) j=0)∧∀ j,j<l.length-1→usedTo l l.length j=1:=by
 by_cases h0:l.length=0
 ·rw [form_none h0] at h;cases h
 by_cases h1:30<l.length
 ·rw [form_full h1] at h;cases h
 refine ⟨by omega,by omega,?_⟩
 rcases findFrom_cases (badN l) l.length 0 with ⟨_,h5⟩ | ⟨m,_,_,h6,h7,h8⟩
 ·have hb:∀ j,j<l.length→badN l j=false:=fun j hj=>h5 j (Nat.zero_le _) (by omega)
  refine ⟨fun j hj=>by simpa [badN] using hb j hj,fun j hj=>?_⟩
  rcases Bool.eq_false_or_eq_true (oddN l j) with ho | ho
  ·rw [form_odd h0 (by omega) hb hj ho] at h;cases h
  ·simpa [oddN] using ho
 ·rw [form_bad (by omega) (by omega) h7 (fun j hj=>h8 j (Nat.zero_le _) hj)] at h
  exact absurd h (of_decide_eq_true h7)
end
def bindN (op:Int):Int:=if op=3∨op=4 then 1 else if op=5∨op=6 then 2 else 3
theorem bindN_ge (op:Int):1≤bindN op:=by unfold bindN;split <;> (try split) <;> omega
structure Bld where
 nodes:List Nd
 ready:List Int
 waiting:List Int
def noB:Bld:=⟨[],[],[]⟩
def addB (x:Nd) (b:Bld):Bld:=⟨b.nodes ++ [x],b.ready ++ [(b.nodes.length:Int)],b.waiting⟩
def joinBd (op:Int) (b:Bld):Bld:=addB ⟨op,0,⟨#[]⟩,b.ready.getD (b.ready.length-2) 0,b.ready.getD (b.ready.length-2+1) 0⟩ ⟨b.nodes,b.ready.take (b.ready.length-2),b.waiting⟩
def settleTo (least:Int):Nat→Bld→Bld
 | 0,b=>b
 | k+1,b=>if b.waiting.getD k 0=0∨bindN (b.waiting.getD k 0)<least then b else settleTo least k (joinBd (b.waiting.getD k 0) ⟨b.nodes,b.ready,b.waiting.take k⟩)
def settleB (least:Int) (b:Bld):Bld:=settleTo least b.waiting.length b
def numW (t:ByteArray):Int:=t.data.toList.foldl (fun n c=>n*10+((c.toNat:Int)-48)) 0
def opndN (t:ByteArray):Nd:=if 97≤byteN t 0∧byteN t 0≤122 then ⟨2,0,t,0,0⟩ else ⟨1,numW t,⟨#[]⟩,0,0⟩
def signI (c:Int):Int:=if c=43 then 0 else if c=45 then 1 else if c=42 then 2 else if c=47 then 3 else -1
def takeB (b:Bld) (t:ByteArray):Bld :=
 if byteN t 0=40 then ⟨b.nodes,b.ready,b.waiting ++ [0]⟩
 else if byteN t 0=41 then ⟨(settleB 0 b).nodes,(settleB 0 b).ready,(settleB 0 b).waiting.take ((settleB 0 b).waiting.length-1)⟩
 else if 0≤signI (byteN t 0) then ⟨(settleB (bindN (3+signI (byteN t 0))) b).nodes,(settleB (bindN (3+signI (byteN t 0))) b).ready,(settleB (bindN (3+signI (byteN t 0))) b).waiting ++ [3+signI (byteN t 0)]⟩
 else addB (opndN t) b
def zerosN (l:List Int):Nat:=l.countP (fun x=>decide (x=0))
def opsN (l:List Int):Nat:=l.countP (fun x=>decide (x≠0))
theorem zo_len (l:List Int):zerosN l+opsN l=l.length:=by
 induction l with
 | nil=>rfl
 | cons x r ih =>
  simp only [zerosN,opsN,List.countP_cons,List.length_cons] at *
  by_cases h:x=0
  ·rw [if_pos (by simpa using h),if_neg (by simpa using h)];omega
  ·rw [if_neg (by simpa using h),if_pos (by simpa using h)];omega
def digB (c:Int):Bool:=decide (48≤c) && decide (c≤57)
def letB (c:Int):Bool:=decide (97≤c) && decide (c≤122)
def leadTo (p:Int→Bool) (t:ByteArray):Nat→Nat→Nat
 | 0,i=>i
 | f+1,i=>if p (byteN t i) then leadTo p t f (i+1) else i
def leadN (p:Int→Bool) (t:ByteArray):Nat:=leadTo p t t.size 0
def nextB (s:ByteArray) (a:Nat):Int:=if a=s.size then 0 else byteN s a
structure Rd (S:Type) where
 at':Nat
 opn:Nat
 st:S
section
variable {S:Type} (s:ByteArray) (tk:S→ByteArray→S)
def wordR (n:Nat) (r:Rd S):Rd S:=⟨r.at'+n,r.opn,tk r.st (s.extract r.at' (r.at'+n))⟩
def opensR:Nat→Rd S→Rd S
 | 0,r=>r
 | f+1,r=>if nextB s r.at'=40 then opensR f (wordR s tk 1 ⟨r.at',r.opn+1,r.st⟩) else r
def closesR:Nat→Rd S→Rd S
 | 0,r=>r
 | f+1,r=>if 0<r.opn∧nextB s r.at'=41 then closesR f (wordR s tk 1 ⟨r.at',r.opn-1,r.st⟩) else r
def digitsN (a:Nat):Nat:=if nextB s a=48 then 1 else min (leadN digB (s.extract a s.size)) 7
def openedR (r:Rd S):Rd S:=opensR s tk (s.size-r.at') r
def operandR (r:Rd S):Rd S×Bool :=
 if digB (nextB s (openedR s tk r).at') then (closesR s tk s.size (wordR s tk (digitsN s (openedR s tk r).at') (openedR s tk r)),true)
 else if letB (nextB s (openedR s tk r).at') then (closesR s tk s.size (wordR s tk (leadN letB (s.extract (openedR s tk r).at' s.size)) (openedR s tk r)),true)
 else (openedR s tk r,false)
def signR (r:Rd S):Rd S×Bool:=if signI (nextB s r.at')<0 then (r,false) else (wordR s tk 1 r,true)
def loopR:Nat→Rd S→Rd S×Bool
 | 0,r=>(r,true)
 | f+1,r=>if r.at'<s.size then
   (if (signR s tk r).2 then (if (operandR s tk (signR s tk r).1).2 then loopR f (operandR s tk (signR s tk r).1).1 else ((operandR s tk (signR s tk r).1).1,false)) else ((signR s tk r).1,false))
  else (r,true)
def allR (r:Rd S):Rd S×Bool :=
 if (operandR s tk r).2 then (if (loopR s tk s.size (operandR s tk r).1).2 then ((loopR s tk s.size (operandR s tk r).1).1,decide ((loopR s tk s.size (operandR s tk r).1).1.opn=0)) else ((loopR s tk s.size (operandR s tk r).1).1,false))
 else ((operandR s tk r).1,false)
end
end Go.Proofs.YtfgegmpoejilnaaGreatDoor
namespace Go.Proofs.YtfgegmpoejilnaaGreatDoor
open Go.ChangeShapes Go.WideShapes Go.ChangeAt Go.RowKit
set_option maxRecDepth 20000
def DimAt (w:World) (b o:Nat) (d:Dm) (A:Option Addr) (c:Nat):Prop:=w.cell? ⟨b,o,none⟩=some (.string d.name)∧w.cell? ⟨b,o+1,none⟩=some (.int .i64 d.solve)∧w.cell? ⟨b,o+2,none⟩=some (.slice A d.n c)∧MemsV w A c d.n d.mem
def DimsAt (w:World) (b o n:Nat) (D:Nat→Dm) (A:Nat→Option Addr) (C:Nat→Nat):Prop:=b<w.heap.size∧∀ i,i<n→DimAt w b (o+i*3) (D i) (A i) (C i)
theorem DimAt.later {w w':World} {b o:Nat} {d:Dm} {A:Option Addr} {c:Nat} (h:DimAt w b o d A c) (hb:b<w.heap.size) (hB:Below w.heap.size w w'):DimAt w' b o d A c :=
 ⟨(hB.cell (p:=⟨b,o,none⟩) hb).trans h.1,(hB.cell (p:=⟨b,o+1,none⟩) hb).trans h.2.1,(hB.cell (p:=⟨b,o+2,none⟩) hb).trans h.2.2.1,h.2.2.2.later hB⟩
theorem DimsAt.later {w w':World} {b o n:Nat} {D:Nat→Dm} {A:Nat→Option Addr} {C:Nat→Nat} (h:DimsAt w b o n D A C) (hB:Below w.heap.size w w'):DimsAt w' b o n D A C :=
 ⟨Nat.lt_of_lt_of_le h.1 hB.size,fun i hi=>(h.2 i hi).later h.1 hB⟩
theorem DimsAt.less {w:World} {b o n m:Nat} {D:Nat→Dm} {A:Nat→Option Addr} {C:Nat→Nat} (h:DimsAt w b o n D A C) (hm:m≤n):DimsAt w b o m D A C:=⟨h.1,fun i hi=>h.2 i (by omega)⟩
def AskD (q:Nat) (w:World) (n:Nat) (D:Nat→Dm) (A:Nat→Option Addr) (C:Nat→Nat) (p:Nat→Bool):Prop := ∀ (i:Nat) (w':World),i<n→Below w.heap.size w w'→Calls Tryz.prog 93 #[dimV (D i) (A i) (C i),.pointer (some ⟨q,0,none⟩)] w' fun e w''=>e=.returned (.bool (p i))∧Below w'.heap.size w' w''
set_option maxHeartbeats 1000000 in
theorem index_dims (q b o n cap:Nat) (D:Nat→Dm) (A:Nat→Option Addr) (C:Nat→Nat) (p:Nat→Bool) (w:World) (hn:n≤4) (hM:DimsAt w b o n D A C) (hp:AskD q w n D A C p) :
  Calls Tryz.prog 128 #[.slice (some ⟨b,o,none⟩) n cap,.func (.func 93) #[] #[.pointer (some ⟨q,0,none⟩)]] w fun e w'=>e=.returned (.int .i64 (findFrom p n 0))∧Below w.heap.size w w':=by
 have HB:Hid (DimsAt w b o n D A C):=hM
 have HP:Hid (AskD q w n D A C p):=hp
 clear hM hp
 go_enter Tryz.func128,Tryz.ntmps128
 go_wp2_with fail
 go_loopg [8] n (fun g s8 wr => ∃ (k:Nat),k≤n∧g=n-k∧s8=.int .i64 k∧findFrom p (n-k) k=findFrom p n 0∧Below w.heap.size w wr)
 case atStart=>exact ⟨0,Nat.zero_le _,rfl,rfl,rfl,Below.refl _ _⟩
 case round =>
  obtain ⟨k,hk,rfl,rfl,hf,hBw⟩:=hrel
  by_cases hlt:k<n
  ·obtain ⟨h0,h1,h2,-⟩:=(HB.out.later hBw).2 k hlt
   have hki:(k:Int)<(n:Int):=by omega
   have HF:Hid (findFrom p (n-k) k=findFrom p n 0):=hf
   have HW:Hid (Below w.heap.size w wr):=hBw
   have hsk:n-k=(n-(k+1))+1:=by omega
   have hbd:=HP.out k wr hlt hBw
   unfold dimV at hbd
   have hs8:(n:Int)≤4:=by omega
   clear hf hBw
   cases hb:p k
   ·rw [hb] at hbd
    have HK:Hid (p k=false):=hb
    clear hb
    go_wp2_with fail
    refine hbd.mono ?_
    rintro e w1 ⟨rfl,hb1⟩
    go_wp2_with fail
    go_roundg (n-(k+1))
    case measure=>omega
    case rel=>exact ⟨k+1,by omega,rfl,by go_num,by rw [←HF.out,hsk,findFrom_miss _ HK.out],onB HW.out hb1⟩
   ·rw [hb] at hbd
    have HK:Hid (p k=true):=hb
    clear hb
    go_wp2_with fail
    refine hbd.mono ?_
    rintro e w1 ⟨rfl,hb1⟩
    go_wp2_with fail
    go_ret
    exact ⟨by rw [←HF.out,hsk,findFrom_hit _ HK.out];rfl,onB HW.out hb1⟩
  ·have hke:k=n:=by omega
   subst hke
   go_wp2_with fail
   go_ret
   exact ⟨by rw [←hf,Nat.sub_self];rfl,hBw⟩
theorem contains_dims (q b o n cap:Nat) (D:Nat→Dm) (A:Nat→Option Addr) (C:Nat→Nat) (p:Nat→Bool) (w:World) (hn:n≤4) (hM:DimsAt w b o n D A C) (hp:AskD q w n D A C p) :
  Calls Tryz.prog 92 #[.slice (some ⟨b,o,none⟩) n cap,.func (.func 93) #[] #[.pointer (some ⟨q,0,none⟩)]] w fun e w'=>e=.returned (.bool (decide (0≤findFrom p n 0)))∧Below w.heap.size w w':=by
 have h:=index_dims q b o n cap D A C p w hn hM hp
 clear hM hp
 go_enter Tryz.func92,Tryz.ntmps92
 go_wp2_with fail
 refine h.mono ?_
 rintro e w1 ⟨rfl,hb1⟩
 go_wp2_with fail
 go_ret
 exact ⟨rfl,hb1⟩
theorem all1_any (d:Dm) (A:Option Addr) (c:Nat) (s:ByteArray) (q:Nat) (w:World) (hq:q<w.heap.size) (h:w.cell? ⟨q,0,none⟩=some (.string s)):Calls Tryz.prog 93 #[dimV d A c,.pointer (some ⟨q,0,none⟩)] w fun e w'=>e=.returned (.bool (same d.name s))∧Below w.heap.size w w':=by
 unfold dimV
 go_enter Tryz.func93,Tryz.ntmps93
 go_wp2_with fail
 go_ret
 exact ⟨by simp [same],by go_grown⟩
theorem prod_small {D:Nat→Dm} {k:Nat} (h:∀ j,j<k→(D j).n≤12) (hk:k≤4):prodN D k≤20736:=by
 refine Nat.le_trans (prodN_le h) ?_
 exact Nat.le_trans (Nat.pow_le_pow_right (by omega) hk) (by decide)
set_option maxHeartbeats 1000000 in
theorem cells_any (b o n cap:Nat) (D:Nat→Dm) (A:Nat→Option Addr) (C:Nat→Nat) (w:World) (hn:n≤4) (hd:∀ j,j<n→(D j).n≤12) (hM:DimsAt w b o n D A C):Calls Tryz.prog 94 #[.agg #[.slice (some ⟨b,o,none⟩) n cap]] w fun e w'=>e=.returned (.int .i64 (prodN D n))∧Below w.heap.size w w':=by
 have HB:Hid (DimsAt w b o n D A C):=hM
 have HD:Hid (∀ j,j<n→(D j).n≤12):=hd
 clear hM hd
 go_enter Tryz.func94,Tryz.ntmps94
 go_wp2_with fail
 go_loopg [3,9] n (fun g s3 s9 wr => ∃ (k:Nat),k≤n∧g=n-k∧s9=.int .i64 k∧s3=.int .i64 (prodN D k)∧Below w.heap.size w wr)
 case atStart=>exact ⟨0,Nat.zero_le _,rfl,rfl,rfl,by go_grown⟩
 case round =>
  obtain ⟨k,hk,rfl,rfl,rfl,hBw⟩:=hrel
  by_cases hlt:k<n
  ·obtain ⟨h0,h1,h2,-⟩:=(HB.out.later hBw).2 k hlt
   have hki:(k:Int)<(n:Int):=by omega
   have hs8:(n:Int)≤4:=by omega
   have hp1:prodN D (k+1)≤20736:=prod_small (fun j hj=>HD.out j (by omega)) (by omega)
   have hp2:(prodN D (k+1):Int)=(prodN D k:Int)*((D k).n:Int):=by rw [prodN];exact Int.natCast_mul _ _
   have hp3:0≤(prodN D k:Int)*((D k).n:Int):=by omega
   have hp4:(prodN D k:Int)*((D k).n:Int)≤20736:=by omega
   have HW:Hid (Below w.heap.size w wr):=hBw
   have HP:Hid ((prodN D (k+1):Int)=(prodN D k:Int)*((D k).n:Int)):=hp2
   clear hBw hp1 hp2
   go_wp2_with fail
   go_roundg (n-(k+1))
   case measure=>omega
   case rel=>exact ⟨k+1,by omega,rfl,by go_num,by rw [HP.out],onB HW.out (by go_grown)⟩
  ·have hke:k=n:=by omega
   subst hke
   go_wp2_with fail
   go_ret
   exact ⟨rfl,hBw⟩
def DimsV (w:World) (A0:Option Addr) (cap n:Nat) (D:Nat→Dm) (A:Nat→Option Addr) (C:Nat→Nat):Prop:=n≤cap∧(n=0∨∃ b o,A0=some ⟨b,o,none⟩∧DimsAt w b o n D A C)
theorem DimsV.later {w w':World} {A0:Option Addr} {cap n:Nat} {D:Nat→Dm} {A:Nat→Option Addr} {C:Nat→Nat} (h:DimsV w A0 cap n D A C) (hB:Below w.heap.size w w'):DimsV w' A0 cap n D A C:=by
 obtain ⟨h1,h2 | ⟨b,o,h2,h3⟩⟩:=h
 ·exact ⟨h1,Or.inl h2⟩
 ·exact ⟨h1,Or.inr ⟨b,o,h2,h3.later hB⟩⟩
theorem al0 {D:Nat→Dm} {n:Nat} (h:4<n):allErr D n=(-1,-1,4):=by unfold allErr;rw [if_pos h]
theorem al1 {D:Nat→Dm} {n:Nat} (h:n=0):allErr D n=(-1,-1,5):=by unfold allErr;rw [if_neg (by omega),if_pos h]
theorem al2 {D:Nat→Dm} {n:Nat} (h : ¬ 4<n) (h1 : ¬ n=0) (h2:(scanD D n 0).2.2≠0):allErr D n=scanD D n 0:=by unfold allErr;rw [if_neg h,if_neg h1,if_pos h2]
theorem al3 {D:Nat→Dm} {n:Nat} (h : ¬ 4<n) (h1 : ¬ n=0) (h2:(scanD D n 0).2.2=0) (h3:3000<prodN D n):allErr D n=(-1,-1,4):=by unfold allErr;rw [if_neg h,if_neg h1,if_neg (by simpa using h2),if_pos h3]
theorem al4 {D:Nat→Dm} {n:Nat} (h : ¬ 4<n) (h1 : ¬ n=0) (h2:(scanD D n 0).2.2=0) (h3 : ¬ 3000<prodN D n):allErr D n=(-1,-1,0):=by unfold allErr;rw [if_neg h,if_neg h1,if_neg (by simpa using h2),if_neg h3]
theorem one0 {D:Nat→Dm} {i:Nat} (h:(dimErr (D i)).2≠0):oneD D i=dimErr (D i):=by unfold oneD;rw [if_pos h]
theorem one1 {D:Nat→Dm} {i:Nat} (h:(dimErr (D i)).2=0) (h1:clashD D i=true):oneD D i=(-1,7):=by unfold oneD;rw [if_neg (by simpa using h),if_pos h1]
theorem one2 {D:Nat→Dm} {i:Nat} (h:(dimErr (D i)).2=0) (h1:clashD D i=false):oneD D i=(-1,0):=by unfold oneD;rw [if_neg (by simpa using h),if_neg (by simp [h1])]
def ownOut (w:World) (A0:Option Addr) (n cap T:Nat):World:=w.alloc (.cells #[.slice A0 n cap] T)
theorem ownOut_at (w:World) (A0:Option Addr) (n cap T:Nat):(ownOut w A0 n cap T).cell? ⟨w.heap.size,0,none⟩=some (.slice A0 n cap):=by unfold ownOut;simp
theorem ownOut_size (w:World) (A0:Option Addr) (n cap T:Nat):(ownOut w A0 n cap T).heap.size=w.heap.size+1:=by unfold ownOut;simp
theorem ownOut_below (w:World) (A0:Option Addr) (n cap T:Nat):Below w.heap.size w (ownOut w A0 n cap T):=by unfold ownOut;go_grown
set_option maxHeartbeats 4000000 in
theorem all_any (A0:Option Addr) (cap n:Nat) (D:Nat→Dm) (A:Nat→Option Addr) (C:Nat→Nat) (w:World) (hM:DimsV w A0 cap n D A C):Calls Tryz.prog 61 #[.agg #[.slice A0 n cap]] w fun e w'=>e=.returned (.tuple #[.int .i64 (allErr D n).1,.int .i64 (allErr D n).2.1,errV (allErr D n).2.2])∧Below w.heap.size w w':=by
 by_cases hn4:4<n
 ·have hn':4<(n:Int):=by omega
  have HR:Hid (allErr D n=(-1,-1,4)):=al0 hn4
  clear hn4 hM
  go_enter Tryz.func61,Tryz.ntmps61
  go_wp2_with fail
  refine bodyPost_ret (v:=.tuple #[.int .i64 (-1),.int .i64 (-1),.iface 95 (.int .i64 4)]) (by simp [results,Tryz.results61,go_sem]) rfl ⟨by rw [HR.out];rfl,?_⟩
  go_grown
 have hn':(n:Int)≤4:=by omega
 by_cases hn0:n=0
 ·have HR:Hid (allErr D n=(-1,-1,5)):=al1 hn0
  have hz:((n:Int) == 0)=true:=by simp [hn0]
  clear hn0 hM hn4
  go_enter Tryz.func61,Tryz.ntmps61
  go_wp2_with fail
  refine bodyPost_ret (v:=.tuple #[.int .i64 (-1),.int .i64 (-1),.iface 95 (.int .i64 5)]) (by simp [results,Tryz.results61,go_sem]) rfl ⟨by rw [HR.out];rfl,?_⟩
  go_grown
 have hz:((n:Int) == 0)=false:=by simp;omega
 obtain ⟨hcap,h0 | ⟨b,o,rfl,hMs⟩⟩:=hM
 ·omega
 have hcap':(n:Int)≤(cap:Int):=by omega
 have hB0:=ownOut_below w (some ⟨b,o,none⟩) n cap 24
 have hS:=ownOut_size w (some ⟨b,o,none⟩) n cap 24
 have hA:=ownOut_at w (some ⟨b,o,none⟩) n cap 24
 obtain ⟨W,hW⟩:∃ W,W=ownOut w (some ⟨b,o,none⟩) n cap 24:=⟨_,rfl⟩
 rw [←hW] at hB0 hS hA
 have HMs:Hid (DimsAt W b o n D A C):=hMs.later hB0
 have hsz:w.heap.size<W.heap.size:=by omega
 clear hMs
 have HW:Hid (W=ownOut w (some ⟨b,o,none⟩) n cap 24):=hW
 have HA:Hid (W.cell? ⟨w.heap.size,0,none⟩=some (.slice (some ⟨b,o,none⟩) n cap)):=hA
 have HB0:Hid (Below w.heap.size w W):=hB0
 clear hW hA hB0 hS
 go_enter Tryz.func61,Tryz.ntmps61
 go_wp2_with fail
 go_loopg [22] n (fun g s22 wr => ∃ (k:Nat),k≤n∧g=n-k∧s22=.int .i64 k∧scanD D (n-k) k=scanD D n 0∧Below W.heap.size W wr)
 case atStart=>exact ⟨0,Nat.zero_le _,rfl,rfl,rfl,by rw [HW.out];exact Below.refl _ _⟩
 case round =>
  obtain ⟨k,hk,rfl,rfl,hsc,hBw⟩:=hrel
  have HBr:Hid (Below W.heap.size W wr):=hBw
  have HF:Hid (scanD D (n-k) k=scanD D n 0):=hsc
  have c0:wr.cell? ⟨w.heap.size,0,none⟩=some (.slice (some ⟨b,o,none⟩) n cap):=(hBw.cell (p:=⟨w.heap.size,0,none⟩) hsz).trans HA.out
  have hMr:=HMs.out.later hBw
  have hszr:w.heap.size<wr.heap.size:=Nat.lt_of_lt_of_le hsz hBw.size
  clear hsc hBw
  by_cases hlt:k<n
  ·obtain ⟨h0,h1,h2,h3⟩:=hMr.2 k hlt
   have hki:(k:Int)<(n:Int):=by omega
   have hsk:n-k=(n-(k+1))+1:=by omega
   have hBo:=ownDim_below wr (D k) (A k) (C k) 30
   have hck:=dcheck_any (D k) (A k) (C k) (ownDim wr (D k) (A k) (C k) 30) (h3.later hBo)
   unfold dimV at hck
   have HMr:Hid (DimsAt wr b o n D A C):=hMr
   clear h3 hMr hBo
   by_cases he:(dimErr (D k)).2=0
   ·obtain ⟨e1,hd1,hd2,-⟩:=dimErr_right he
    rw [he,e1,errV_zero] at hck
    have HE:Hid ((dimErr (D k)).2=0):=he
    clear he e1
    go_wp2_with fail
    refine hck.mono ?_
    rintro e w1 ⟨rfl,hb1⟩
    have hB1:Below wr.heap.size wr w1:=onB (ownDim_below wr (D k) (A k) (C k) 30) hb1
    have hz1:wr.heap.size<w1.heap.size:=by
     have:=hb1.size
     rw [ownDim_size] at this
     omega
    have q0:w1.cell? ⟨wr.heap.size,0,none⟩=some (.string (D k).name):=(hb1.cell (p:=⟨wr.heap.size,0,none⟩) (by show wr.heap.size<_;rw [ownDim_size];omega)).trans (ownDim_at wr (D k) (A k) (C k) 30).1
    have c1:w1.cell? ⟨w.heap.size,0,none⟩=some (.slice (some ⟨b,o,none⟩) n cap):=(hB1.cell (p:=⟨w.heap.size,0,none⟩) hszr).trans c0
    have hM1:=HMr.out.later hB1
    have hcl:=contains_dims wr.heap.size b o k cap D A C (fun j=>same (D j).name (D k).name) w1 (by omega) (hM1.less (by omega)) (fun j w' _ hw'=>all1_any (D j) (A j) (C j) (D k).name wr.heap.size w' (Nat.lt_of_lt_of_le hz1 hw'.size) ((hw'.cell (p:=⟨wr.heap.size,0,none⟩) hz1).trans q0))
    change Calls _ _ _ _ (fun e w'=>e=.returned (.bool (clashD D k))∧_) at hcl
    clear hb1 hck hM1 q0 c0 h0 h1 h2 HMr
    cases hc:clashD D k
    ·rw [hc] at hcl
     have HK:Hid (oneD D k=(-1,0)):=one2 HE.out hc
     clear hc
     go_wp2_with fail
     refine hcl.mono ?_
     rintro e w2 ⟨rfl,hb2⟩
     go_wp2_with fail
     go_roundg (n-(k+1))
     case measure=>omega
     case rel=>exact ⟨k+1,by omega,rfl,by go_num,by rw [←HF.out,hsk,scanD_ok _ (by rw [HK.out])],onB (onB HBr.out hB1) hb2⟩
    ·rw [hc] at hcl
     have HK:Hid (oneD D k=(-1,7)):=one1 HE.out hc
     clear hc
     go_wp2_with fail
     refine hcl.mono ?_
     rintro e w2 ⟨rfl,hb2⟩
     go_wp2_with fail
     have hsb:scanD D n 0=((k:Int),-1,7):=by rw [←HF.out,hsk,scanD_bad _ (by rw [HK.out];decide),HK.out]
     have HR:allErr D n=((k:Int),-1,7):=by rw [al2 (by omega) (by omega) (by rw [hsb];show (7:Int)≠0;decide),hsb]
     refine bodyPost_ret (v:=.tuple #[.int .i64 k,.int .i64 (-1),.iface 95 (.int .i64 7)]) (by simp [results,Tryz.results61,go_sem]) rfl ⟨by rw [HR];rfl,?_⟩
     exact onB HB0.out (onB (onB HBr.out hB1) hb2)
   ·rw [errV_some he] at hck
    have HK:Hid (oneD D k=dimErr (D k)):=one0 he
    have HE:Hid ((dimErr (D k)).2≠0):=he
    clear he
    go_wp2_with fail
    refine hck.mono ?_
    rintro e w1 ⟨rfl,hb1⟩
    have hB1:Below wr.heap.size wr w1:=onB (ownDim_below wr (D k) (A k) (C k) 30) hb1
    clear hb1 hck
    go_wp2_with fail
    have hsb:scanD D n 0=((k:Int),(dimErr (D k)).1,(dimErr (D k)).2):=by rw [←HF.out,hsk,scanD_bad _ (by rw [HK.out];exact HE.out),HK.out]
    have HR:allErr D n=((k:Int),(dimErr (D k)).1,(dimErr (D k)).2):=by rw [al2 (by omega) (by omega) (by rw [hsb];exact HE.out),hsb]
    refine bodyPost_ret (v:=.tuple #[.int .i64 k,.int .i64 (dimErr (D k)).1,.iface 95 (.int .i64 (dimErr (D k)).2)]) (by simp [results,Tryz.results61,go_sem]) rfl ⟨by rw [HR,errV_some HE.out],?_⟩
    exact onB HB0.out (onB HBr.out hB1)
  ·have hke:k=n:=by omega
   subst hke
   have hs0:(scanD D k 0).2.2=0:=by rw [←HF.out,Nat.sub_self];rfl
   have hone:=(scanD_right k 0 hs0).2
   have hcs:=cells_any b o k cap D A C wr (by omega) (fun j hj=>(dimErr_right (oneD_right (hone j (Nat.zero_le _) (by omega)))).2.2.1) hMr
   clear hone hMr
   by_cases hp:3000<prodN D k
   ·have hp':3000<(prodN D k:Int):=by omega
    have HR:Hid (allErr D k=(-1,-1,4)):=al3 (by omega) (by omega) hs0 hp
    clear hs0 hp
    go_wp2_with fail
    refine hcs.mono ?_
    rintro e w2 ⟨rfl,hb2⟩
    go_wp2_with fail
    refine bodyPost_ret (v:=.tuple #[.int .i64 (-1),.int .i64 (-1),.iface 95 (.int .i64 4)]) (by simp [results,Tryz.results61,go_sem]) rfl ⟨by rw [HR.out];rfl,?_⟩
    exact onB HB0.out (onB HBr.out hb2)
   ·have hp':(prodN D k:Int)≤3000:=by omega
    have HR:Hid (allErr D k=(-1,-1,0)):=al4 (by omega) (by omega) hs0 hp
    clear hs0 hp
    go_wp2_with fail
    refine hcs.mono ?_
    rintro e w2 ⟨rfl,hb2⟩
    go_wp2_with fail
    refine bodyPost_ret (v:=.tuple #[.int .i64 (-1),.int .i64 (-1),.nilIface]) (by simp [results,Tryz.results61,go_sem]) rfl ⟨by rw [HR.out];rfl,?_⟩
    exact onB HB0.out (onB HBr.out hb2)
end Go.Proofs.YtfgegmpoejilnaaGreatDoor
