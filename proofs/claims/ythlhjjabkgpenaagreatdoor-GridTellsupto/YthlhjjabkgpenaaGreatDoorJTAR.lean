/-
  A list of ints cloned: what slices.Clone answers at []int, wherever the list lies.
-/
import Derived.Lib.OwnBridge
import Derived.Shelf.Slices.In.SortNone
import Derived.Test.YthlhjjabkgpenaaGreatDoorJTAQ
namespace Go.Proofs.YthlhjjabkgpenaaGreatDoor
open Go.ChangeShapes Go.WideShapes Go.ChangeAt Go.RowKit
set_option maxRecDepth 20000
theorem qk (A:Option Addr) (c:Nat) (L:List Int) (w:World) (H:L.length≤1048576) (q:aO w A c L):Calls Tryz.prog 40 #[.slice A L.length c] w fun e w'=>(∃ v,e=.returned v∧w'.ownsRow w.heap.size 3 1 v L.length (aE L))∧Bl w w':=by
 have I:∀ (w:World) (a:Option Addr) (n c n' p:Nat),(binOp .eql 26 (.slice a n c) (.slice none n' p)).run Tryz.prog w=.ok (.bool a.isNone) w:=fun w a n c n' p=>Lib.run_eql_slice_nil w _ _ a n c n' p Tryz.underlying26
 cases A with
 | none =>
  obtain ⟨-,g | ⟨b,o,g,-⟩⟩:=q
  ·subst g
   simp only [List.length_nil]
   go_enter Tryz.func40,Tryz.ntmps40
   go_wp2_with fail;go_ret;exact ⟨⟨_,rfl,World.ownsRow_nil _ _ _ _⟩,zS⟩
  cases g
 | some a =>
  obtain ⟨i0,r,s,t,y⟩:=info_parts Tryz.infoInt;have C:Hid (∀ j u,(aE L)[j]?=some u→w.cell? (a.add j)=some u):=by
   intro j u l;obtain ⟨-,g | ⟨b,o,g,-,h⟩⟩:=q
   ·subst g;simp [aE] at l
   cases g;have i:j<L.length:=by have:=(List.getElem?_eq_some_iff.1 l).1;simpa [aE] using this
   rw [bS,h j i];simp only [aE,List.getElem?_map,zX i,Option.map_some,Option.some.injEq] at l;rw [←l,zZ,zX i]
   rfl
  have G:(aE L).length=L.length*1:=by simp [aE]
  have E:∀ u∈aE L,u.oneCell'=true:=by intro u z;simp [aE] at z;obtain ⟨x,-,rfl⟩:=z;rfl
  clear q
  go_enter Tryz.func40,Tryz.ntmps40
  go_wp2_with (at_builtin;refine wpList_append_own _ rfl _ _ 26 rfl w.heap.size 3 i0 (.int .i64 0) 1 8 Tryz.underlying26 r s t y rfl (by decide) _ _ _ rfl (World.ownsRow_made w #[] 0 (zT) (zU) (by simp)) a L.length c (aE L) rfl ?qc1 ?qc2 ?qc3 ?qc4 ?qc5 ?qc6 ?_)
  case qc1=>exact G
  case qc2=>exact fun j u l=>Lib.cell?_alloc_some _ (C.out j u l)
  case qc3=>exact E
  case qc4=>simp only [maxLen];omega
  case qc5=>omega
  case qc6=>simp
  intro v' w1 f d m;have D:=aa f;have B:Hid (Bl w w1):=((Below.refl _ w).alloc (zT) _).grown d (by simp) (by intro k F;simp [Value.ownBlock] at F;omega)
  clear f d m;go_wp2_with fail;go_ret;exact ⟨⟨_,rfl,D.out⟩,B.out⟩
end Go.Proofs.YthlhjjabkgpenaaGreatDoor
namespace Go.Proofs.YthlhjjabkgpenaaGreatDoor
def e8 (N:List (List Int)) (i:Int):List Int:=N.getD i.toNat []
def mw (N:List (List Int)):Prop := ∀ (i:Nat),i<N.length→∀ x∈N.getD i [],0≤x∧x<(N.length:Int)
theorem mw.at {N:List (List Int)} (h:mw N) {a:Int} (c:0≤a) (d:a<(N.length:Int)) {x:Int} (b:x∈e8 N a):0≤x∧x<(N.length:Int):=h a.toNat (by omega) x b
inductive Rch (N:List (List Int)):Int→Int→Prop
 | one {a b:Int}:b∈e8 N a→Rch N a b
 | more {a b c:Int}:b∈e8 N a→Rch N b c→Rch N a c
theorem Rch.trans {N:List (List Int)} {a b c:Int} (h:Rch N a b) (k:Rch N b c):Rch N a c:=by
 induction h with
 | one h=>exact .more h k
 | more h _ ih=>exact .more h (ih k)
theorem Rch.snoc {N:List (List Int)} {a b c:Int} (h:Rch N a b) (k:c∈e8 N b):Rch N a c:=h.trans (.one k)
theorem Rch.inn {N:List (List Int)} (e:mw N) {a b:Int} (h:Rch N a b):0≤a→a<(N.length:Int)→0≤b∧b<(N.length:Int):=by
 induction h with
 | one h=>exact fun c d=>e.at c d h
 | more h _ ih=>exact fun c d=>let ⟨x,y⟩:=e.at c d h;ih x y
theorem Rch.closed {N:List (List Int)} {S:Int→Prop} {a b:Int} (h:Rch N a b):(∀ x∈e8 N a,S x)→(∀ x,S x→∀ y∈e8 N x,S y)→S b:=by
 induction h with
 | one h=>exact fun c _=>c _ h
 | more h _ ih=>exact fun c d=>ih (fun x e=>d _ (c _ h) x e) d
noncomputable def cycB (N:List (List Int)) (i:Nat):Bool := @decide (Rch N i i) (Classical.propDecidable _)
theorem cyc_iff {N:List (List Int)} {i:Nat}:cycB N i=true↔Rch N i i:=by
 unfold cycB;exact @decide_eq_true_iff _ (Classical.propDecidable _)
theorem yw {N:List (List Int)} {i:Nat}:cycB N i=false↔¬ Rch N i i:=by
 rw [←cyc_iff];cases cycB N i <;> simp
theorem few (n:Nat):∀ (L:List Int),L.Nodup→(∀ x∈L,0≤x∧x<(n:Int))→L.length≤n:=by
 induction n with
 | zero =>
  intro L _ h;cases L with
  | nil=>exact zT
  | cons x r=>have:=h x (by simp);omega
 | succ n ih =>
  intro L b h;have e:=ih (L.erase (n:Int)) (b.erase _) fun x d=>by
   have a:=(b.mem_erase_iff.1 d);have:=h x a.2;have:=a.1
   omega
  have f:L.length≤(L.erase (n:Int)).length+1:=by
   by_cases c:(n:Int)∈L
   ·rw [List.length_erase_of_mem c];omega
   rw [List.erase_of_not_mem c];omega
  omega
def rK (N:List (List Int)) (out:List Int) (i:Nat):Bool := !(out.contains (i:Int)) && (N.getD i []).all fun x=>out.contains x
def lY (N:List (List Int)) (out:List Int):Int:=findFrom (rK N out) N.length 0
def ay (N:List (List Int)):Nat→List Int
 | 0=>[]
 | k+1=>ay N k ++ (if 0≤lY N (ay N k) then [lY N (ay N k)] else [])
theorem lz {N:List (List Int)} {out:List Int} (h:0≤lY N out):∃ k:Nat,lY N out=(k:Int)∧k<N.length∧rK N out k=true∧∀ j,j<k→rK N out j=false:=by
 unfold lY at *
 rcases findFrom_cases (rK N out) N.length 0 with ⟨a,_⟩ | ⟨k,a,_,e,b,c⟩
 ·omega
 exact ⟨k,a,by omega,b,fun j d=>c j (zU) d⟩
theorem fA {N:List (List Int)} {out:List Int} {k:Nat} (h:rK N out k=true):(k:Int)∉out∧∀ x∈N.getD k [],x∈out:=by
 unfold rK at h;simp only [Bool.and_eq_true,Bool.not_eq_true',List.all_eq_true] at h;refine ⟨fun a=>?_,fun x b=>?_⟩
 ·have:=h.1
  rw [←Bool.not_eq_true,List.contains_iff_mem] at this;exact this a
 exact List.contains_iff_mem.1 (h.2 x b)
theorem uc {N:List (List Int)} {out:List Int} {k:Nat} (a:(k:Int)∉out) (b:∀ x∈N.getD k [],x∈out):rK N out k=true:=by
 unfold rK;simp only [Bool.and_eq_true,Bool.not_eq_true',List.all_eq_true];refine ⟨?_,fun x c=>List.contains_iff_mem.2 (b x c)⟩
 rw [←Bool.not_eq_true,List.contains_iff_mem];exact a
theorem wL (N:List (List Int)) (k:Nat):(ay N k).Nodup∧(∀ x∈ay N k,0≤x∧x<(N.length:Int)):=by
 induction k with
 | zero=>exact ⟨List.nodup_nil,fun x c=>by cases c⟩
 | succ k ih =>
  rw [ay]
  split
  ·rename_i h
   obtain ⟨m,d,j,f,-⟩:=lz h;rw [d];refine ⟨?_,fun x c=>?_⟩
   ·rw [List.nodup_append]
    refine ⟨ih.1,by simp,fun a g b i=>?_⟩
    rw [List.mem_singleton.1 i];intro e;exact (fA f).1 (e ▸ g)
   rcases List.mem_append.1 c with c | c
   ·exact ih.2 x c
   rw [List.mem_singleton.1 c];omega
  rw [List.append_nil];exact ih
theorem way {N:List (List Int)} {out:List Int} (s:mw N) (n:∀ i:Nat,i<N.length→rK N out i=false) {a:Nat} (v:a<N.length) (l:(a:Int)∉out) (k:Nat) :
  (∃ i:Nat,i<N.length∧Rch N i i)∨∃ (P:List Int) (x:Int),x∈P∧P.length=k+1∧P.Nodup∧(∀ y∈P,0≤y∧y<(N.length:Int)∧y∉out)∧∀ y∈P,y=x∨Rch N y x:=by
 induction k with
 | zero=>exact Or.inr ⟨[(a:Int)],a,by simp,rfl,by simp,fun y f=>by rw [List.mem_singleton.1 f];exact ⟨by omega,by omega,l⟩,fun y f=>Or.inl (List.mem_singleton.1 f)⟩
 | succ k ih =>
  rcases ih with h | ⟨P,x,hxP,hlen,hnd,hin,hto⟩
  ·exact Or.inl h
  obtain ⟨o,p,q⟩:=hin x hxP;obtain ⟨m,rfl⟩:∃ m:Nat,x=m:=⟨x.toNat,by omega⟩
  have c:=n m (by omega)
  obtain ⟨y,f,r⟩:∃ y∈N.getD m [],y∉out:=by
   refine Classical.byContradiction fun t=>?_
   rw [uc q fun x u=>Classical.byContradiction fun h=>t ⟨x,u,h⟩] at c
   cases c
  have d:y∈e8 N (m:Int):=by unfold e8;simpa using f
  have j:=s.at o p d
  by_cases g:y∈P
  ·refine Or.inl ⟨m,by omega,?_⟩
   rcases hto y g with e | e
   ·exact .one (e ▸ d)
   exact .more d e
  refine Or.inr ⟨y :: P,y,by simp,by simp [hlen],List.nodup_cons.2 ⟨g,hnd⟩,fun z b=>?_,fun z b=>?_⟩
  ·rcases List.mem_cons.1 b with rfl | b
   ·exact ⟨j.1,j.2,r⟩
   exact hin z b
  rcases List.mem_cons.1 b with rfl | b
  ·exact Or.inl rfl
  rcases hto z b with e | e
  ·exact Or.inr (.one (e ▸ d))
  exact Or.inr (e.snoc d)
theorem nZ {N:List (List Int)} (B:mw N) (D:∀ i:Nat,i<N.length→cycB N i=false) {k:Nat} (I:k<N.length) (J:(ay N k).length=k):0≤lY N (ay N k):=by
 unfold lY
 rcases findFrom_cases (rK N (ay N k)) N.length 0 with ⟨_,A⟩ | ⟨m,G,_⟩
 ·exfalso
  have q:∀ i:Nat,i<N.length→rK N (ay N k) i=false:=fun i t=>A i (zU) (by omega)
  obtain ⟨a,c,o⟩:∃ a:Nat,a<N.length∧(a:Int)∉ay N k:=by
   refine Classical.byContradiction fun E=>?_
   have d:∀ a:Nat,a<N.length→(a:Int)∈ay N k:=fun a c=>Classical.byContradiction fun h=>E ⟨a,c,h⟩
   have j:(List.range N.length).map (fun a:Nat=>(a:Int)) ⊆ ay N k:=fun x n=>by
    obtain ⟨a,c,rfl⟩:=List.mem_map.1 n;exact d a (List.mem_range.1 c)
   have g:∀ (X Y:List Int),X.Nodup→X ⊆ Y→X.length≤Y.length:=by
    intro X
    induction X with
    | nil=>intro Y _ _;exact zU
    | cons x r ih =>
     intro Y C u;have n:=List.nodup_cons.1 C;have l:x∈Y:=u (by simp)
     have:=ih (Y.erase x) n.2 fun z w=>(List.mem_erase_of_ne (fun e:z=x=>n.1 (by rw [←e];exact w))).2 (u (List.mem_cons_of_mem _ w))
     rw [List.length_erase_of_mem l] at this;have:=List.length_pos_of_mem l;simp only [List.length_cons]
     omega
   have s:(List.range N.length).Pairwise (fun a b=>a≠b):=List.nodup_range
   have:=g _ _ (show List.Pairwise (fun a b=>a≠b) _ from List.pairwise_map.2 (s.imp fun {a b:Nat} (h:a≠b) (e:(a:Int)=(b:Int))=>h (by omega))) j
   rw [List.length_map,List.length_range] at this
   omega
  rcases way B q c o N.length with ⟨i,t,F⟩ | ⟨P,x,_,H,p,f,_⟩
  ·exact (yw.1 (D i t)) F
  have:=few N.length P p fun y v=>⟨(f y v).1,(f y v).2.1⟩
  omega
 omega
theorem eK {N:List (List Int)} (a:mw N) (b:∀ i:Nat,i<N.length→cycB N i=false) (k:Nat) (c:k≤N.length):(ay N k).length=k:=by
 induction k with
 | zero=>rfl
 | succ k ih =>
  have h:=ih (by omega)
  rw [ay,if_pos (nZ a b (by omega) h),List.length_append,h]
  rfl
theorem oy {N:List (List Int)} (b:mw N) (c:∀ i:Nat,i<N.length→cycB N i=false) {k:Nat} (g:k<N.length):∃ m:Nat,lY N (ay N k)=(m:Int)∧m<N.length∧rK N (ay N k) m=true∧(∀ j,j<m→rK N (ay N k) j=false)∧ay N (k+1)=ay N k ++ [(m:Int)]:=by
 have h:=nZ b c g (eK b c k (by omega))
 obtain ⟨m,a,d,e,f⟩:=lz h;exact ⟨m,a,d,e,f,by rw [ay,if_pos h,a]⟩
theorem uk {N:List (List Int)} (a:mw N) (b:∀ i:Nat,i<N.length→cycB N i=false) {k:Nat} (n:Nat) (f:k≤n) (d:n≤N.length):(ay N n).take k=ay N k:=by
 induction n with
 | zero =>
  have:k=0:=by omega
  subst this
  rfl
 | succ n ih =>
  by_cases e:k=n+1
  ·subst e
   exact List.take_of_length_le (by rw [eK a b _ d];exact zT)
  obtain ⟨m,_,_,_,_,c⟩:=oy a b (k:=n) (by omega)
  rw [c,List.take_append_of_le_length (by rw [eK a b n (by omega)];omega)]
  exact ih (by omega) (by omega)
theorem EH {N:List (List Int)} (a:mw N) (b:∀ i:Nat,i<N.length→cycB N i=false) {k:Nat} (h:k<N.length):∃ m:Nat,(ay N N.length).getD k 0=(m:Int)∧m<N.length∧(m:Int)∉(ay N N.length).take k∧(∀ x∈N.getD m [],x∈(ay N N.length).take k)∧(ay N N.length).take (k+1)=(ay N N.length).take k ++ [(m:Int)]:=by
 obtain ⟨m,_,g,e,_,f⟩:=oy a b h;have c:=uk a b (k:=k) N.length (by omega) (zT)
 have d:=uk a b (k:=k+1) N.length (by omega) (zT)
 refine ⟨m,?_,g,by rw [c];exact (fA e).1,by rw [c];exact (fA e).2,by rw [c,d,f]⟩
 have j:=eK a b N.length (zT);have:((ay N N.length).take (k+1)).getD k 0=(m:Int):=by
  rw [d,f,zZ,List.getElem?_append_right (by rw [eK a b k (by omega)];exact zT),eK a b k (by omega)]
  simp
 rw [zZ,List.getElem?_take_of_lt (by omega)] at this
 rw [zZ];exact this
theorem ju:∀ (L K:List Int),L.Pairwise (· < ·)→K.Pairwise (· < ·)→(∀ x,x∈L↔x∈K)→L=K
 | [],[],_,_,_=>rfl
 | [],y :: K,_,_,h=>by have:=(h y).2 (by simp);cases this
 | x :: L,[],_,_,h=>by have:=(h x).1 (by simp);cases this
 | x :: L,y :: K,hL,hK,h=>by
  have b:=List.pairwise_cons.1 hL;have a:=List.pairwise_cons.1 hK;have e:x=y:=by
   rcases List.mem_cons.1 ((h x).1 (by simp)) with e | e
   ·exact e
   rcases List.mem_cons.1 ((h y).2 (by simp)) with e2 | e2
   ·exact e2.symm
   have:=b.1 _ e2;have:=a.1 _ e
   omega
  subst e
  congr 1
  refine ju L K b.2 a.2 fun z=>⟨fun c=>?_,fun c=>?_⟩
  ·rcases List.mem_cons.1 ((h z).1 (List.mem_cons_of_mem _ c)) with e | e
   ·have:=b.1 z c;omega
   exact e
  rcases List.mem_cons.1 ((h z).2 (List.mem_cons_of_mem _ c)) with e | e
  ·have:=a.1 z c;omega
  exact e
theorem g9 (p:Nat→Bool) (k:Nat):(selTo p k).Pairwise (· < ·):=by
 induction k with
 | zero=>exact List.Pairwise.nil
 | succ k ih =>
  rw [selTo,List.pairwise_append];refine ⟨ih,?_,fun a d b c=>?_⟩
  ·split <;> simp
  obtain ⟨m,e,f,-⟩:=dE a d
  split at c
  ·rw [List.mem_singleton.1 c];omega
  cases c
theorem mM {p:Nat→Bool} {k m:Nat} (h:m<k) (a:p m=true):(m:Int)∈selTo p k:=by
 induction k with
 | zero=>omega
 | succ k ih =>
  rw [selTo,List.mem_append]
  by_cases e:m=k
  ·subst e;exact Or.inr (by rw [if_pos a];simp)
  exact Or.inl (ih (by omega))
theorem sf (p q:Nat→Bool) (f:Int→Bool) (k:Nat) (h:∀ j,j<k→(q j=true↔p j=true∧f (j:Int)=true)):(selTo p k).filter f=selTo q k:=by
 induction k with
 | zero=>rfl
 | succ k ih =>
  rw [selTo,selTo,List.filter_append,ih fun j d=>h j (by omega)]
  congr 1
  have c:=h k (by omega)
  by_cases a:p k=true
  ·by_cases b:f (k:Int)=true
   ·rw [if_pos a,if_pos (c.2 ⟨a,b⟩)];simp [b]
   rw [if_pos a,if_neg fun e=>b (c.1 e).2];simp [b]
  rw [if_neg a,if_neg fun e=>a (c.1 e).1];rfl
theorem oM {L:List Int} (h:L.Pairwise (· < ·)):L.Nodup:=h.imp fun h e=>by omega
end Go.Proofs.YthlhjjabkgpenaaGreatDoor
namespace Go.Proofs.YthlhjjabkgpenaaGreatDoor
open Go.ChangeShapes Go.WideShapes Go.ChangeAt Go.RowKit
set_option maxRecDepth 20000
def aY (w:World) (A:Option Addr) (c:Nat) (L:List Int):Prop:=L.length≤c∧c≤9223372036854775807∧(L=[]∨∃ b cs fr,A=some ⟨b,0,none⟩∧w.heap[b]?=some (.cells cs 3 fr)∧∀ j,j<L.length→w.cell? ⟨b,j,none⟩=some (.int .i64 (L.getD j 0)))
theorem aY.at {w:World} {A:Option Addr} {c:Nat} {L:List Int} (h:aY w A c L):bU w A c L:=by
 obtain ⟨d,-,a | ⟨b,cs,fr,a,e,f⟩⟩:=h
 ·exact ⟨d,Or.inl a⟩
 exact ⟨d,Or.inr ⟨b,a,(zY e).1,f⟩⟩
theorem aY.nil (w:World) (A:Option Addr) (c:Nat) (h:c≤9223372036854775807):aY w A c []:=⟨zU,h,Or.inl rfl⟩
theorem aY.keep {w w':World} {A:Option Addr} {c:Nat} {L:List Int} (h:aY w A c L) (l:∀ (b:Nat) (cs:Array Value) (fr:Nat×Nat),w.heap[b]?=some (Obj.cells cs 3 fr)→w'.heap[b]?=w.heap[b]?):aY w' A c L:=by
 obtain ⟨f,e,d | ⟨b,cs,fr,d,g,k⟩⟩:=h
 ·exact ⟨f,e,Or.inl d⟩
 have i:=l b cs fr g;exact ⟨f,e,Or.inr ⟨b,cs,fr,d,i.trans g,fun j m=>(World.cell?_of_block (a:=⟨b,j,none⟩) i).trans (k j m)⟩⟩
theorem aY.later {w w':World} {A:Option Addr} {c:Nat} {L:List Int} (h:aY w A c L) (a:Bl w w'):aY w' A c L :=
 h.keep fun b _ _ d=>a.block b (zY d).1
theorem cE {w:World} {base:Nat} {v:Value} {L:List Int} (h:w.ownsRow base 3 1 v L.length (aE L)):∃ A c,v=.slice A L.length c∧aY w A c L:=by
 rcases h.2 with ⟨rfl,e⟩ | ⟨g,cap,b,rfl,m,i,f,l,_,_⟩
 ·have:L=[]:=List.eq_nil_of_length_eq_zero e
  subst this;exact ⟨none,0,rfl,aY.nil _ _ _ (by omega)⟩
 refine ⟨_,cap,rfl,f,by unfold maxLen at l;omega,Or.inr ⟨g,b,_,rfl,i,fun j k=>?_⟩⟩
 have d:=h.cells (g:=g) rfl j (.int .i64 (L.getD j 0)) (by simp [aE,List.getD,zX k])
 have a:(⟨g,0,none⟩:Addr).add j=⟨g,j,none⟩:=by unfold Addr.add;split <;> simp_all
 rw [a] at d;exact d
theorem xp:(3:Nat)≠26:=by decide
theorem aY.row {w w':World} {base:Nat} {v:Value} {n:Nat} {zs:List Value} {A:Option Addr} {c:Nat} {L:List Int} (h:aY w A c L) (a:w.ownsRow base 26 1 v n zs) (i:w.grownBy w' v.ownBlock):aY w' A c L:=by
 refine h.keep fun b cs fr d=>i.block b (zY d).1 fun e=>?_
 rcases a.2 with ⟨rfl,-⟩ | ⟨g,cap,f,rfl,-,j,-⟩
 ·cases e
 simp only [Value.ownBlock,Option.some.injEq] at e;rw [e,j] at d;simp only [Option.some.injEq,Obj.cells.injEq] at d;exact xp d.2.1.symm
structure RL where
 p:List Int
 A:Option Addr
 c:Nat
def ew:RL:=⟨[],none,0⟩
def lR (xs:List RL):List (List Int):=xs.map RL.p
theorem nO (a:List RL):(lR a).length=a.length:=by simp [lR]
theorem qs (a b:List RL):lR (a ++ b)=lR a ++ lR b:=by simp [lR]
def cD (xs:List RL):List Value:=xs.map fun x=>.slice x.A x.p.length x.c
theorem gy (a b:List RL):cD (a ++ b)=cD a ++ cD b:=by simp [cD]
theorem iG {a:List RL} {k:Nat} (h:k<a.length):a.getD k ew∈a:=by
 rw [zZ,zX h];exact List.getElem_mem h
theorem qt (a:List RL) (k:Nat):(lR a).getD k []=(a.getD k ew).p:=by
 rw [zZ,zZ,lR,List.getElem?_map];cases a[k]? <;> rfl
theorem zD {a:List RL} {k:Nat} (h:k<a.length):(cD a)[k]?=some (.slice (a.getD k ew).A (a.getD k ew).p.length (a.getD k ew).c):=by
 simp [cD,List.getD,h]
def cT (w:World) (A:Option Addr) (cap:Nat) (xs:List RL):Prop:=xs.length≤cap∧(xs=[]∨∃ b,A=some ⟨b,0,none⟩∧b<w.heap.size∧∀ k,k<xs.length→w.cell? ⟨b,k,none⟩=some (.slice (xs.getD k ew).A (xs.getD k ew).p.length (xs.getD k ew).c))∧∀ x∈xs,aY w x.A x.c x.p
theorem cT.later {w w':World} {A:Option Addr} {cap:Nat} {d:List RL} (h:cT w A cap d) (c:Bl w w'):cT w' A cap d:=by
 obtain ⟨e,a,f⟩:=h;refine ⟨e,?_,fun x i=>(f x i).later c⟩
 rcases a with a | ⟨b,a,h4,h5⟩
 ·exact Or.inl a
 exact Or.inr ⟨b,a,zW h4 c.size,fun k g=>aL c h4 (h5 k g)⟩
theorem cT.nil (w:World) (A:Option Addr) (cap:Nat):cT w A cap []:=⟨zU,Or.inl rfl,fun x a=>by cases a⟩
theorem oP {w:World} {base:Nat} {v:Value} {a:List RL} (h:w.ownsRow base 26 1 v a.length (cD a)) (l:∀ x∈a,aY w x.A x.c x.p):∃ A c,v=.slice A a.length c∧cT w A c a:=by
 rcases h.2 with ⟨rfl,e⟩ | ⟨g,cap,d,rfl,m,i,f,_,_,_⟩
 ·have:a=[]:=List.eq_nil_of_length_eq_zero e
  subst this;exact ⟨none,0,rfl,cT.nil _ _ _⟩
 refine ⟨_,cap,rfl,f,Or.inr ⟨g,rfl,(zY i).1,fun k j=>?_⟩,l⟩
 have y:=h.cells (g:=g) rfl k _ (zD j);have b:(⟨g,0,none⟩:Addr).add k=⟨g,k,none⟩:=by unfold Addr.add;split <;> simp_all
 rw [b] at y;exact y
theorem Tryz.infoRow:(Tryz.prog.info? 26).map (fun i=>(i.zero,i.size,i.bytes))=some (some (.slice none 0 0),1,24):=by kernel_rfl
theorem vS (A:Option Addr) (c:Nat) (L:List Int) (w:World) (b:L.length≤12) (a:aY w A c L):Calls Tryz.prog 40 #[.slice A L.length c] w fun e w'=>(∃ v,e=.returned v∧w'.ownsRow w.heap.size 3 1 v L.length (aE L))∧Bl w w' :=
 qk A c L w (by omega) (iF a.at)
end Go.Proofs.YthlhjjabkgpenaaGreatDoor
namespace Go.Proofs.YthlhjjabkgpenaaGreatDoor
open Go.ChangeShapes Go.WideShapes Go.ChangeAt Go.RowKit
open Go.Sort (putRow Holds grow holds_putRow)
set_option maxRecDepth 20000
def dk (l:List Nd) (k:Nat):List (List UInt8):=((l.take k).filter fun x=>decide (x.op=2)).map fun x=>x.name.data.toList
def aQ (l:List Nd):List (List UInt8):=if av l=0 then Lib.compact ((dk l l.length).mergeSort fun x y=>decide (x≤y)) else []
theorem Gk {l:List Nd} {k:Nat} {x:Nd} (a:k<l.length) (b:l.getD k bH=x) (h:x.op=2):dk l (k+1)=dk l k ++ [x.name.data.toList]:=by
 unfold dk;rw [lI l a,b,List.filter_append,List.map_append]
 simp [h]
theorem Ei {l:List Nd} {k:Nat} {x:Nd} (a:k<l.length) (b:l.getD k bH=x) (h:x.op≠2):dk l (k+1)=dk l k:=by
 unfold dk;rw [lI l a,b,List.filter_append,List.map_append]
 simp [h]
theorem yS (l:List Nd) (k:Nat):(dk l k).length≤k:=by
 unfold dk;rw [List.length_map];exact zV (List.length_filter_le _ _) (by rw [List.length_take];omega)
def f9 (w:World) (A:Option Addr) (c:Nat) (L:List (List UInt8)):Prop:=L.length≤c∧c≤9223372036854775807∧(L=[]∨∃ b o,A=some ⟨b,o,none⟩∧b<w.heap.size∧∀ j,j<L.length→w.cell? ⟨b,o+j,none⟩=some (.string ⟨(L.getD j []).toArray⟩))
theorem f9.nil (w:World) (A:Option Addr) (c:Nat) (h:c≤9223372036854775807):f9 w A c []:=⟨zU,h,Or.inl rfl⟩
theorem f9.later {w w':World} {A:Option Addr} {c:Nat} {L:List (List UInt8)} (h:f9 w A c L) (g:Bl w w'):f9 w' A c L:=by
 obtain ⟨d,e,a | ⟨b,o,a,f,i⟩⟩:=h
 ·exact ⟨d,e,Or.inl a⟩
 exact ⟨d,e,Or.inr ⟨b,o,a,zW f g.size,fun j k=>aL g f (i j k)⟩⟩
theorem yZ {w:World} {g k:Nat} {d:Array (List UInt8)} (h:k≠g):(putRow encStr w g 0 d).heap[k]?=w.heap[k]?:=by
 unfold putRow Sort.mapBlock;simp only [Array.getElem?_modify];rw [if_neg (fun e=>h e.symm)]
theorem si {w0 w:World} {g n:Nat} {d:Array (List UInt8)} {os:Array Obj} (h:Bl w0 w) (b:w0.heap.size≤g):Bl w0 (grow (putRow encStr (Sort.ahead w n) g 0 d) os):=by
 refine ⟨h.os,h.tape,h.output,by have:=h.size;simp;omega,fun k a=>?_⟩
 have c:=h.size;rw [Sort.heap_grow_old _ _ (by simp;omega),yZ (by omega)]
 exact h.block k a
theorem rS {w0 w:World} {g n:Nat} {d:Array (List UInt8)} (h:Bl w0 w) (b:w0.heap.size≤g):Bl w0 (putRow encStr (Sort.ahead w n) g 0 d):=by
 refine ⟨h.os,h.tape,h.output,by have:=h.size;simp;omega,fun k a=>?_⟩
 rw [yZ (by omega)]
 exact h.block k a
theorem lQ (zs:List (List UInt8)):(Lib.compact zs).length≤zs.length:=by
 unfold Lib.compact Lib.compactUpTo;rw [List.length_map];exact zV (List.length_filter_le _ _) (by simp)
theorem us {w:World} {g n cap:Nat} {zs:List (List UInt8)} (d:Holds encStr w g 0 zs.toArray) (i:zs.length≤cap) (h:cap≤maxLen) (f:g<w.heap.size) :
  f9 (putRow encStr (Sort.ahead w n) g 0 (Lib.compact zs ++ List.replicate (zs.length-(Lib.compact zs).length) []).toArray) (some ⟨g,0,none⟩) cap (Lib.compact zs):=by
 have k:=lQ zs;refine ⟨by omega,by unfold maxLen at h;omega,Or.inr ⟨g,0,rfl,by simpa using f,fun j b=>?_⟩⟩
 have a:(Lib.compact zs ++ List.replicate (zs.length-(Lib.compact zs).length) []).toArray.size=zs.toArray.size:=by simp;omega
 have c:=(holds_putRow encStr (Sort.ahead w n) g 0 zs.toArray _ d a j (by rw [a];simp;omega)).1
 rw [c];have e:(Lib.compact zs ++ List.replicate (zs.length-(Lib.compact zs).length) ([]:List UInt8)).toArray[j]! = (Lib.compact zs).getD j []:=by
  rw [getElem!_pos _ j (by rw [a];simp;omega)]
  simp [List.getD,zX b,List.getElem_append_left b]
 rw [e]
end Go.Proofs.YthlhjjabkgpenaaGreatDoor
namespace Go.Proofs.YthlhjjabkgpenaaGreatDoor
open Go.ChangeShapes Go.WideShapes Go.ChangeAt Go.RowKit
set_option maxRecDepth 20000
theorem kM {w:World} {b b' e size n:Nat} {v:Value} {a:List Value} (h:w.ownsRow b e size v n a) (c:b'≤b):w.ownsRow b' e size v n a:=by
 refine ⟨h.1,?_⟩
 rcases h.2 with h0 | ⟨g,cap,cur,h1,h2,h3⟩
 ·exact Or.inl h0
 exact Or.inr ⟨g,cap,cur,h1,zV c h2,h3⟩
theorem wT (u q r:Nat) (H:dG u) (A:Option Addr) (n cap:Nat) (p:Nat→Bool) (w:World) (M:n≤12) (F:IS u q r w n p):Calls Tryz.prog 234 #[.slice A n cap,.func (.func u) #[] #[.pointer (some ⟨q,0,none⟩),.pointer (some ⟨r,0,none⟩)]] w fun e w'=>(∃ v,e=.returned v∧w'.ownsRow w.heap.size 3 1 v (selTo p n).length (aE (selTo p n)))∧Bl w w':=by
 obtain ⟨i0,x,B,C,D⟩:=info_parts Tryz.infoInt;have G:=aa F;have J:(n:Int)≤12:=by omega
 clear F;unfold dG at H
 go_enter Tryz.func234,Tryz.ntmps234
 go_wp2_with fail
 go_loopg [5,9] n (fun g s5 s9 wr => ∃ (k:Nat),k≤n∧g=n-k∧s9=.int .i64 k∧wr.ownsRow w.heap.size 3 1 s5 (selTo p k).length (aE (selTo p k))∧Bl w wr)
 case atStart=>exact ⟨0,zU,rfl,rfl,World.ownsRow_nil _ _ _ _,zS⟩
 case round =>
  obtain ⟨k,L,rfl,rfl,a,f⟩:=hrel;have t:=aa f;have o:=aa a
  by_cases z:k<n
  ·have I:(k:Int)<(n:Int):=by omega
   have h:=G.out k wr z f;clear f a;cases hb:p k
   ·rw [hb] at h
    have m:=aa hb;clear hb;go_wp2_with fail;refine h.mono ?_;rintro e w1 ⟨rfl,b⟩;go_wp2_with fail
    go_roundg (n-(k+1))
    case measure=>omega
    case rel=>exact ⟨k+1,by omega,rfl,by go_num,by rw [iH m.out];exact ar o.out b,ae t.out b⟩
   rw [hb] at h;have m:=aa hb;have E:=cS p k;clear hb;go_wp2_with fail;refine h.mono ?_;rintro e w1 ⟨rfl,b⟩;have a:=ar o.out b;have i:=ae t.out b;have K:=i.size;have j:=aa i;clear b i
   go_wp2_with (at_builtin;refine wpList_append_own _ rfl _ _ 26 rfl w.heap.size 3 i0 (.int .i64 0) 1 8 Tryz.underlying26 x B C D rfl (by decide) _ _ _ rfl (a.alloc _) ⟨w1.heap.size,0,none⟩ 1 1 [.int .i64 k] rfl rfl bu dY (by unfold maxLen;omega) (by omega) (by simp;omega) ?_)
   intro v' w2 d c _;have l:Hid (Bl w w2):=bA j.out a c;have s:Hid (w2.ownsRow w.heap.size 3 1 v' (selTo p (k+1)).length (aE (selTo p (k+1)))):=by
    show World.ownsRow ..
    rw [lH m.out,mapI_snoc,List.length_append];exact d
   clear d c a;go_wp2_with fail
   go_roundg (n-(k+1))
   case measure=>omega
   case rel=>exact ⟨k+1,by omega,rfl,by go_num,s.out,l.out⟩
  have y:k=n:=by omega
  subst y;clear f a;go_wp2_with fail;go_ret;exact ⟨⟨_,rfl,o.out⟩,t.out⟩
theorem By (d:Dm) (A:Option Addr) (cap:Nat) (k:Nat) (w:World) (x:(au d).2=0) (I:k<d.n) (u:dP w A cap d.n d.mem):Calls Tryz.prog 196 #[cA d A cap,.int .i64 k] w fun e w'=>(∃ v,e=.returned (.tuple #[v,.nilIface])∧w'.ownsRow w.heap.size 3 1 v (bj d.mem d.n k).length (aE (bj d.mem d.n k)))∧Bl w w':=by
 have f:=wO w d A cap k 37 3;have c:=pd d A cap _ 1 [(k:Int)] (ur w d A cap k 37 3) (u.later f) (by simp) (Bv ..)
 have q:=aa f;have D:=aa u;unfold cA at c ⊢;simp only [List.length_singleton] at c;clear u f;have C:treeErr d [(k:Int)]=0:=by rw [gt x,if_neg (by omega)]
 ·rw [C,errV_zero] at c
  obtain ⟨-,-,m,-⟩:=aG x;clear C x
  go_enter Tryz.func196,Tryz.ntmps196
  go_wp2_with fail;refine c.mono ?_;rintro e w1 ⟨rfl,a⟩;have t:Bl w w1:=ae q.out a;have G:w.heap.size+1<w1.heap.size:=by have:=a.size;rw [lB] at this;omega
  have E:w1.cell? ⟨w.heap.size,2,none⟩=some (.slice A d.n cap):=aL a (by show w.heap.size<_;rw [lB];omega) (EK ..)
  have z:w1.cell? ⟨w.heap.size+1,0,none⟩=some (.int .i64 k):=aL a (by show w.heap.size+1<_;rw [lB];omega) (EL ..)
  obtain ⟨B,H | ⟨b,o,rfl,h⟩⟩:=D.out.later t
  ·omega
  have p:=wT 235 w.heap.size (w.heap.size+1) Bx (some ⟨b,o,none⟩) d.n cap (gW d.mem k) w1 m (fun j w' F g=>wR b o d.n cap j w.heap.size (w.heap.size+1) d.mem k w' F m (h.later g) (aL g (by show w.heap.size<_;omega) E) (aL g G z))
  have y:=aa t;clear a c h z t;go_wp2_with fail;refine p.mono ?_;rintro e w2 ⟨⟨v2,rfl,i⟩,l⟩;have s:=aa i;have r:=aa (ae y.out l);clear i l p;go_wp2_with fail
  go_ret2
  exact ⟨⟨v2,rfl,kM s.out y.out.size⟩,r.out⟩
end Go.Proofs.YthlhjjabkgpenaaGreatDoor
namespace Go.Proofs.YthlhjjabkgpenaaGreatDoor
open Go.ChangeShapes Go.WideShapes Go.ChangeAt Go.RowKit
def iK (f:Nat) (args:Array Value) (r:Int×Int):Prop := ∀ (w:World),Calls Tryz.prog f args w fun e w'=>e=.returned (.agg #[.int .i64 r.1,.int .i64 r.2])∧Bl w w'
theorem fR {k:Int} (h : ¬ k=2):(k == 2)=false:=by simpa using h
theorem ks {k:Int} (h : ¬ k=0):(k == 0)=false:=by simpa using h
theorem xr (ka na kb nb sg r:Int) (w:World) (j:(ka == 2)=false) (k:(kb == 2)=false) (b:((ka == 0) && (kb == 0))=false) (f:wrap64 (na+wrap64 (sg*nb))=r) :
  Rt 60 #[.agg #[.int .i64 ka,.int .i64 na],.agg #[.int .i64 kb,.int .i64 nb],.int .i64 sg] w (.agg #[.int .i64 (eO r).1,.int .i64 (eO r).2]):=by
 subst f;have c:=jv (wrap64 (na+wrap64 (sg*nb)));cases q4:(ka == 0)
 all_goals
  rw [q4] at b
  try simp only [Bool.true_and,Bool.false_and] at b
  go_enter Tryz.func60,Tryz.ntmps60
  go_wp2_with fail;refine (c _).mono ?_;rintro e w1 ⟨rfl,a⟩;have h:Bl w w1:=Below.trans (by go_grown) (a.mono (by simp;omega))
  obtain ⟨d,i⟩:=cB a;have g:=di a
  simp at g
  go_wp2_with fail;refine bodyPost_ret (v:=.agg #[.int .i64 (eO (wrap64 (na+wrap64 (sg*nb)))).1,.int .i64 (eO (wrap64 (na+wrap64 (sg*nb)))).2]) (by simp [results,Tryz.results60,go_sem,d]) rfl ⟨rfl,?_⟩
  go_grown
theorem uL (ka na kb nb sg:Int) (w:World) (h:ka=2∨kb=2):Rt 60 #[.agg #[.int .i64 ka,.int .i64 na],.agg #[.int .i64 kb,.int .i64 nb],.int .i64 sg] w (.agg #[.int .i64 2,.int .i64 0]):=by
 by_cases a:ka=2
 ·subst a
  clear h
  go_enter Tryz.func60,Tryz.ntmps60
  go_wp2;go_returns;exact ⟨rfl,by go_grown⟩
 have c:=fR a;have b:kb=2:=by omega
 subst b;clear h a
 go_enter Tryz.func60,Tryz.ntmps60
 go_wp2;go_returns;exact ⟨rfl,by go_grown⟩
theorem uK (na nb sg:Int) (w:World):Rt 60 #[.agg #[.int .i64 0,.int .i64 na],.agg #[.int .i64 0,.int .i64 nb],.int .i64 sg] w (.agg #[.int .i64 0,.int .i64 0]):=by
 go_enter Tryz.func60,Tryz.ntmps60
 go_wp2;go_returns;exact ⟨rfl,by go_grown⟩
theorem jx (ka na kb nb sg r:Int) (c:wrap64 (na+wrap64 (sg*nb))=r):iK 60 #[.agg #[.int .i64 ka,.int .i64 na],.agg #[.int .i64 kb,.int .i64 nb],.int .i64 sg] (fX (!(ka != 0 || kb != 0)) ka kb (eO r)):=by
 intro w;unfold fX
 by_cases a:ka=2∨kb=2
 ·rw [if_pos a]
  exact uL ka na kb nb sg w a
 rw [if_neg a]
 by_cases b:ka=0∧kb=0
 ·obtain ⟨rfl,rfl⟩:=b
  exact uK na nb sg w
 rw [if_neg (by simp;omega)]
 exact xr ka na kb nb sg r w (fR (by omega)) (fR (by omega)) (by simp;omega) c
theorem xt (ka na kb nb:Int) (a:good ka na=true) (b:good kb nb=true):iK 60 #[.agg #[.int .i64 ka,.int .i64 na],.agg #[.int .i64 kb,.int .i64 nb],.int .i64 1] (mi ka na kb nb):=by
 obtain ⟨a1,a2⟩:=bO a;obtain ⟨b1,b2⟩:=bO b;exact jx ka na kb nb 1 (na+nb) (by unfold wrap64;omega)
theorem uM (ka na kb nb:Int) (a:good ka na=true) (b:good kb nb=true):iK 60 #[.agg #[.int .i64 ka,.int .i64 na],.agg #[.int .i64 kb,.int .i64 nb],.int .i64 (-1)] (iW ka na kb nb):=by
 obtain ⟨a1,a2⟩:=bO a;obtain ⟨b1,b2⟩:=bO b;exact jx ka na kb nb (-1) (na-nb) (by unfold wrap64;omega)
theorem rZ (ka na kb nb:Int) (w:World) (h:ka=2∨kb=2):Rt 88 #[.agg #[.int .i64 ka,.int .i64 na],.agg #[.int .i64 kb,.int .i64 nb]] w (.agg #[.int .i64 2,.int .i64 0]):=by
 by_cases a:ka=2
 ·subst a
  clear h
  go_enter Tryz.func88,Tryz.ntmps88
  go_wp2;go_returns;exact ⟨rfl,by go_grown⟩
 have c:=fR a;have b:kb=2:=by omega
 subst b;clear h a
 go_enter Tryz.func88,Tryz.ntmps88
 go_wp2;go_returns;exact ⟨rfl,by go_grown⟩
theorem uG (ka na kb nb:Int) (w:World) (h:ka=2∨kb=2):Rt 89 #[.agg #[.int .i64 ka,.int .i64 na],.agg #[.int .i64 kb,.int .i64 nb]] w (.agg #[.int .i64 2,.int .i64 0]):=by
 by_cases a:ka=2
 ·subst a
  clear h
  go_enter Tryz.func89,Tryz.ntmps89
  go_wp2;go_returns;exact ⟨rfl,by go_grown⟩
 have c:=fR a;have b:kb=2:=by omega
 subst b;clear h a
 go_enter Tryz.func89,Tryz.ntmps89
 go_wp2;go_returns;exact ⟨rfl,by go_grown⟩
theorem rY (ka na kb nb:Int) (w:World) (c:(ka == 2)=false) (d:(kb == 2)=false) (h:ka=0∨kb=0):Rt 88 #[.agg #[.int .i64 ka,.int .i64 na],.agg #[.int .i64 kb,.int .i64 nb]] w (.agg #[.int .i64 0,.int .i64 0]):=by
 by_cases a:ka=0
 ·subst a
  clear h c
  go_enter Tryz.func88,Tryz.ntmps88
  go_wp2;go_returns;exact ⟨rfl,by go_grown⟩
 have e:=ks a;have b:kb=0:=by omega
 subst b;clear h a d
 go_enter Tryz.func88,Tryz.ntmps88
 go_wp2;go_returns;exact ⟨rfl,by go_grown⟩
theorem uF (ka na kb nb:Int) (w:World) (c:(ka == 2)=false) (d:(kb == 2)=false) (h:ka=0∨kb=0):Rt 89 #[.agg #[.int .i64 ka,.int .i64 na],.agg #[.int .i64 kb,.int .i64 nb]] w (.agg #[.int .i64 0,.int .i64 0]):=by
 by_cases a:ka=0
 ·subst a
  clear h c
  go_enter Tryz.func89,Tryz.ntmps89
  go_wp2;go_returns;exact ⟨rfl,by go_grown⟩
 have e:=ks a;have b:kb=0:=by omega
 subst b;clear h a d
 go_enter Tryz.func89,Tryz.ntmps89
 go_wp2;go_returns;exact ⟨rfl,by go_grown⟩
theorem uO (ka na kb nb:Int) (w:World) (t:(ka == 2)=false) (u:(kb == 2)=false) (x:(ka == 0)=false) (y:(kb == 0)=false) (a1 : -1000000000000≤na) (a2:na≤1000000000000) (b1 : -1000000000000≤nb) (b2:nb≤1000000000000) :
  Rt 88 #[.agg #[.int .i64 ka,.int .i64 na],.agg #[.int .i64 kb,.int .i64 nb]] w (.agg #[.int .i64 (eO (na*nb)).1,.int .i64 (eO (na*nb)).2]):=by
 obtain ⟨ax0,ax1⟩:=m6 a1 a2;obtain ⟨ay0,ay1⟩:=m6 b1 b2;have a:=jz na;have c:=jz nb
 by_cases i:na=0
 ·subst i
  have g:ab 0=0:=rfl;rw [g] at a;have j:=jv (0*nb);rw [Int.zero_mul] at j ⊢;clear g ax0 ax1
  go_enter Tryz.func88,Tryz.ntmps88
  go_wp2_with fail;refine (a _ a1 a2).mono ?_;rintro e w1 ⟨rfl,rfl⟩;go_wp2_with fail;refine (c _ b1 b2).mono ?_;rintro e w1 ⟨rfl,rfl⟩;go_wp2_with fail;refine (j _).mono ?_;rintro e w1 ⟨rfl,b⟩;have o:Bl w w1:=Below.trans (by go_grown) (b.mono (by simp;omega))
  obtain ⟨k,p⟩:=cB b;have l:=di b
  simp at l
  go_wp2_with fail;refine bodyPost_ret (v:=.agg #[.int .i64 (eO 0).1,.int .i64 (eO 0).2]) (by simp [results,Tryz.results88,go_sem,k]) rfl ⟨rfl,?_⟩
  go_grown
 have s:=u9 i
 by_cases n:1000000000000 / ab na<ab nb
 ·have f:eO (na*nb)=(2,0):=by
   refine jn (CP (m:=1000000000000) ?_);rw [rh,Int.mul_comm];exact (Int.ediv_lt_iff_lt_mul (by omega)).mp n
  rw [f]
  go_enter Tryz.func88,Tryz.ntmps88
  go_wp2_with fail;refine (a _ a1 a2).mono ?_;rintro e w1 ⟨rfl,rfl⟩;go_wp2_with fail;refine (c _ b1 b2).mono ?_;rintro e w1 ⟨rfl,rfl⟩;go_wp2;go_returns;exact ⟨rfl,by go_grown⟩
 have d:ab (na*nb)≤1000000000000:=by
  rw [rh,Int.mul_comm];exact Int.not_lt.mp (fun h=>n ((Int.ediv_lt_iff_lt_mul (by omega)).mpr h))
 obtain ⟨q,r⟩:=CO d;have j:=jv (na*nb);clear d
 go_enter Tryz.func88,Tryz.ntmps88
 go_wp2_with fail;refine (a _ a1 a2).mono ?_;rintro e w1 ⟨rfl,rfl⟩;go_wp2_with fail;refine (c _ b1 b2).mono ?_;rintro e w1 ⟨rfl,rfl⟩;go_wp2_with fail;refine (j _).mono ?_;rintro e w1 ⟨rfl,b⟩;have o:Bl w w1:=Below.trans (by go_grown) (b.mono (by simp;omega))
 obtain ⟨k,p⟩:=cB b;have l:=di b
 simp at l
 go_wp2_with fail;refine bodyPost_ret (v:=.agg #[.int .i64 (eO (na*nb)).1,.int .i64 (eO (na*nb)).2]) (by simp [results,Tryz.results88,go_sem,k]) rfl ⟨rfl,?_⟩
 go_grown
theorem xu (ka na kb nb:Int) (c:good ka na=true) (d:good kb nb=true):iK 88 #[.agg #[.int .i64 ka,.int .i64 na],.agg #[.int .i64 kb,.int .i64 nb]] (pg ka na kb nb):=by
 obtain ⟨a1,a2⟩:=bO c;obtain ⟨b1,b2⟩:=bO d;intro w;unfold pg fX
 by_cases a:ka=2∨kb=2
 ·rw [if_pos a]
  exact rZ ka na kb nb w a
 rw [if_neg a]
 by_cases b:ka=0∨kb=0
 ·rw [if_pos (by simp;omega)]
  exact rY ka na kb nb w (fR (by omega)) (fR (by omega)) b
 rw [if_neg (by simp;omega)]
 exact uO ka na kb nb w (fR (by omega)) (fR (by omega)) (ks (by omega)) (ks (by omega)) a1 a2 b1 b2
end Go.Proofs.YthlhjjabkgpenaaGreatDoor
namespace Go.Proofs.YthlhjjabkgpenaaGreatDoor
open Go Go.ChangeShapes Go.WideShapes Go.ChangeAt Go.RowKit
set_option maxRecDepth 20000
theorem xq (d:Dm) (b o cap:Nat) (i:Int) (w:World) (Y:d.n≤12) (K:b8 w b o d.n d.mem):Calls Tryz.prog 59 #[.agg #[.string d.name,.int .i64 d.solve,.slice (some ⟨b,o,none⟩) d.n cap],.int .i64 i] w fun e w'=>(∃ A c,e=.returned (.slice A (bj d.mem d.n i).length c)∧bU w' A c (bj d.mem d.n i)∧∀ b o,A=some ⟨b,o,none⟩→w.heap.size≤b)∧Bl w w':=by
 obtain ⟨i0,y,F,G,H⟩:=info_parts Tryz.infoInt;have L:=aZ w d (some ⟨b,o,none⟩) cap 37;have m:=aM w d (some ⟨b,o,none⟩) cap 37;have v:=(dD w d (some ⟨b,o,none⟩) cap 37).2.2;obtain ⟨W,x⟩:∃ W,W=aI w d (some ⟨b,o,none⟩) cap 37:=⟨_,rfl⟩;rw [←x] at L m v;have R:=aa x;have r:=aa m;have P:=aa (K.later m);have O:=aa v;have E:w.heap.size<W.heap.size:=by omega
 have V:(d.n:Int)≤12:=by omega
 obtain ⟨p,C⟩:∃ p:Nat→Bool,p=gW d.mem i:=⟨_,rfl⟩;have Q:=aa C;unfold bj;rw [←C];clear K x m v L C
 go_enter Tryz.func59,Tryz.ntmps59
 go_wp2_with fail
 go_loopg [5,6] d.n (fun g s5 s6 wr => ∃ (k:Nat),k≤d.n∧g=d.n-k∧s6=.int .i64 k∧wr.ownsRow W.heap.size 3 1 s5 (selTo p k).length (aE (selTo p k))∧Bl W wr)
 case atStart=>exact ⟨0,zU,rfl,rfl,World.ownsRow_nil _ _ _ _,by rw [R.out];exact zS⟩
 case round =>
  obtain ⟨k,X,rfl,rfl,a,f⟩:=hrel;have q:=aa f;have I:=aa a;have c2:wr.cell? ⟨w.heap.size,2,none⟩=some (.slice (some ⟨b,o,none⟩) d.n cap):=aL f E O.out;have N:=f.size
  by_cases B:k<d.n
  ·have U:(k:Int)<(d.n:Int):=by omega
   obtain ⟨-,J,-,-⟩:=(P.out.later f).2 k B;have M:=cS p k;have h:p k=((d.mem k).parent == i):=by rw [Q.out];rfl
   clear f;cases hb:p k
   ·have t:=aa hb
    rw [hb] at h;have D:((d.mem k).parent == i)=false:=h.symm;clear hb h a;go_wp2_with fail
    go_roundg (d.n-(k+1))
    case measure=>omega
    case rel=>exact ⟨k+1,by omega,rfl,by go_num,by rw [iH t.out];exact I.out,q.out⟩
   have t:=aa hb;rw [hb] at h;have D:((d.mem k).parent == i)=true:=h.symm;clear hb h
   go_wp2_with (at_builtin;refine wpList_append_own _ rfl _ _ 26 rfl W.heap.size 3 i0 (.int .i64 0) 1 8 Tryz.underlying26 y F G H rfl (by decide) _ _ _ rfl (a.alloc _) ⟨wr.heap.size,0,none⟩ 1 1 [.int .i64 k] rfl rfl bu dY (by unfold maxLen;omega) (by omega) (by simp;omega) ?_)
   intro v' w2 l j _;have s:Hid (Bl W w2):=bA q.out a j;have u:Hid (w2.ownsRow W.heap.size 3 1 v' (selTo p (k+1)).length (aE (selTo p (k+1)))):=by
    show World.ownsRow ..
    rw [lH t.out,mapI_snoc,List.length_append];exact l
   clear l j a c2;go_wp2_with fail
   go_roundg (d.n-(k+1))
   case measure=>omega
   case rel=>exact ⟨k+1,by omega,rfl,by go_num,u.out,s.out⟩
  have z:k=d.n:=by omega
  subst z;clear f a;go_wp2_with fail;go_ret;obtain ⟨A,c,J,S,T⟩:=DJ I.out;exact ⟨⟨A,c,by rw [←J];rfl,S,fun b o e=>zV r.out.size (T b o e)⟩,ae r.out q.out⟩
theorem EP {ka na kb nb:Int} (a:good ka na=true) (b:good kb nb=true):∀ w,Rt 60 #[.agg #[.int .i64 ka,.int .i64 na],.agg #[.int .i64 kb,.int .i64 nb],.int .i64 1] w (.agg #[.int .i64 (mi ka na kb nb).1,.int .i64 (mi ka na kb nb).2]):=by
 obtain ⟨c,d⟩:=bO a;obtain ⟨e,f⟩:=bO b;have h:=jx ka na kb nb 1 (na+nb) (by unfold wrap64;omega)
 unfold iK at h;exact h
theorem BB {ka na kb nb:Int} (a:good ka na=true) (b:good kb nb=true):∀ w,Rt 60 #[.agg #[.int .i64 ka,.int .i64 na],.agg #[.int .i64 kb,.int .i64 nb],.int .i64 (-1)] w (.agg #[.int .i64 (iW ka na kb nb).1,.int .i64 (iW ka na kb nb).2]):=by
 obtain ⟨c,d⟩:=bO a;obtain ⟨e,f⟩:=bO b;have h:=jx ka na kb nb (-1) (na-nb) (by unfold wrap64;omega)
 unfold iK at h;exact h
end Go.Proofs.YthlhjjabkgpenaaGreatDoor
namespace Go.Proofs.YthlhjjabkgpenaaGreatDoor
open Go Go.ChangeShapes Go.WideShapes Go.ChangeAt Go.RowKit
set_option maxRecDepth 1000000
set_option maxHeartbeats 64000000
theorem KQ (T:Array Value) (s:Nat→Value) (E:Int) (w:World) (i:aP T s) (b:s 13=.int .i64 E) (c:s 22=errV E) (a:Rt 10 #[errV E,.int .i64 E] w (.bool true)) (J:Act→World→Prop) (Q:Exit→Act→World→Prop)
  (j:∀ T' w',aP T' (cJ s 23 (.bool true))→Bl w w'→J ⟨T',[]⟩ w'):Code.wp Tryz.prog (lp 8) (Exit.then J Q) ⟨T,[]⟩ w:=by
 obtain ⟨x,rfl⟩:=am i;unfold a7;rw [b,c];have k:=aa j;have f:=aa b;have g:=aa c;clear j i b c
 conv=>arg 2;whnf
 go_wp2_with fail;refine a.mono ?_;rintro e w1 ⟨rfl,d⟩;have h:=aa d;clear a d;go_wp2_with fail;refine k.out _ _ ⟨rfl,?_⟩ h.out;rw [←f.out,←g.out]
 rfl
theorem J8 (T:Array Value) (s:Nat→Value) (E:Int) (w:World) (i:aP T s) (b:s 22=errV E) (c:s 25=.int .i64 E) (a:Rt 10 #[errV E,.int .i64 E] w (.bool true)) (J:Act→World→Prop) (Q:Exit→Act→World→Prop)
  (j:∀ T' w',aP T' (cJ s 32 (.bool true))→Bl w w'→J ⟨T',[]⟩ w'):Code.wp Tryz.prog (lp 15) (Exit.then J Q) ⟨T,[]⟩ w:=by
 obtain ⟨x,rfl⟩:=am i;unfold a7;rw [b,c];have k:=aa j;have f:=aa b;have g:=aa c;clear j i b c
 conv=>arg 2;whnf
 go_wp2_with fail;refine a.mono ?_;rintro e w1 ⟨rfl,d⟩;have h:=aa d;clear a d;go_wp2_with fail;refine k.out _ _ ⟨rfl,?_⟩ h.out;rw [←f.out,←g.out]
 rfl
theorem Kd (T:Array Value) (s:Nat→Value) (E:Int) (w:World) (i:aP T s) (b:s 13=.int .i64 E) (c:s 22=errV E) (a:Rt 10 #[errV E,.int .i64 E] w (.bool true)) (J:Act→World→Prop) (Q:Exit→Act→World→Prop)
  (j:∀ T' w',aP T' (cJ s 43 (.bool true))→Bl w w'→J ⟨T',[]⟩ w'):Code.wp Tryz.prog (lp 25) (Exit.then J Q) ⟨T,[]⟩ w:=by
 obtain ⟨x,rfl⟩:=am i;unfold a7;rw [b,c];have k:=aa j;have f:=aa b;have g:=aa c;clear j i b c
 conv=>arg 2;whnf
 go_wp2_with fail;refine a.mono ?_;rintro e w1 ⟨rfl,d⟩;have h:=aa d;clear a d;go_wp2_with fail;refine k.out _ _ ⟨rfl,?_⟩ h.out;rw [←f.out,←g.out]
 rfl
theorem KR (T:Array Value) (s:Nat→Value) (g h:Nat) (g0 g1 g2 m n o:Value) (w:World) (p:aP T s) (b:s 14=.pointer (some ⟨h,0,none⟩)) (c:s 21=.pointer (some ⟨g,0,none⟩)) (k:w.cell? ⟨g,0,none⟩=some g0∧w.cell? ⟨g,1,none⟩=some g1∧w.cell? ⟨g,2,none⟩=some g2) (l:w.cell? ⟨h,0,none⟩=some m∧w.cell? ⟨h,1,none⟩=some n∧w.cell? ⟨h,2,none⟩=some o) (a:Rt 11 #[.agg #[g0,g1,g2],.agg #[m,n,o]] w (.bool true)) (J:Act→World→Prop) (Q:Exit→Act→World→Prop)
  (q:∀ T' w',aP T' (cJ s 24 (.bool true))→Bl w w'→J ⟨T',[]⟩ w'):Code.wp Tryz.prog (lp 9) (Exit.then J Q) ⟨T,[]⟩ w:=by
 obtain ⟨x,rfl⟩:=am p;unfold a7;rw [b,c];have r:=aa q;have f:=aa b;have i:=aa c;clear q p b c
 conv=>arg 2;whnf
 obtain ⟨a0,a1,a2⟩:=k;obtain ⟨c0,c1,c2⟩:=l;go_wp2_with fail;refine a.mono ?_;rintro e w1 ⟨rfl,d⟩;have j:=aa d;clear a d;go_wp2_with fail;refine r.out _ _ ⟨rfl,?_⟩ j.out;rw [←f.out,←i.out]
 rfl
theorem J9 (T:Array Value) (s:Nat→Value) (g h:Nat) (g0 g1 g2 m n o:Value) (w:World) (p:aP T s) (b:s 27=.pointer (some ⟨h,0,none⟩)) (c:s 31=.pointer (some ⟨g,0,none⟩)) (k:w.cell? ⟨g,0,none⟩=some g0∧w.cell? ⟨g,1,none⟩=some g1∧w.cell? ⟨g,2,none⟩=some g2) (l:w.cell? ⟨h,0,none⟩=some m∧w.cell? ⟨h,1,none⟩=some n∧w.cell? ⟨h,2,none⟩=some o) (a:Rt 11 #[.agg #[g0,g1,g2],.agg #[m,n,o]] w (.bool true)) (J:Act→World→Prop) (Q:Exit→Act→World→Prop)
  (q:∀ T' w',aP T' (cJ s 33 (.bool true))→Bl w w'→J ⟨T',[]⟩ w'):Code.wp Tryz.prog (lp 16) (Exit.then J Q) ⟨T,[]⟩ w:=by
 obtain ⟨x,rfl⟩:=am p;unfold a7;rw [b,c];have r:=aa q;have f:=aa b;have i:=aa c;clear q p b c
 conv=>arg 2;whnf
 obtain ⟨a0,a1,a2⟩:=k;obtain ⟨c0,c1,c2⟩:=l;go_wp2_with fail;refine a.mono ?_;rintro e w1 ⟨rfl,d⟩;have j:=aa d;clear a d;go_wp2_with fail;refine r.out _ _ ⟨rfl,?_⟩ j.out;rw [←f.out,←i.out]
 rfl
theorem J6 (T:Array Value) (s:Nat→Value) (g:Nat) (g0 g1 g2:Value) (E:Int) (w:World) (i:aP T s) (b:s 11=.pointer (some ⟨g,0,none⟩)) (h:w.cell? ⟨g,0,none⟩=some g0∧w.cell? ⟨g,1,none⟩=some g1∧w.cell? ⟨g,2,none⟩=some g2) (a:Rt 12 #[.agg #[g0,g1,g2]] w (.int .i64 E)) (J:Act→World→Prop) (Q:Exit→Act→World→Prop)
  (j:∀ T' w',aP T' (cJ s 25 (.int .i64 E))→Bl w w'→J ⟨T',[]⟩ w'):Code.wp Tryz.prog (lp 10) (Exit.then J Q) ⟨T,[]⟩ w:=by
 obtain ⟨x,rfl⟩:=am i;unfold a7;rw [b];have k:=aa j;have d:=aa b;clear j i b
 conv=>arg 2;whnf
 obtain ⟨a0,a1,a2⟩:=h;go_wp2_with fail;refine a.mono ?_;rintro e w1 ⟨rfl,c⟩;have f:=aa c;clear a c;go_wp2_with fail;refine k.out _ _ ⟨rfl,?_⟩ f.out;rw [←d.out]
 rfl
theorem J7 (T:Array Value) (s:Nat→Value) (g:Nat) (g0 g1 g2:Value) (E:Int) (w:World) (m:aP T s) (b:s 11=.pointer (some ⟨g,0,none⟩)) (c:s 25=.int .i64 E) (l:w.cell? ⟨g,0,none⟩=some g0∧w.cell? ⟨g,1,none⟩=some g1∧w.cell? ⟨g,2,none⟩=some g2) (a:Rt 13 #[.agg #[g0,g1,g2]] w (errV E)) (o:∀ w',Bl w w'→Rt 10 #[errV E,.int .i64 E] w' (.bool true)) (J:Act→World→Prop) (Q:Exit→Act→World→Prop)
  (n:∀ T' w',aP T' (cJ s 26 (.bool true))→Bl w w'→J ⟨T',[]⟩ w'):Code.wp Tryz.prog (lp 11) (Exit.then J Q) ⟨T,[]⟩ w:=by
 obtain ⟨x,rfl⟩:=am m;unfold a7;rw [b,c];have q:=aa n;have h:=aa b;have i:=aa c;clear n m b c
 conv=>arg 2;whnf
 obtain ⟨a0,a1,a2⟩:=l;have r:=aa o;clear o;go_wp2_with fail;refine a.mono ?_;rintro e w1 ⟨rfl,d⟩;have p:=r.out w1 d;have j:=aa d;clear a d;go_wp2_with fail;refine p.mono ?_;rintro e w2 ⟨rfl,f⟩;have k:=aa (ae j.out f);clear p f;go_wp2_with fail;refine q.out _ _ ⟨rfl,?_⟩ k.out;rw [←h.out,←i.out]
 rfl
theorem Ka (T:Array Value) (s:Nat→Value) (b:Nat) (so:Value) (E:Int) (w:World) (g:aP T s) (f:s 6=.pointer (some ⟨b,0,none⟩)) (k:w.cell? ⟨b,0,none⟩=some so) (a:Rt 15 #[.agg #[so]] w (.int .i64 E)) (J:Act→World→Prop) (Q:Exit→Act→World→Prop)
  (h:∀ T' w',aP T' (cJ s 13 (.int .i64 E))→Bl w w'→J ⟨T',[]⟩ w'):Code.wp Tryz.prog (lp 17) (Exit.then J Q) ⟨T,[]⟩ w:=by
 obtain ⟨x,rfl⟩:=am g;unfold a7;rw [f];have j:=aa h;have i:=aa f;clear h g f
 conv=>arg 2;whnf
 go_wp2_with fail;refine a.mono ?_;rintro e w1 ⟨rfl,c⟩;have d:=aa c;clear a c;go_wp2_with fail;refine j.out _ _ ⟨rfl,?_⟩ d.out;rw [←i.out]
 rfl
theorem Kb (T:Array Value) (s:Nat→Value) (E F E2:Int) (w:World) (i:aP T s) (a:s 13=.int .i64 E) (b:s 25=.int .i64 F) (f:(if E=0 then F else E)=E2) (J:Act→World→Prop) (Q:Exit→Act→World→Prop)
  (j:∀ T',aP T' (cJ s 13 (.int .i64 E2))→J ⟨T',[]⟩ w):Code.wp Tryz.prog (lp 18) (Exit.then J Q) ⟨T,[]⟩ w:=by
 obtain ⟨x,rfl⟩:=am i;unfold a7;rw [a,b];have e:=aa j;have k:=aa a;have d:=aa b;clear j i a b
 conv=>arg 2;whnf
 by_cases c:E=0
 ·have h:(E == 0)=true:=by simp [c]
  have g:Hid (F=E2):=by show _=_;rw [←f,if_pos c]
  clear f c;go_wp2_with fail;rw [←g.out] at e;refine e.out _ ⟨rfl,?_⟩;rw [←d.out]
  rfl
 have h:(E == 0)=false:=by simpa using c
 have g:Hid (E=E2):=by show _=_;rw [←f,if_neg c]
 clear f c;go_wp2_with fail;rw [←g.out] at e;refine e.out _ ⟨rfl,?_⟩;rw [←d.out]
 rfl
theorem Kc (T:Array Value) (s:Nat→Value) (b:Nat) (A:Option Addr) (pl B:Nat) (row d E1 E2:Int) (w:World) (p:aP T s) (l:s 3=.int .i64 row) (m:s 4=.int .i64 d) (n:s 6=.pointer (some ⟨b,0,none⟩)) (e:s 13=.int .i64 E1) (C:w.cell? ⟨b,0,none⟩=some (.slice A pl B)) (r:(if E1=0∧(aH pl row=true∨aH pl d=true) then 1 else E1)=E2) (J:Act→World→Prop) (Q:Exit→Act→World→Prop)
  (q:∀ T',aP T' (cJ s 13 (.int .i64 E2))→J ⟨T',[]⟩ w):Code.wp Tryz.prog (lp 19) (Exit.then J Q) ⟨T,[]⟩ w:=by
 obtain ⟨x,rfl⟩:=am p;unfold a7;rw [l,m,n,e];have a:=aa q;have f:=aa l;have g:=aa m;have h:=aa n;have z:=aa e;clear q p l m n e
 conv=>arg 2;whnf
 have i:=aa r;clear r
 by_cases j:E1=0
 ·have o:(E1 == 0)=true:=by simp [j]
  have k:=aa j;clear j
  by_cases t:row<0
  ·have c:Hid (1=E2):=by show _=_;rw [←i.out];simp [aH,k.out,t]
   go_wp2_with fail;rw [←c.out] at a;refine a.out _ ⟨rfl,?_⟩;rw [←f.out,←g.out,←h.out]
   rfl
  skip
  by_cases u:(pl:Int)≤row
  ·have c:Hid (1=E2):=by show _=_;rw [←i.out];simp [aH,k.out,u]
   go_wp2_with fail;rw [←c.out] at a;refine a.out _ ⟨rfl,?_⟩;rw [←f.out,←g.out,←h.out]
   rfl
  skip
  by_cases v:d<0
  ·have c:Hid (1=E2):=by show _=_;rw [←i.out];simp [aH,k.out,v]
   go_wp2_with fail;rw [←c.out] at a;refine a.out _ ⟨rfl,?_⟩;rw [←f.out,←g.out,←h.out]
   rfl
  skip
  by_cases y:(pl:Int)≤d
  ·have c:Hid (1=E2):=by show _=_;rw [←i.out];simp [aH,k.out,y]
   go_wp2_with fail;rw [←c.out] at a;refine a.out _ ⟨rfl,?_⟩;rw [←f.out,←g.out,←h.out]
   rfl
  skip
  have c:Hid (E1=E2):=by show _=_;rw [←i.out];simp [aH,t,u,v,y]
  go_wp2_with fail;rw [←c.out] at a;refine a.out _ ⟨rfl,?_⟩;rw [←f.out,←g.out,←h.out]
  rfl
 have c:Hid (E1=E2):=by show _=_;rw [←i.out];simp [j]
 have o:(E1 == 0)=false:=by simpa using j
 clear j;go_wp2_with fail;rw [←c.out] at a;refine a.out _ ⟨rfl,?_⟩;rw [←f.out,←g.out,←h.out]
 rfl
end Go.Proofs.YthlhjjabkgpenaaGreatDoor
