/- What Check and Find of -/
import Derived.OwnWalk
import Derived.WalkSpells
import Derived.WalkLawsBesides
import Derived.Test.YtohgnbgamfepoaaGreatDoorJHAB
import Derived.Test.YtohgnbgamfepoaaGreatDoorJHAC
namespace Go.Proofs.YtohgnbgamfepoaaGreatDoor
open ChangeShapes WideShapes ChangeAt RowKit Go
set_option maxRecDepth 99999
set_option maxHeartbeats 0
def eh (w:World) (A:Option Addr) (cap n:Nat) (M:Nat→Mem):Prop:=n≤cap∧(n=0∨∃ b o,A=some ⟨b,o,none⟩∧b8 w b o n M)
theorem eh.later {w w':World} {A:Option Addr} {cap n:Nat} {M:Nat→Mem} (h:eh w A cap n M) (e:Bl w w'):eh w' A cap n M:=by
 obtain ⟨c,a | ⟨b,o,a,d⟩⟩:=h
 ·exact ⟨c,Or.inl a⟩
 exact ⟨c,Or.inr ⟨b,o,a,d.later e⟩⟩
theorem fc {d:Dm} (h:bW d≠0):ay d=(-1,bW d):=by
 unfold bW at h ⊢;unfold ay
 split
 ·rfl
 split
 ·rfl
 split
 ·rfl
 split
 ·rfl
 rename_i h1 h2 h3 h4
 rw [if_neg h1,if_neg h2,if_neg h3,if_neg h4] at h;exact absurd rfl h
theorem mU {d:Dm} (h:bW d=0):ay d=kd d.mem d.n 0∧1≤d.n∧d.n≤12:=by
 unfold bW at h;unfold ay
 split at h
 ·simp at h
 split at h
 ·simp at h
 split at h
 ·simp at h
 split at h
 ·simp at h
 rename_i h1 h2 h3 h4
 rw [if_neg h1,if_neg h2,if_neg h3,if_neg h4];exact ⟨rfl,by omega,by omega⟩
def aL (w:World) (d:Dm) (A:Option Addr) (cap T:Nat):World:=w.alloc (.cells #[.string d.name,.int .i64 d.solve,.slice A d.n cap] T)
theorem dO (w:World) (d:Dm) (A:Option Addr) (cap T:Nat):(aL w d A cap T).cell? ⟨w.heap.size,0,none⟩=some (.string d.name)∧(aL w d A cap T).cell? ⟨w.heap.size,1,none⟩=some (.int .i64 d.solve)∧(aL w d A cap T).cell? ⟨w.heap.size,2,none⟩=some (.slice A d.n cap):=by unfold aL;exact ⟨by simp,by simp,by simp⟩
theorem bg (w:World) (d:Dm) (A:Option Addr) (cap T:Nat):(aL w d A cap T).heap.size=w.heap.size+1:=by unfold aL;simp
theorem aT (w:World) (d:Dm) (A:Option Addr) (cap T:Nat):Bl w (aL w d A cap T):=by unfold aL;go_grown
theorem kx (d:Dm) (A:Option Addr) (cap:Nat) (w:World) (F:eh w A cap d.n d.mem):Rt 123 #[cQ d A cap] w (.tuple #[.int .i64 (ay d).1,errV (ay d).2]):=by
 have f:=Cb d A cap;unfold cQ at f ⊢;have J:=aa F;clear F
 by_cases l:bW d=0
 ·rw [l,errV_zero] at f
  obtain ⟨t,L,B⟩:=mU l;have v:=aa t;clear t l
  go_enter Tryz.func123,Tryz.ntmps123
  go_wp2_with fail;refine (f _).mono ?_;rintro e w1 ⟨rfl,a⟩;have G:=bg w d A cap 70;have q:Bl w w1:=ae (aT w d A cap 70) a;have N:w.heap.size<w1.heap.size:=by
   have:=a.size
   change (aL w d A cap 70).heap.size≤_ at this
   omega
  have K:w1.cell? ⟨w.heap.size,2,none⟩=some (.slice A d.n cap):=(a.cell (p:=⟨w.heap.size,2,none⟩) (by show w.heap.size<(aL w d A cap 70).heap.size;rw [G];omega)).trans (dO w d A cap 70).2.2
  obtain ⟨s,O | ⟨b,o,rfl,r⟩⟩:=J.out.later q
  ·omega
  have z:=aa r;have H:(d.n:Int)≤12:=by omega
  clear a G r f;go_wp2_with fail
  go_loopg [15] d.n (fun g s15 wr => ∃ (k:Nat),k≤d.n∧g=d.n-k∧s15=.int .i64 k∧kd d.mem (d.n-k) k=kd d.mem d.n 0∧Bl w1 wr)
  case atStart=>exact ⟨0,zU,rfl,rfl,rfl,zS⟩
  case round =>
   obtain ⟨k,P,rfl,rfl,i,h⟩:=hrel
   by_cases D:k<d.n
   ·have c:=xJ b o d.n cap k d.mem wr B s D (z.out.later h)
    have M:(k:Int)<(d.n:Int):=by omega
    have x:=aa i;have E:=aa h;have u:d.n-k=(d.n-(k+1))+1:=by omega
    have c2:wr.cell? ⟨w.heap.size,2,none⟩=some (.slice (some ⟨b,o,none⟩) d.n cap):=aC h N K;clear i h
    by_cases m:aY d.mem k=0
    ·rw [m,errV_zero] at c
     have y:=aa m;clear m;go_wp2_with fail;refine c.mono ?_;rintro e w2 ⟨rfl,j⟩;go_wp2_with fail
     go_roundg (d.n-(k+1))
     case measure=>omega
     case rel=>exact ⟨k+1,by omega,rfl,by go_num,by rw [←x.out,u,nS _ y.out],ae E.out j⟩
    rw [ak m] at c;have y:=aa m;clear m;go_wp2_with fail;refine c.mono ?_;rintro e w2 ⟨rfl,j⟩;go_wp2_with fail
    go_ret2
    refine ⟨?_,ae q (ae E.out j)⟩;rw [v.out,←x.out,u,dv _ y.out]
    simp [errV,y.out]
   have C:k=d.n:=by omega
   have x:=aa i;clear i;subst C;go_wp2_with fail
   go_ret2
   refine ⟨?_,ae q h⟩;rw [v.out,←x.out,Nat.sub_self]
   rfl
 rw [ak l] at f;have v:Hid (ay d=(-1,bW d)):=fc l;have I:=aa l;clear l
 go_enter Tryz.func123,Tryz.ntmps123
 go_wp2_with fail;refine (f _).mono ?_;rintro e w1 ⟨rfl,a⟩;have q:Bl w w1:=ae (aT w d A cap 70) a;clear a;go_wp2_with fail
 go_ret2
 refine ⟨?_,q⟩;rw [v.out]
 simp [errV,I.out]
def Tr (M:Nat→Mem) (n:Nat):Prop := ∀ k,k<n→-1≤(M k).parent∧(M k).parent<(k:Int)
def Sg (M:Nat→Mem) (n:Nat):Prop := ∀ k,k<n→-1≤(M k).sign∧(M k).sign≤1
theorem mY {M:Nat→Mem} {i:Nat} (h:aY M i=0):(-1≤(M i).parent∧(M i).parent<(i:Int))∧(-1≤(M i).sign∧(M i).sign≤1)∧(0≤(M i).parent→(M (M i).parent.toNat).formula.size=0):=by
 unfold aY at h
 split at h
 ·simp at h
 split at h
 ·simp at h
 split at h
 ·simp at h
 split at h
 ·simp at h
 split at h
 ·simp at h
 rename_i h1 h2 h3 h4 h5
 refine ⟨by omega,by omega,fun a=>?_⟩
 exact Decidable.byContradiction fun b=>h4 ⟨a,b⟩
theorem Tr.of {d:Dm} (h:(ay d).2=0):Tr d.mem d.n:=fun k a=>(mY ((aI h).2.2.2 k a)).1
theorem Sg.of {d:Dm} (h:(ay d).2=0):Sg d.mem d.n:=fun k a=>(mY ((aI h).2.2.2 k a)).2.1
def selTo (p:Nat→Bool):Nat→List Int
 | 0=>[]
 | k+1=>selTo p k ++ (if p k=true then [(k:Int)] else [])
theorem jT {p:Nat→Bool} {k:Nat} (h:p k=true):selTo p (k+1)=selTo p k ++ [(k:Int)]:=by simp [selTo,h]
theorem gI {p:Nat→Bool} {k:Nat} (h:p k=false):selTo p (k+1)=selTo p k:=by simp [selTo,h]
theorem cG (p:Nat→Bool) (k:Nat):(selTo p k).length≤k:=by
 induction k with
 | zero=>exact zT
 | succ k ih=>rw [selTo,List.length_append];split <;> simp <;> omega
theorem cS {p:Nat→Bool} {k:Nat}:∀ j∈selTo p k,∃ m:Nat,j=m∧m<k∧p m=true:=by
 induction k with
 | zero=>intro j a;cases a
 | succ k ih =>
  intro j a;rw [selTo,List.mem_append] at a
  rcases a with a | a
  ·obtain ⟨m,b,d,c⟩:=ih j a;exact ⟨m,b,by omega,c⟩
  split at a
  ·rename_i hp;simp at a;exact ⟨k,a,by omega,hp⟩
  cases a
theorem vP {p q:Nat→Bool} {k:Nat} (h:∀ j,j<k→p j=q j):selTo p k=selTo q k:=by
 induction k with
 | zero=>rfl
 | succ k ih=>rw [selTo,selTo,ih fun j a=>h j (by omega),h k (by omega)]
theorem yU {p:Nat→Bool} {k:Nat} (h:∀ j,j<k→p j=false):selTo p k=[]:=by
 induction k with
 | zero=>rfl
 | succ k ih=>rw [gI (h k (by omega)),ih fun j a=>h j (by omega)]
def iJ (M:Nat→Mem) (i:Int) (k:Nat):Bool:=(M k).parent == i
def leafB (M:Nat→Mem) (n k:Nat):Bool:=decide ((M k).formula.size=0) && !decide (0≤findFrom (iJ M k) n 0)
def nH (L:List Int) (i:Int):Bool:=decide (i∈L)
def bA (M:Nat→Mem) (n:Nat) (i:Int):List Int:=selTo (iJ M i) n
theorem Hk (L:List Int) (i:Int):decide (0≤findFrom (fun j=>L.getD j 0 == i) L.length 0)=nH L i:=by
 unfold nH;rw [decide_eq_decide]
 rcases findFrom_cases (fun j=>L.getD j 0 == i) L.length 0 with ⟨a,d⟩ | ⟨k,a,_,g,b,_⟩
 ·rw [a]
  constructor
  ·intro h;omega
  intro h;obtain ⟨j,f,e⟩:=List.getElem_of_mem h;have:=d j (zU) (by omega)
  simp [List.getD,zX f,e] at this
 rw [a]
 constructor
 ·intro _
  have c:k<L.length:=by omega
  simp [List.getD,zX c] at b
  rw [←b];exact List.getElem_mem c
 intro _;omega
def pM (n:Nat) (L:List Int):Int:=if 0≤findFrom (fun j=>decide (L.getD j 0<0) || decide ((n:Int)≤L.getD j 0)) L.length 0 then 1 else 0
def treeErr (d:Dm) (L:List Int):Int:=if (ay d).2≠0 then (ay d).2 else pM d.n L
theorem vY {d:Dm} {L:List Int} (h:(ay d).2≠0):treeErr d L=(ay d).2:=by unfold treeErr;rw [if_pos h]
theorem g9 {d:Dm} {i:Int} (h:(ay d).2=0):treeErr d [i]=if i<0∨(d.n:Int)≤i then 1 else 0:=by
 unfold treeErr pM;rw [if_neg (by simpa using h)]
 by_cases a:i<0∨(d.n:Int)≤i
 ·rw [if_pos a];simp [findFrom,a]
 rw [if_neg a];simp [findFrom,a]
def fC (N:List (List Int)) (i:Int):List Int:=N.getD i.toNat []
def nA (N:List (List Int)):Prop := ∀ (i:Nat),i<N.length→∀ x∈N.getD i [],0≤x∧x<(N.length:Int)
theorem nA.at {N:List (List Int)} (h:nA N) {a:Int} (c:0≤a) (d:a<(N.length:Int)) {x:Int} (b:x∈fC N a):0≤x∧x<(N.length:Int):=h a.toNat (by omega) x b
inductive Rch (N:List (List Int)):Int→Int→Prop
 | one {a b:Int}:b∈fC N a→Rch N a b
 | more {a b c:Int}:b∈fC N a→Rch N b c→Rch N a c
theorem Rch.trans {N:List (List Int)} {a b c:Int} (h:Rch N a b) (k:Rch N b c):Rch N a c:=by
 induction h with
 | one h=>exact .more h k
 | more h _ ih=>exact .more h (ih k)
theorem Rch.snoc {N:List (List Int)} {a b c:Int} (h:Rch N a b) (k:c∈fC N b):Rch N a c:=h.trans (.one k)
theorem Rch.inn {N:List (List Int)} (e:nA N) {a b:Int} (h:Rch N a b):0≤a→a<(N.length:Int)→0≤b∧b<(N.length:Int):=by
 induction h with
 | one h=>exact fun c d=>e.at c d h
 | more h _ ih=>exact fun c d=>let ⟨x,y⟩:=e.at c d h;ih x y
theorem Rch.closed {N:List (List Int)} {S:Int→Prop} {a b:Int} (h:Rch N a b):(∀ x∈fC N a,S x)→(∀ x,S x→∀ y∈fC N x,S y)→S b:=by
 induction h with
 | one h=>exact fun c _=>c _ h
 | more h _ ih=>exact fun c d=>ih (fun x e=>d _ (c _ h) x e) d
noncomputable def cycB (N:List (List Int)) (i:Nat):Bool := @decide (Rch N i i) (Classical.propDecidable _)
theorem cyc_iff {N:List (List Int)} {i:Nat}:cycB N i=true↔Rch N i i:=by
 unfold cycB;exact @decide_eq_true_iff _ (Classical.propDecidable _)
theorem zP {N:List (List Int)} {i:Nat}:cycB N i=false↔¬ Rch N i i:=by
 rw [←cyc_iff];cases cycB N i <;> simp
theorem few (n:Nat):∀ (L:List Int),L.Nodup→(∀ x∈L,0≤x∧x<(n:Int))→L.length≤n:=by
 induction n with
 | zero =>
  intro L _ h;cases L with
  | nil=>exact zT
  | cons x r=>have:=h x (by simp);omega
 | succ n ih =>
  intro L b h;have e:=ih (L.erase (n:Int)) (b.erase _) fun x d=>by
   have a:=(b.mem_erase_iff.1 d);have:=h x a.2;have:=a.1
   omega
  have f:L.length≤(L.erase (n:Int)).length+1:=by
   by_cases c:(n:Int)∈L
   ·rw [List.length_erase_of_mem c];omega
   rw [List.erase_of_not_mem c];omega
  omega
def sI (N:List (List Int)) (out:List Int) (i:Nat):Bool := !(out.contains (i:Int)) && (N.getD i []).all fun x=>out.contains x
def m5 (N:List (List Int)) (out:List Int):Int:=findFrom (sI N out) N.length 0
def aB (N:List (List Int)):Nat→List Int
 | 0=>[]
 | k+1=>aB N k ++ (if 0≤m5 N (aB N k) then [m5 N (aB N k)] else [])
theorem mz {N:List (List Int)} {out:List Int} (h:0≤m5 N out):∃ k:Nat,m5 N out=(k:Int)∧k<N.length∧sI N out k=true∧∀ j,j<k→sI N out j=false:=by
 unfold m5 at *
 rcases findFrom_cases (sI N out) N.length 0 with ⟨a,_⟩ | ⟨k,a,_,e,b,c⟩
 ·omega
 exact ⟨k,a,by omega,b,fun j d=>c j (zU) d⟩
theorem f7 {N:List (List Int)} {out:List Int} {k:Nat} (h:sI N out k=true):(k:Int)∉out∧∀ x∈N.getD k [],x∈out:=by
 unfold sI at h;simp only [Bool.and_eq_true,Bool.not_eq_true',List.all_eq_true] at h;refine ⟨fun a=>?_,fun x b=>?_⟩
 ·have:=h.1
  rw [←Bool.not_eq_true,List.contains_iff_mem] at this;exact this a
 exact List.contains_iff_mem.1 (h.2 x b)
theorem uV {N:List (List Int)} {out:List Int} {k:Nat} (a:(k:Int)∉out) (b:∀ x∈N.getD k [],x∈out):sI N out k=true:=by
 unfold sI;simp only [Bool.and_eq_true,Bool.not_eq_true',List.all_eq_true];refine ⟨?_,fun x c=>List.contains_iff_mem.2 (b x c)⟩
 rw [←Bool.not_eq_true,List.contains_iff_mem];exact a
theorem pA (N:List (List Int)) (k:Nat):(aB N k).Nodup∧(∀ x∈aB N k,0≤x∧x<(N.length:Int)):=by
 induction k with
 | zero=>exact ⟨List.nodup_nil,fun x c=>by cases c⟩
 | succ k ih =>
  rw [aB]
  split
  ·rename_i h
   obtain ⟨m,d,j,f,-⟩:=mz h;rw [d];refine ⟨?_,fun x c=>?_⟩
   ·rw [List.nodup_append]
    refine ⟨ih.1,by simp,fun a g b i=>?_⟩
    rw [List.mem_singleton.1 i];intro e;exact (f7 f).1 (e ▸ g)
   rcases List.mem_append.1 c with c | c
   ·exact ih.2 x c
   rw [List.mem_singleton.1 c];omega
  rw [List.append_nil];exact ih
theorem way {N:List (List Int)} {out:List Int} (s:nA N) (n:∀ i:Nat,i<N.length→sI N out i=false) {a:Nat} (v:a<N.length) (l:(a:Int)∉out) (k:Nat) :
  (∃ i:Nat,i<N.length∧Rch N i i)∨∃ (P:List Int) (x:Int),x∈P∧P.length=k+1∧P.Nodup∧(∀ y∈P,0≤y∧y<(N.length:Int)∧y∉out)∧∀ y∈P,y=x∨Rch N y x:=by
 induction k with
 | zero=>exact Or.inr ⟨[(a:Int)],a,by simp,rfl,by simp,fun y f=>by rw [List.mem_singleton.1 f];exact ⟨by omega,by omega,l⟩,fun y f=>Or.inl (List.mem_singleton.1 f)⟩
 | succ k ih =>
  rcases ih with h | ⟨P,x,hxP,hlen,hnd,hin,hto⟩
  ·exact Or.inl h
  obtain ⟨o,p,q⟩:=hin x hxP;obtain ⟨m,rfl⟩:∃ m:Nat,x=m:=⟨x.toNat,by omega⟩
  have c:=n m (by omega)
  obtain ⟨y,f,r⟩:∃ y∈N.getD m [],y∉out:=by
   refine Classical.byContradiction fun t=>?_
   rw [uV q fun x u=>Classical.byContradiction fun h=>t ⟨x,u,h⟩] at c
   cases c
  have d:y∈fC N (m:Int):=by unfold fC;simpa using f
  have j:=s.at o p d
  by_cases g:y∈P
  ·refine Or.inl ⟨m,by omega,?_⟩
   rcases hto y g with e | e
   ·exact .one (e ▸ d)
   exact .more d e
  refine Or.inr ⟨y :: P,y,by simp,by simp [hlen],List.nodup_cons.2 ⟨g,hnd⟩,fun z b=>?_,fun z b=>?_⟩
  ·rcases List.mem_cons.1 b with rfl | b
   ·exact ⟨j.1,j.2,r⟩
   exact hin z b
  rcases List.mem_cons.1 b with rfl | b
  ·exact Or.inl rfl
  rcases hto z b with e | e
  ·exact Or.inr (.one (e ▸ d))
  exact Or.inr (e.snoc d)
theorem po {N:List (List Int)} (B:nA N) (D:∀ i:Nat,i<N.length→cycB N i=false) {k:Nat} (I:k<N.length) (J:(aB N k).length=k):0≤m5 N (aB N k):=by
 unfold m5
 rcases findFrom_cases (sI N (aB N k)) N.length 0 with ⟨_,A⟩ | ⟨m,G,_⟩
 ·exfalso
  have q:∀ i:Nat,i<N.length→sI N (aB N k) i=false:=fun i t=>A i (zU) (by omega)
  obtain ⟨a,c,o⟩:∃ a:Nat,a<N.length∧(a:Int)∉aB N k:=by
   refine Classical.byContradiction fun E=>?_
   have d:∀ a:Nat,a<N.length→(a:Int)∈aB N k:=fun a c=>Classical.byContradiction fun h=>E ⟨a,c,h⟩
   have j:(List.range N.length).map (fun a:Nat=>(a:Int)) ⊆ aB N k:=fun x n=>by
    obtain ⟨a,c,rfl⟩:=List.mem_map.1 n;exact d a (List.mem_range.1 c)
   have g:∀ (X Y:List Int),X.Nodup→X ⊆ Y→X.length≤Y.length:=by
    intro X
    induction X with
    | nil=>intro Y _ _;exact zU
    | cons x r ih =>
     intro Y C u;have n:=List.nodup_cons.1 C;have l:x∈Y:=u (by simp)
     have:=ih (Y.erase x) n.2 fun z w=>(List.mem_erase_of_ne (fun e:z=x=>n.1 (by rw [←e];exact w))).2 (u (List.mem_cons_of_mem _ w))
     rw [List.length_erase_of_mem l] at this;have:=List.length_pos_of_mem l;simp only [List.length_cons]
     omega
   have s:(List.range N.length).Pairwise (fun a b=>a≠b):=List.nodup_range
   have:=g _ _ (show List.Pairwise (fun a b=>a≠b) _ from List.pairwise_map.2 (s.imp fun {a b:Nat} (h:a≠b) (e:(a:Int)=(b:Int))=>h (by omega))) j
   rw [List.length_map,List.length_range] at this
   omega
  rcases way B q c o N.length with ⟨i,t,F⟩ | ⟨P,x,_,H,p,f,_⟩
  ·exact (zP.1 (D i t)) F
  have:=few N.length P p fun y v=>⟨(f y v).1,(f y v).2.1⟩
  omega
 omega
theorem ef {N:List (List Int)} (a:nA N) (b:∀ i:Nat,i<N.length→cycB N i=false) (k:Nat) (c:k≤N.length):(aB N k).length=k:=by
 induction k with
 | zero=>rfl
 | succ k ih =>
  have h:=ih (by omega)
  rw [aB,if_pos (po a b (by omega) h),List.length_append,h]
  rfl
theorem pB {N:List (List Int)} (b:nA N) (c:∀ i:Nat,i<N.length→cycB N i=false) {k:Nat} (g:k<N.length):∃ m:Nat,m5 N (aB N k)=(m:Int)∧m<N.length∧sI N (aB N k) m=true∧(∀ j,j<m→sI N (aB N k) j=false)∧aB N (k+1)=aB N k ++ [(m:Int)]:=by
 have h:=po b c g (ef b c k (by omega))
 obtain ⟨m,a,d,e,f⟩:=mz h;exact ⟨m,a,d,e,f,by rw [aB,if_pos h,a]⟩
theorem vg {N:List (List Int)} (a:nA N) (b:∀ i:Nat,i<N.length→cycB N i=false) {k:Nat} (n:Nat) (f:k≤n) (d:n≤N.length):(aB N n).take k=aB N k:=by
 induction n with
 | zero =>
  have:k=0:=by omega
  subst this
  rfl
 | succ n ih =>
  by_cases e:k=n+1
  ·subst e
   exact List.take_of_length_le (by rw [ef a b _ d];exact zT)
  obtain ⟨m,_,_,_,_,c⟩:=pB a b (k:=n) (by omega)
  rw [c,List.take_append_of_le_length (by rw [ef a b n (by omega)];omega)]
  exact ih (by omega) (by omega)
theorem ye {N:List (List Int)} (a:nA N) (b:∀ i:Nat,i<N.length→cycB N i=false) {k:Nat} (h:k<N.length):∃ m:Nat,(aB N N.length).getD k 0=(m:Int)∧m<N.length∧(m:Int)∉(aB N N.length).take k∧(∀ x∈N.getD m [],x∈(aB N N.length).take k)∧(aB N N.length).take (k+1)=(aB N N.length).take k ++ [(m:Int)]:=by
 obtain ⟨m,_,g,e,_,f⟩:=pB a b h;have c:=vg a b (k:=k) N.length (by omega) (zT)
 have d:=vg a b (k:=k+1) N.length (by omega) (zT)
 refine ⟨m,?_,g,by rw [c];exact (f7 e).1,by rw [c];exact (f7 e).2,by rw [c,d,f]⟩
 have j:=ef a b N.length (zT);have:((aB N N.length).take (k+1)).getD k 0=(m:Int):=by
  rw [d,f,zZ,List.getElem?_append_right (by rw [ef a b k (by omega)];exact zT),ef a b k (by omega)]
  simp
 rw [zZ,List.getElem?_take_of_lt (by omega)] at this
 rw [zZ];exact this
theorem jb:∀ (L K:List Int),L.Pairwise (· < ·)→K.Pairwise (· < ·)→(∀ x,x∈L↔x∈K)→L=K
 | [],[],_,_,_=>rfl
 | [],y :: K,_,_,h=>by have:=(h y).2 (by simp);cases this
 | x :: L,[],_,_,h=>by have:=(h x).1 (by simp);cases this
 | x :: L,y :: K,hL,hK,h=>by
  have b:=List.pairwise_cons.1 hL;have a:=List.pairwise_cons.1 hK;have e:x=y:=by
   rcases List.mem_cons.1 ((h x).1 (by simp)) with e | e
   ·exact e
   rcases List.mem_cons.1 ((h y).2 (by simp)) with e2 | e2
   ·exact e2.symm
   have:=b.1 _ e2;have:=a.1 _ e
   omega
  subst e
  congr 1
  refine jb L K b.2 a.2 fun z=>⟨fun c=>?_,fun c=>?_⟩
  ·rcases List.mem_cons.1 ((h z).1 (List.mem_cons_of_mem _ c)) with e | e
   ·have:=b.1 z c;omega
   exact e
  rcases List.mem_cons.1 ((h z).2 (List.mem_cons_of_mem _ c)) with e | e
  ·have:=a.1 z c;omega
  exact e
theorem fl (p:Nat→Bool) (k:Nat):(selTo p k).Pairwise (· < ·):=by
 induction k with
 | zero=>exact List.Pairwise.nil
 | succ k ih =>
  rw [selTo,List.pairwise_append];refine ⟨ih,?_,fun a d b c=>?_⟩
  ·split <;> simp
  obtain ⟨m,e,f,-⟩:=cS a d
  split at c
  ·rw [List.mem_singleton.1 c];omega
  cases c
theorem jU {p:Nat→Bool} {k m:Nat} (h:m<k) (a:p m=true):(m:Int)∈selTo p k:=by
 induction k with
 | zero=>omega
 | succ k ih =>
  rw [selTo,List.mem_append]
  by_cases e:m=k
  ·subst e;exact Or.inr (by rw [if_pos a];simp)
  exact Or.inl (ih (by omega))
theorem tg (p q:Nat→Bool) (f:Int→Bool) (k:Nat) (h:∀ j,j<k→(q j=true↔p j=true∧f (j:Int)=true)):(selTo p k).filter f=selTo q k:=by
 induction k with
 | zero=>rfl
 | succ k ih =>
  rw [selTo,selTo,List.filter_append,ih fun j d=>h j (by omega)]
  congr 1
  have c:=h k (by omega)
  by_cases a:p k=true
  ·by_cases b:f (k:Int)=true
   ·rw [if_pos a,if_pos (c.2 ⟨a,b⟩)];simp [b]
   rw [if_pos a,if_neg fun e=>b (c.1 e).2];simp [b]
  rw [if_neg a,if_neg fun e=>a (c.1 e).1];rfl
theorem pP {L:List Int} (h:L.Pairwise (· < ·)):L.Nodup:=h.imp fun h e=>by omega
structure Nd where
 op:Int
 n:Int
 name:ByteArray
 left:Int
 right:Int
def bO:Nd:=⟨0,0,⟨#[]⟩,0,0⟩
def ndErr (x:Nd) (i:Nat):Int :=
 if x.op<1∨6<x.op then 1
 else if x.op=1 then (if x.n<0∨1000000<x.n then 1 else if x.name.size≠0∨x.left≠0∨x.right≠0 then 3 else 0)
 else if x.op=2 then (if aP x.name≠0 then 2 else if x.n≠0∨x.left≠0∨x.right≠0 then 3 else 0)
 else if x.left<0∨(i:Int)≤x.left∨x.right<0∨(i:Int)≤x.right then 1
 else if x.n≠0∨x.name.size≠0 then 3 else 0
def uses (x:Nd) (k:Nat):Nat:=if 2<x.op then (if x.left=(k:Int) then 1 else 0)+(if x.right=(k:Int) then 1 else 0) else 0
def usedTo (l:List Nd):Nat→Nat→Nat
 | 0,_=>0
 | i+1,k=>usedTo l i k+uses (l.getD i bO) k
def fU (l:List Nd) (i:Nat):Bool:=decide (ndErr (l.getD i bO) i≠0)
def kG (l:List Nd) (i:Nat):Bool:=decide (usedTo l l.length i≠1)
def aA (l:List Nd):Int :=
 if l.length=0 then 5
 else if 30<l.length then 4
 else if 0≤findFrom (fU l) l.length 0 then ndErr (l.getD (findFrom (fU l) l.length 0).toNat bO) (findFrom (fU l) l.length 0).toNat
 else if 0≤findFrom (kG l) (l.length-1) 0 then 3 else 0
section
variable {l:List Nd} {i:Nat}
theorem jH (h:l.length=0):aA l=5:=by simp [aA,h]
theorem mm (h:30<l.length):aA l=4:=by
 have a:l.length≠0:=by omega
 rw [aA,if_neg a,if_pos h]
theorem oS (h:l.length≤30) (e:i<l.length) (c:fU l i=true) (b:∀ j,j<i→fU l j=false):aA l=ndErr (l.getD i bO) i:=by
 have h1 : ¬ l.length=0:=by omega
 have h2 : ¬ 30<l.length:=by omega
 have a:findFrom (fU l) l.length 0=(i:Int):=eP (zU) (by omega) c (fun j _ d=>b j d)
 rw [aA,if_neg h1,if_neg h2,a,if_pos (by omega)]
 simp
theorem oT (b:l.length≠0) (h:l.length≤30) (f:∀ j,j<l.length→fU l j=false) (g:i<l.length-1) (a:kG l i=true):aA l=3:=by
 have h2 : ¬ 30<l.length:=by omega
 have c:findFrom (fU l) l.length 0 = -1:=bR (fun j _ k=>f j (by omega))
 rw [aA,if_neg b,if_neg h2,c,if_neg (by omega)]
 rcases findFrom_cases (kG l) (l.length-1) 0 with ⟨_,d⟩ | ⟨m,e,_⟩
 ·rw [d i (zU) (by omega)] at a;cases a
 rw [e,if_pos (by omega)]
theorem rc (a:l.length≠0) (h:l.length≤30) (d:∀ j,j<l.length→fU l j=false) (f:∀ j,j<l.length-1→kG l j=false):aA l=0:=by
 have h2 : ¬ 30<l.length:=by omega
 have b:findFrom (fU l) l.length 0 = -1:=bR (fun j _ e=>d j (by omega))
 have c:findFrom (kG l) (l.length-1) 0 = -1:=bR (fun j _ e=>f j (by omega))
 rw [aA,if_neg a,if_neg h2,b,if_neg (by omega),c,if_neg (by omega)]
theorem dD (h:aA l=0):0<l.length∧l.length≤30∧(∀ j,j<l.length→ndErr (l.getD j bO) j=0)∧∀ j,j<l.length-1→usedTo l l.length j=1:=by
 by_cases b:l.length=0
 ·rw [jH b] at h;cases h
 by_cases e:30<l.length
 ·rw [mm e] at h;cases h
 refine ⟨by omega,by omega,?_⟩
 rcases findFrom_cases (fU l) l.length 0 with ⟨_,f⟩ | ⟨m,_,_,i,c,g⟩
 ·have d:∀ j,j<l.length→fU l j=false:=fun j a=>f j (zU) (by omega)
  refine ⟨fun j a=>by simpa [fU] using d j a,fun j a=>?_⟩
  rcases Bool.eq_false_or_eq_true (kG l j) with ho | ho
  ·rw [oT b (by omega) d a ho] at h;cases h
  simpa [kG] using ho
 rw [oS (by omega) (by omega) c (fun j a=>g j (zU) a)] at h
 exact absurd h (of_decide_eq_true c)
end
def bindN (op:Int):Int:=if op=3∨op=4 then 1 else if op=5∨op=6 then 2 else 3
theorem oi (op:Int):1≤bindN op:=by unfold bindN;split <;> (try split) <;> omega
structure Bld where
 nodes:List Nd
 ready:List Int
 waiting:List Int
def noB:Bld:=⟨[],[],[]⟩
def jZ (x:Nd) (b:Bld):Bld:=⟨b.nodes ++ [x],b.ready ++ [(b.nodes.length:Int)],b.waiting⟩
def di (op:Int) (b:Bld):Bld:=jZ ⟨op,0,⟨#[]⟩,b.ready.getD (b.ready.length-2) 0,b.ready.getD (b.ready.length-2+1) 0⟩ ⟨b.nodes,b.ready.take (b.ready.length-2),b.waiting⟩
def bh (least:Int):Nat→Bld→Bld
 | 0,b=>b
 | k+1,b=>if b.waiting.getD k 0=0∨bindN (b.waiting.getD k 0)<least then b else bh least k (di (b.waiting.getD k 0) ⟨b.nodes,b.ready,b.waiting.take k⟩)
def settleB (least:Int) (b:Bld):Bld:=bh least b.waiting.length b
def numW (t:ByteArray):Int:=t.data.toList.foldl (fun n c=>n*10+((c.toNat:Int)-48)) 0
def opndN (t:ByteArray):Nd:=if 97≤byteN t 0∧byteN t 0≤122 then ⟨2,0,t,0,0⟩ else ⟨1,numW t,⟨#[]⟩,0,0⟩
def signI (c:Int):Int:=if c=43 then 0 else if c=45 then 1 else if c=42 then 2 else if c=47 then 3 else -1
def takeB (b:Bld) (t:ByteArray):Bld :=
 if byteN t 0=40 then ⟨b.nodes,b.ready,b.waiting ++ [0]⟩
 else if byteN t 0=41 then ⟨(settleB 0 b).nodes,(settleB 0 b).ready,(settleB 0 b).waiting.take ((settleB 0 b).waiting.length-1)⟩
 else if 0≤signI (byteN t 0) then ⟨(settleB (bindN (3+signI (byteN t 0))) b).nodes,(settleB (bindN (3+signI (byteN t 0))) b).ready,(settleB (bindN (3+signI (byteN t 0))) b).waiting ++ [3+signI (byteN t 0)]⟩
 else jZ (opndN t) b
def dY (l:List Int):Nat:=l.countP (fun x=>decide (x=0))
def opsN (l:List Int):Nat:=l.countP (fun x=>decide (x≠0))
theorem GW (l:List Int):dY l+opsN l=l.length:=by
 induction l with
 | nil=>rfl
 | cons x r ih =>
  simp only [dY,opsN,List.countP_cons,List.length_cons] at *
  by_cases h:x=0
  ·rw [if_pos (by simpa using h),if_neg (by simpa using h)];omega
  rw [if_neg (by simpa using h),if_pos (by simpa using h)];omega
def b9 (c:Int):Bool:=decide (48≤c) && decide (c≤57)
def bG (c:Int):Bool:=decide (97≤c) && decide (c≤122)
def leadTo (p:Int→Bool) (t:ByteArray):Nat→Nat→Nat
 | 0,i=>i
 | f+1,i=>if p (byteN t i) then leadTo p t f (i+1) else i
def leadN (p:Int→Bool) (t:ByteArray):Nat:=leadTo p t t.size 0
def nextB (s:ByteArray) (a:Nat):Int:=if a=s.size then 0 else byteN s a
structure Rd (S:Type) where
 at':Nat
 opn:Nat
 st:S
section
variable {S:Type} (s:ByteArray) (tk:S→ByteArray→S)
def wordR (n:Nat) (r:Rd S):Rd S:=⟨r.at'+n,r.opn,tk r.st (s.extract r.at' (r.at'+n))⟩
def opensR:Nat→Rd S→Rd S
 | 0,r=>r
 | f+1,r=>if nextB s r.at'=40 then opensR f (wordR s tk 1 ⟨r.at',r.opn+1,r.st⟩) else r
def bw:Nat→Rd S→Rd S
 | 0,r=>r
 | f+1,r=>if 0<r.opn∧nextB s r.at'=41 then bw f (wordR s tk 1 ⟨r.at',r.opn-1,r.st⟩) else r
def digitsN (a:Nat):Nat:=if nextB s a=48 then 1 else min (leadN b9 (s.extract a s.size)) 7
def bK (r:Rd S):Rd S:=opensR s tk (s.size-r.at') r
def aD (r:Rd S):Rd S×Bool :=
 if b9 (nextB s (bK s tk r).at') then (bw s tk s.size (wordR s tk (digitsN s (bK s tk r).at') (bK s tk r)),true)
 else if bG (nextB s (bK s tk r).at') then (bw s tk s.size (wordR s tk (leadN bG (s.extract (bK s tk r).at' s.size)) (bK s tk r)),true)
 else (bK s tk r,false)
def cM (r:Rd S):Rd S×Bool:=if signI (nextB s r.at')<0 then (r,false) else (wordR s tk 1 r,true)
def dq:Nat→Rd S→Rd S×Bool
 | 0,r=>(r,true)
 | f+1,r=>if r.at'<s.size then
   (if (cM s tk r).2 then (if (aD s tk (cM s tk r).1).2 then dq f (aD s tk (cM s tk r).1).1 else ((aD s tk (cM s tk r).1).1,false)) else ((cM s tk r).1,false))
  else (r,true)
def iv (r:Rd S):Rd S×Bool :=
 if (aD s tk r).2 then (if (dq s tk s.size (aD s tk r).1).2 then ((dq s tk s.size (aD s tk r).1).1,decide ((dq s tk s.size (aD s tk r).1).1.opn=0)) else ((dq s tk s.size (aD s tk r).1).1,false))
 else ((aD s tk r).1,false)
end
theorem xC:du 226:=fun args w=>by simp [callFunc,Tryz.func226];rfl
theorem uv (m:Mem) (i:Int) (q:Nat) (w:World) (a:q<w.heap.size) (h:w.cell? ⟨q,0,none⟩=some (.int .i64 i)):Rt 226 #[qw m,.pointer (some ⟨q,0,none⟩)] w (.bool (m.parent == i)):=by
 unfold qw
 go_enter Tryz.func226,Tryz.ntmps226
 go_wp2_with fail;go_ret;exact ⟨by simp,by go_grown⟩
def ii (w:World) (i:Int) (T:Nat):World:=w.alloc (.cells #[.int .i64 i] T)
theorem mC (w:World) (i:Int) (T:Nat):(ii w i T).cell? ⟨w.heap.size,0,none⟩=some (.int .i64 i):=by unfold ii;simp
theorem gV (w:World) (i:Int) (T:Nat):(ii w i T).heap.size=w.heap.size+1:=by unfold ii;simp
theorem eg (w:World) (i:Int) (T:Nat):Bl w (ii w i T):=by unfold ii;go_grown
theorem o8 {M:Nat→Mem} {n k:Nat} (h:(M k).formula.size≠0):leafB M n k=false:=by simp [leafB,h]
theorem mX {M:Nat→Mem} {n k:Nat} (h:(M k).formula.size=0):leafB M n k = !decide (0≤findFrom (iJ M k) n 0):=by simp [leafB,h]
theorem xD (b o n cap i:Nat) (M:Nat→Mem) (w:World) (x:n≤12) (u:i<n) (l:b8 w b o n M):Rt 188 #[.slice (some ⟨b,o,none⟩) n cap,.int .i64 i] w (.bool (leafB M n i)):=by
 have s:=gV w i 3;have a:=eg w i 3;have r:=mC w i 3;have g:=l.later a;have c:=kh 226 w.heap.size xC b o n cap M (iJ M i) (ii w i 3) x g (fun j w' _ h=>uv (M j) i w.heap.size w' (by have:=h.size;omega) (aC h (by show w.heap.size<_;omega) r))
 have m:=aa a;obtain ⟨-,-,-,z⟩:=l.2 i u;have t:=l.1;have v:(i:Int)<(n:Int):=by omega
 have y:(n:Int)≤12:=by omega
 clear l s a r g
 by_cases d:(M i).formula.size=0
 ·have q:(M i).formula.toList.isEmpty=true:=by rw [aU];simpa using d
  have k:Hid (leafB M n i = !decide (0≤findFrom (iJ M i) n 0)):=mX d;clear d;generalize decide (0≤findFrom (iJ M i) n 0)=f at c k
  go_enter Tryz.func188,Tryz.ntmps188
  go_wp2_with fail;refine c.mono ?_;rintro e w1 ⟨rfl,p⟩;go_wp2_with fail;go_ret;exact ⟨by rw [k.out];rfl,ae m.out p⟩
 have q:(M i).formula.toList.isEmpty=false:=by rw [aU];simpa using d
 have k:Hid (leafB M n i=false):=o8 d;clear d c
 go_enter Tryz.func188,Tryz.ntmps188
 go_wp2_with fail;go_ret;exact ⟨by rw [k.out];rfl,by go_grown⟩
def bX (w:World) (A:Option Addr) (cap:Nat) (L:List Int):Prop:=L.length≤cap∧(L=[]∨∃ b,A=some ⟨b,0,none⟩∧b<w.heap.size∧∀ j,j<L.length→w.cell? ⟨b,j,none⟩=some (.int .i64 (L.getD j 0)))
theorem bX.later {w w':World} {A:Option Addr} {cap:Nat} {L:List Int} (h:bX w A cap L) (e:Bl w w'):bX w' A cap L:=by
 obtain ⟨c,a | ⟨b,a,d,f⟩⟩:=h
 ·exact ⟨c,Or.inl a⟩
 exact ⟨c,Or.inr ⟨b,a,zW d e.size,fun j g=>aC e d (f j g)⟩⟩
def aE (L:List Int):List Value:=L.map (Value.int .i64)
theorem mapI_snoc (L:List Int) (x:Int):aE (L ++ [x])=aE L ++ [Value.int .i64 x]:=by simp [aE]
theorem sy {w:World} {base e:Nat} {v:Value} {L:List Int} (h:w.ownsRow base e 1 v L.length (aE L)):∃ A cap,v=.slice A L.length cap∧bX w A cap L:=by
 rcases h.2 with ⟨rfl,b⟩ | ⟨g,cap,d,rfl,l,i,f,_,_,_⟩
 ·exact ⟨none,0,by rw [b],by omega,Or.inl (List.eq_nil_of_length_eq_zero b)⟩
 refine ⟨_,cap,rfl,f,Or.inr ⟨g,rfl,(zY i).1,fun j k=>?_⟩⟩
 have c:=h.cells (g:=g) rfl j (.int .i64 (L.getD j 0)) (by simp [aE,List.getD,zX k])
 have a:(⟨g,0,none⟩:Addr).add j=⟨g,j,none⟩:=by unfold Addr.add;split <;> simp_all
 rw [a] at c;exact c
theorem an {w w':World} {base e size:Nat} {v:Value} {n:Nat} {xs:List Value} (h:w.ownsRow base e size v n xs) (a:Bl w w'):w'.ownsRow base e size v n xs:=by
 refine ⟨h.1,?_⟩
 rcases h.2 with h0 | ⟨g,cap,cur,rfl,hb,hg,h1⟩
 ·exact Or.inl h0
 exact Or.inr ⟨g,cap,cur,rfl,hb,(a.block g (zY hg).1).trans hg,h1⟩
theorem bD {w wr w1:World} {e size n:Nat} {v:Value} {xs:List Value} {o:Obj} (c:Bl w wr) (b:wr.ownsRow w.heap.size e size v n xs) (a:(wr.alloc o).grownBy w1 v.ownBlock):Bl w w1 :=
 (c.alloc c.size o).grown a (by have:=c.size;simp;omega) (fun j d=>(b.lt j d).1)
theorem bz {wr:World} {x:Value} {T:Nat}:∀ j u,[x][j]?=some u→(wr.alloc (.cells #[x] T)).cell? ((⟨wr.heap.size,0,none⟩:Addr).add j)=some u:=by
 intro j u a
 match j,a with
 | 0,a=>simp at a;subst a;simp [Addr.add]
theorem dG {x:Int}:∀ u∈[Value.int .i64 x],u.oneCell'=true:=by intro u a;simp at a;subst a;rfl
theorem Tryz.infoInt:(Tryz.prog.info? 3).map (fun i=>(i.zero,i.size,i.bytes))=some (some (.int .i64 0),1,8):=by kernel_rfl
def nZ (fn:Nat) (x y:Int) (r:Int×Int):Prop := ∀ (w:World),Calls Tryz.prog fn #[.int .i64 x,.int .i64 y] w fun e w'=>e=.returned (.agg #[.int .i64 r.1,.int .i64 r.2])∧Bl w w'
theorem dp {W w1:World} {n:Nat} (a:Below n W w1):W.heap.size≤w1.heap.size:=a.size
theorem F6 (x y:Int) (c : -1000000000000≤x) (d:x≤1000000000000) (f : -1000000000000≤y) (g:y≤1000000000000):nZ 183 x y (eG (x+y)):=by
 intro w
 go_enter Tryz.func183,Tryz.ntmps183
 go_wp2_with (go_at_call 53;refine (jv _ _).mono ?_;rintro e w1 ⟨rfl,a⟩;obtain ⟨b,i⟩:=dk a;have h:=dp a;simp at h)
 refine bodyPost_ret (v:=.agg #[.int .i64 (eG (x+y)).1,.int .i64 (eG (x+y)).2]) (by simp [results,Tryz.results183,go_sem,b]) rfl ⟨rfl,?_⟩
 exact (((((zS).alloc (zT) _).trans (a.mono (by simp))).setCell (by simp) _).setCell (by simp) _)
theorem Cz (x y:Int) (c : -1000000000000≤x) (d:x≤1000000000000) (f : -1000000000000≤y) (g:y≤1000000000000):nZ 182 x y (eG (x-y)):=by
 intro w
 go_enter Tryz.func182,Tryz.ntmps182
 go_wp2_with (go_at_call 53;refine (jv _ _).mono ?_;rintro e w1 ⟨rfl,a⟩;obtain ⟨b,i⟩:=dk a;have h:=dp a;simp at h)
 refine bodyPost_ret (v:=.agg #[.int .i64 (eG (x-y)).1,.int .i64 (eG (x-y)).2]) (by simp [results,Tryz.results182,go_sem,b]) rfl ⟨rfl,?_⟩
 exact (((((zS).alloc (zT) _).trans (a.mono (by simp))).setCell (by simp) _).setCell (by simp) _)
def ab (n:Int):Int:=if n<0 then -n else n
theorem sf (x y:Int):ab (x*y)=ab x*ab y:=by
 unfold ab
 by_cases a:x<0 <;> by_cases b:y<0
 ·rw [if_neg (Int.not_lt.mpr (Int.le_of_lt (Int.mul_pos_of_neg_of_neg a b))),if_pos a,if_pos b,Int.neg_mul_neg]
 ·by_cases c:y=0
  ·subst c;simp
  rw [if_pos (Int.mul_neg_of_neg_of_pos a (by omega)),if_pos a,if_neg b,Int.neg_mul]
 ·by_cases c:x=0
  ·subst c;simp
  rw [if_pos (Int.mul_neg_of_pos_of_neg (by omega) b),if_neg a,if_pos b,Int.mul_neg]
 rw [if_neg (Int.not_lt.mpr (Int.mul_nonneg (by omega) (by omega))),if_neg a,if_neg b]
theorem Ee {n m:Int} (h:ab n≤m) : -m≤n∧n≤m:=by unfold ab at h;split at h <;> omega
theorem Ef {n m:Int} (h:m<ab n):n < -m∨m<n:=by unfold ab at h;split at h <;> omega
theorem oe {n m:Int} (a : -m≤n) (b:n≤m):0≤ab n∧ab n≤m:=by unfold ab;split <;> omega
theorem wm {n:Int} (h : ¬ n=0):1≤ab n:=by unfold ab;split <;> omega
theorem vQ (n:Int) (w:World) (a : -1000000000000≤n) (b:n≤1000000000000):Calls Tryz.prog 268 #[.int .i64 n] w fun e w'=>e=.returned (.int .i64 (ab n))∧w'=w:=by
 unfold ab
 by_cases h:n<0
 ·rw [if_pos h]
  go_enter Tryz.func268,Tryz.ntmps268
  go_wp2;go_ret;exact ⟨by first | rfl | (show Ending.returned (Value.int .i64 (max n (-n)))=_;congr 2;omega) | (congr 2;omega),rfl⟩
 rw [if_neg h]
 go_enter Tryz.func268,Tryz.ntmps268
 go_wp2;go_ret;exact ⟨by first | rfl | (show Ending.returned (Value.int .i64 (max n (-n)))=_;congr 2;omega) | (congr 2;omega),rfl⟩
def C9 (x y:Int):Int×Int:=if y=0 then (2,0) else eG (x.tdiv y)
theorem IP (x y:Int):ab (x.tdiv y)≤ab x:=by
 have h:=Int.natAbs_tdiv_le_natAbs x y;unfold ab
 split <;> split <;> omega
theorem Gb (x y:Int) (g : ¬ y=0):nZ 247 x y (eG (wrap64 (x.tdiv y))):=by
 intro w;have c:(y == 0)=false:=by simp;omega
 go_enter Tryz.func247,Tryz.ntmps247
 go_wp2_with (go_at_call 53;refine (jv _ _).mono ?_;rintro e w1 ⟨rfl,a⟩;obtain ⟨b,f⟩:=dk a;have d:=dp a;simp at d)
 refine bodyPost_ret (v:=.agg #[.int .i64 (eG (wrap64 (x.tdiv y))).1,.int .i64 (eG (wrap64 (x.tdiv y))).2]) (by simp [results,Tryz.results247,go_sem,b]) rfl ⟨rfl,?_⟩
 exact (((((zS).alloc (zT) _).trans (a.mono (by simp))).setCell (by simp) _).setCell (by simp) _)
theorem sX (x y:Int) (a : -1000000000000≤x) (b:x≤1000000000000):nZ 247 x y (C9 x y):=by
 unfold C9
 by_cases c:y=0
 ·subst c
  rw [if_pos rfl];intro w
  go_enter Tryz.func247,Tryz.ntmps247
  go_wp2;go_returns;exact ⟨rfl,by go_grown⟩
 rw [if_neg c];have d:=Gb x y c;have f:=Ee (Int.le_trans (IP x y) (oe a b).2);have e:wrap64 (x.tdiv y)=x.tdiv y:=by unfold wrap64;omega
 rw [e] at d;exact d
theorem vt (x y:Int) (b : -1000000000000≤x) (c:x≤1000000000000) (d : -1000000000000≤y) (f:y≤1000000000000):nZ 246 x y (eG (x*y)):=by
 intro w
 by_cases r:y=0
 ·subst r
  have n:eG (x*0)=(1,0):=by rw [Int.mul_zero];exact pt (by omega) (by omega)
  rw [n];have l:=jv 0;rw [pt (by omega) (by omega)] at l
  go_enter Tryz.func246,Tryz.ntmps246
  go_wp2_with (go_at_call 53;refine (l _).mono ?_;rintro e w1 ⟨rfl,a⟩;obtain ⟨o,t⟩:=dk a;have p:=dp a;simp at p)
  refine bodyPost_ret (v:=.agg #[.int .i64 1,.int .i64 0]) (by simp [results,Tryz.results246,go_sem,o]) rfl ⟨rfl,?_⟩
  exact (((((zS).alloc (zT) _).trans (a.mono (by simp))).setCell (by simp) _).setCell (by simp) _)
 have A:(y != 0)=true:=by simp;omega
 obtain ⟨ax0,ax1⟩:=oe b c;obtain ⟨_,ay1⟩:=oe d f;have s:=wm r;have j:=vQ x;have k:=vQ y
 by_cases q:1000000000000 / ab y<ab x
 ·have i:eG (x*y)=(2,0):=by
   refine jL (Ef (m:=1000000000000) ?_);rw [sf];exact (Int.ediv_lt_iff_lt_mul (by omega)).mp q
  rw [i]
  go_enter Tryz.func246,Tryz.ntmps246
  go_wp2_with fail;refine (j _ b c).mono ?_;rintro e w1 ⟨rfl,rfl⟩;go_wp2_with fail;refine (k _ d f).mono ?_;rintro e w1 ⟨rfl,rfl⟩;go_wp2;go_returns;exact ⟨rfl,by go_grown⟩
 have g:ab (x*y)≤1000000000000:=by
  rw [sf];exact Int.not_lt.mp (fun h=>q ((Int.ediv_lt_iff_lt_mul (by omega)).mpr h))
 obtain ⟨u,z⟩:=Ee g;have l:=jv (x*y);clear g
 go_enter Tryz.func246,Tryz.ntmps246
 go_wp2_with fail;refine (j _ b c).mono ?_;rintro e w1 ⟨rfl,rfl⟩;go_wp2_with fail;refine (k _ d f).mono ?_;rintro e w1 ⟨rfl,rfl⟩;go_wp2_with fail;refine (l _).mono ?_;rintro e w1 ⟨rfl,a⟩;obtain ⟨o,t⟩:=dk a;have p:=dp a
 simp at p
 go_wp2_with fail;refine bodyPost_ret (v:=.agg #[.int .i64 (eG (x*y)).1,.int .i64 (eG (x*y)).2]) (by simp [results,Tryz.results246,go_sem,o]) rfl ⟨rfl,?_⟩
 exact (((((zS).alloc (zT) _).trans (a.mono (by simp))).setCell (by simp) _).setCell (by simp) _)
theorem Er (s:ByteArray) (k:Nat) (h:k<s.size):byteN s k=(s[k].toNat:Int):=by
 unfold byteN;rw [List.getD,zX (by simpa using h)]
 rfl
theorem mH (s:ByteArray) (w:World):Calls Tryz.prog 112 #[.string s] w fun e w'=>e=.returned (.int .i64 (aP s))∧w'=w:=by
 by_cases c:s.size<1
 ·rw [fH (Or.inl c)]
  have p:s.toList.isEmpty=true:=by rw [aU];simpa using (by omega:s.size=0)
  clear c
  go_enter Tryz.func112,Tryz.ntmps112
  go_wp2;go_ret;exact ⟨rfl,rfl⟩
 have u:s.toList.isEmpty=false:=by rw [aU];simpa using (by omega : ¬ s.size=0)
 by_cases p:8<s.size
 ·rw [fH (Or.inr p)]
  have i:8<(s.size:Int):=by omega
  clear c
  go_enter Tryz.func112,Tryz.ntmps112
  go_wp2;go_ret;exact ⟨rfl,rfl⟩
 have i:(s.size:Int)≤8:=by omega
 have f:Hid (aP s=if 0≤findFrom (dd s) s.size 0 then 2 else 0):=km (by omega) (by omega)
 clear c
 go_enter Tryz.func112,Tryz.ntmps112
 go_wp2
 go_loopg [3] s.size (fun g s3 wr => ∃ k:Nat,k≤s.size∧g=s.size-k∧s3=.int .i64 k∧findFrom (dd s) (s.size-k) k=findFrom (dd s) s.size 0∧wr=w)
 case atStart=>exact ⟨0,zU,rfl,rfl,rfl,rfl⟩
 case round =>
  obtain ⟨k,v,rfl,rfl,d,rfl⟩:=hrel
  by_cases n:k<s.size
  ·have b:=aa d
   have a:s.size-k=(s.size-(k+1))+1:=by omega
   have m:(k:Int)<(s.size:Int):=by omega
   have o:=Er s k n;have h:=aa o;clear d o
   by_cases r:(s[k].toNat:Int)<97
   ·go_wp2
    go_ret;have j:dd s k=true:=by unfold dd wn;rw [h.out];simp [r]
    exact ⟨by rw [f.out,←b.out,a,bu _ j,if_pos (by omega)];rfl,rfl⟩
   by_cases t:122<(s[k].toNat:Int)
   ·go_wp2
    go_ret;have j:dd s k=true:=by unfold dd wn;rw [h.out];simp [t]
    exact ⟨by rw [f.out,←b.out,a,bu _ j,if_pos (by omega)];rfl,rfl⟩
   have q:Hid (dd s k=false):=by show dd s k=false;unfold dd wn;rw [h.out];simp;omega
   go_wp2
   go_roundg (s.size-(k+1))
   case measure=>omega
   case rel=>exact ⟨k+1,by omega,rfl,by go_num,by rw [←b.out,a,be _ q.out],rfl⟩
  have l:k=s.size:=by omega
  have b:=aa d;have m:(s.size:Int)≤(k:Int):=by omega
  clear d;go_wp2;go_ret;exact ⟨by rw [f.out,←b.out,l,Nat.sub_self];rfl,rfl⟩
theorem mP (d:Dm) (A:Option Addr) (cap:Nat) (s:ByteArray) (w:World) (G:d.n≤12) (t:eh w A cap d.n d.mem):Rt 63 #[cQ d A cap,.string s] w (.int .i64 (findFrom (fun j=>same (d.mem j).name s) d.n 0)):=by
 have z:=aa t;clear t;unfold cQ;have C:(d.n:Int)≤12:=by omega
 have u:=bg w d A cap 70;have e:=aT w d A cap 70;have c:=(dO w d A cap 70).2.2;obtain ⟨W,m⟩:∃ W,W=aL w d A cap 70:=⟨_,rfl⟩;rw [←m] at e u c;have B:=aa m;have y:=aa c;have a:=aa e;have D:w.heap.size<W.heap.size:=by omega
 clear m c e u
 go_enter Tryz.func63,Tryz.ntmps63
 go_wp2_with fail
 go_loopg [5] d.n (fun g s5 wr => ∃ k:Nat,k≤d.n∧g=d.n-k∧s5=.int .i64 k∧findFrom (fun j=>same (d.mem j).name s) (d.n-k) k=findFrom (fun j=>same (d.mem j).name s) d.n 0∧wr=W)
 case atStart=>exact ⟨0,zU,rfl,rfl,rfl,by rw [B.out];rfl⟩
 case round =>
  obtain ⟨k,F,rfl,rfl,x,rfl⟩:=hrel;have i:=aa x;have c2:=y.out;clear x
  by_cases r:k<d.n
  ·obtain ⟨v,E | ⟨b,o,rfl,f⟩⟩:=z.out.later a.out
   ·omega
   obtain ⟨n0,-,-,-⟩:=f.2 k r;have q:(k:Int)<(d.n:Int):=by omega
   have h:d.n-k=(d.n-(k+1))+1:=by omega
   clear f;cases hq:((d.mem k).name.toList == s.toList)
   ·have l:=aa hq
    go_wp2_with fail
    go_roundg (d.n-(k+1))
    case measure=>omega
    case rel=>exact ⟨k+1,by omega,rfl,by go_num,by rw [←i.out,h,be _ l.out],rfl⟩
   have l:=aa hq;go_wp2_with fail;go_ret;exact ⟨by rw [←i.out,h,bu _ l.out];rfl,a.out⟩
  have p:k=d.n:=by omega
  have q:(d.n:Int)≤(k:Int):=by omega
  go_wp2_with fail;go_ret;exact ⟨by rw [←i.out,p,Nat.sub_self];rfl,a.out⟩
theorem yw {H:Type} {enc:TypeId×Value→H} {P:Program} {f:Func} {s:ChangeSpec} {apart d a:Bool} {W W':World} {args:Array Value} {v:Value} {i gs:List (DataW H)} {before pa pv:List MemPlace}
  (m:DataW.Whole enc P f.params.toList s.vars apart W args.toList i gs before)
  (k:∀ (b:Nat) (sp:Nat→Bool) (n:Bool),DataW.TrodAll enc P W' b sp n f.resultTypes.toList (v.resultList f.resultTypes.size) (s.fn H (i ++ gs)).results [])
  (e:∀ sp:Nat→Bool,(∀ p∈before,sp p.block=true)→DataW.TrodAll enc P W' 0 sp true f.params.toList args.toList (s.fn H (i ++ gs)).args pa)
  (g:∀ sp:Nat→Bool,(∀ p∈before,sp p.block=true)→DataW.TrodVars enc P W' sp s.vars (s.fn H (i ++ gs)).vars pv)
  (l:before=pa ++ pv) (o:W.keptBut W' (·∈before)) :
  s.post enc P f apart d a false W args v W':=by
 have c:∀ p∈before,(fun b=>decide (b<W.heap.size)) p.block=true:=fun p j=>by simpa using m.lt p j
 refine ⟨i,gs,before,[],pa,pv,m,k _ _ _,e _ c,g _ c,World.keptBut_mono (fun p j=>⟨j,?_⟩) o,fun h=>by cases h⟩
 rw [l,List.mem_append] at j;exact Or.inr j
end Go.Proofs.YtohgnbgamfepoaaGreatDoor
