/-
  What Leaf of package place answers, called in whatever memory: whether a place is of leafs, or what is wrong.
-/
import Derived.Laws.CopyRow
import Derived.Laws.CopyOwn
import Derived.Laws.IdiomCopy
import Derived.Deep.CutBlock
import Derived.Shelf.Pu.Clone
import Derived.Test.YthlhjjabkgpenaaGreatDoorJTAF
set_option maxHeartbeats 64000000
namespace Go.Proofs.YthlhjjabkgpenaaGreatDoor
open Go.ChangeShapes Go.WideShapes Go.ChangeAt Go.RowKit
set_option maxRecDepth 20000
def fK (D:Nat→Dm) (L:List Int) (i:Nat):Bool := !leafB (D i).mem (D i).n (L.getD i 0).toNat
def leafV (D:Nat→Dm) (n:Nat) (L:List Int):Bool:=if placeErr D n L=0 then !decide (0≤findFrom (fK D L) n 0) else false
theorem Bz:dG 171:=fun args w=>by simp [callFunc,Tryz.func171];rfl
theorem wU (b o n cap k q r bp op p X:Nat) (D:Nat→Dm) (A:Nat→Option Addr) (C:Nat→Nat) (w:World) (s:k<n) (E:n≤4) (m:(au (D k)).2=0) (B:X<(D k).n) (l:eR w b o n D A C) (H:w.cell? ⟨bp,op+k,none⟩=some (.int .i64 X)) (F:w.cell? ⟨q,0,none⟩=some (.slice (some ⟨b,o,none⟩) n cap)) (G:w.cell? ⟨r,0,none⟩=some (.slice (some ⟨bp,op,none⟩) n p)) :
  Rt 171 #[.int .i64 k,.pointer (some ⟨q,0,none⟩),.pointer (some ⟨r,0,none⟩)] w (.bool (!leafB (D k).mem (D k).n X)):=by
 obtain ⟨v,x,z,j⟩:=l.2 k s;have t:(k:Int)<(n:Int):=by omega
 have u:(n:Int)≤4:=by omega
 have a:treeErr (D k) [(X:Int)]=0:=by rw [gt m,if_neg (by omega)]
 have f:rC (D k) (X:Int)=leafB (D k).mem (D k).n X:=by simp [rC,a]
 have c:Hid (∀ w',Bl w w'→Rt 169 #[.agg #[.string (D k).name,.int .i64 (D k).solve,.slice (A k) (D k).n (C k)],.int .i64 X] w' (.tuple #[.bool (leafB (D k).mem (D k).n X),.nilIface])):=fun w' i=>by
  have h:=qW (D k) (A k) (C k) X w' (j.later i);rw [a,f,errV_zero] at h;exact h
 generalize leafB (D k).mem (D k).n X=y at c;clear l j a f m
 go_enter Tryz.func171,Tryz.ntmps171
 go_wp2_with fail
 go_region_law ((go_simp;refine (c.out _ (by go_grown)).mono ?_;rintro e w2 ⟨rfl,d⟩;have g:=ae (W0:=w) (by go_grown) d;clear d))
 all_goals go_wp2_with fail
 all_goals go_ret
 all_goals exact ⟨rfl,g⟩
theorem BA (A0:Option Addr) (cap n:Nat) (D:Nat→Dm) (A:Nat→Option Addr) (C:Nat→Nat) (Ap:Option Addr) (q:Nat) (L:List Int) (w:World) (F:bd w A0 cap n D A C) (G:aO w Ap q L):Rt 143 #[.agg #[.slice A0 n cap],.slice Ap L.length q] w (.tuple #[.bool (leafV D n L),errV (placeErr D n L)]):=by
 have g:=mc w A0 n cap Ap L.length q 24 27;have h:=kj A0 cap n D A C Ap q L (jO w A0 n cap Ap L.length q 24 27) (F.later g) (G.later g);have f:=aa g;have P:=aa F;have Q:=aa G;clear F g G
 by_cases i:placeErr D n L=0
 ·have s:Hid (InO D n L):=iw i
  have B:Hid (leafV D n L = !decide (0≤findFrom (fK D L) n 0)):=by show _=_;unfold leafV;rw [if_pos i]
  have z:Hid (errV (placeErr D n L)=.nilIface):=by show _=_;rw [i];rfl
  rw [i,errV_zero] at h;obtain ⟨V,x,-,-⟩:=aw s.out.right;have U:(n:Int)≤4:=by omega
  have v:=s.out.len;obtain ⟨J,K | ⟨bp,op,rfl,I,d⟩⟩:=Q.out
  ·rw [K] at v;simp at v;omega
  rw [v] at h f;rw [v];have O:Hid (∀ j,j<n→w.cell? ⟨bp,op+j,none⟩=some (.int .i64 (L.getD j 0))):=fun j r=>d j (by omega)
  clear i v d J
  go_enter Tryz.func143,Tryz.ntmps143
  go_wp2_with fail;refine h.mono ?_;rintro e w1 ⟨rfl,a⟩;have E:Bl w w1:=ae f.out a;have Y:w.heap.size+1<w1.heap.size:=by have:=a.size;rw [dK] at this;omega
  have W:w1.cell? ⟨w.heap.size,0,none⟩=some (.slice A0 n cap):=aL a (by show w.heap.size<_;rw [dK];omega) (rQ ..)
  have X:w1.cell? ⟨w.heap.size+1,0,none⟩=some (.slice (some ⟨bp,op,none⟩) n q):=aL a (by show w.heap.size+1<_;rw [dK];omega) (rR ..)
  obtain ⟨M,K | ⟨b,o,rfl,t⟩⟩:=P.out.later E
  ·omega
  have l:=m8 171 w.heap.size (w.heap.size+1) Bz (some ⟨b,o,none⟩) n cap (fK D L) w1 x (fun j w' r k=>by
   have T:=s.out.lo j r;have S:=s.out.hi j r;have R:L.getD j 0=((L.getD j 0).toNat:Int):=by omega
   have u:=((ae E k).cell (p:=⟨bp,op+j,none⟩) I).trans (O.out j r);rw [R] at u;exact wU b o n cap j w.heap.size (w.heap.size+1) bp op q (L.getD j 0).toNat D A C w' r x ((eA s.out.right).2 j r) (by omega) (t.later k) u (aL k (by show w.heap.size<_;omega) W) (aL k Y X))
  have N:=aa E;generalize decide (0≤findFrom (fK D L) n 0)=y at l B;clear a h t E;go_wp2_with fail;refine l.mono ?_;rintro e w2 ⟨rfl,H⟩;go_wp2_with fail
  go_ret2
  rw [B.out,z.out];exact ⟨rfl,ae N.out H⟩
 have B:Hid (leafV D n L=false):=by show _=_;unfold leafV;rw [if_neg i]
 have z:Hid (errV (placeErr D n L)=.iface 68 (.int .i64 (placeErr D n L))):=aj i;rw [aj i] at h;clear i;generalize placeErr D n L=c at h z;generalize L.length=m at h f
 go_enter Tryz.func143,Tryz.ntmps143
 go_wp2_with fail;refine h.mono ?_;rintro e w1 ⟨rfl,a⟩;go_wp2_with fail
 go_ret2
 rw [B.out,z.out];exact ⟨rfl,ae f.out a⟩
end Go.Proofs.YthlhjjabkgpenaaGreatDoor
namespace Go.Proofs.YthlhjjabkgpenaaGreatDoor
def lessL:List Int→List Int→Bool
 | [],[]=>false
 | [],_ :: _=>true
 | _ :: _,[]=>false
 | a :: r,b :: t=>if a=b then lessL r t else decide (a<b)
theorem fY (a:List Int):lessL a a=false:=by
 induction a with
 | nil=>rfl
 | cons x r ih=>simp [lessL,ih]
theorem iU:∀ (a b c:List Int),lessL a b=true→lessL b c=true→lessL a c=true
 | [],[],_,h,_=>by simp [lessL] at h
 | [],_ :: _,[],_,h=>by simp [lessL] at h
 | [],_ :: _,_ :: _,_,_=>rfl
 | _ :: _,[],_,h,_=>by simp [lessL] at h
 | _ :: _,_ :: _,[],_,h=>by simp [lessL] at h
 | x :: r,y :: t,z :: u,h1,h2=>by
  simp only [lessL] at h1 h2 ⊢
  by_cases e:x=y
  ·by_cases d:y=z
   ·rw [if_pos e] at h1
    rw [if_pos d] at h2;rw [if_pos (e.trans d)];exact iU r t u h1 h2
   rw [if_neg d] at h2;rw [if_neg (by rw [e];exact d),e]
   exact h2
  rw [if_neg e] at h1;have f:=of_decide_eq_true h1
  by_cases d:y=z
  ·rw [if_neg (by rw [←d];exact e),←d]
   exact h1
  rw [if_neg d] at h2;have g:=of_decide_eq_true h2;rw [if_neg (by omega)]
  exact decide_eq_true (by omega)
theorem lessL_total:∀ (a b:List Int),a≠b→lessL a b=true∨lessL b a=true
 | [],[],h=>absurd rfl h
 | [],_ :: _,_=>Or.inl rfl
 | _ :: _,[],_=>Or.inr rfl
 | x :: r,y :: t,h=>by
  simp only [lessL]
  by_cases e:x=y
  ·rw [if_pos e,if_pos e.symm]
   exact lessL_total r t fun c=>h (by rw [e,c])
  rw [if_neg e,if_neg fun c=>e c.symm]
  rcases Int.lt_or_gt_of_ne e with c | c
  ·exact Or.inl (decide_eq_true c)
  exact Or.inr (decide_eq_true c)
theorem DN {a b:List Int} (c:lessL a b=false) (d:lessL b a=false):a=b :=
 Decidable.byContradiction fun e=>by
  rcases lessL_total a b e with h | h
  ·rw [h] at c;cases c
  rw [h] at d;cases d
theorem nQ:∀ (a b:List Int),a.length=b.length→lessL a b=true→∃ j,j<a.length∧(∀ i,i<j→a.getD i 0=b.getD i 0)∧a.getD j 0<b.getD j 0
 | [],[],_,h=>by simp [lessL] at h
 | [],_ :: _,h,_=>by simp at h
 | _ :: _,[],h,_=>by simp at h
 | x :: r,y :: t,hl,h=>by
  simp only [lessL] at h
  by_cases e:x=y
  ·rw [if_pos e] at h
   obtain ⟨j,c,d,f⟩:=nQ r t (by simpa using hl) h
   refine ⟨j+1,by simpa using c,fun i g=>?_,by simpa using f⟩
   cases i with
   | zero=>simpa using e
   | succ i=>simpa using d i (by omega)
  rw [if_neg e] at h;exact ⟨0,by simp,fun i g=>by omega,by simpa using of_decide_eq_true h⟩
theorem tH {D:Nat→Dm} {n:Nat} {a b:List Int} (c:InO D n a) (d:InO D n b) (h:lessL a b=true):numI D a n<numI D b n:=by
 obtain ⟨j,f,o,r⟩:=nQ a b (by rw [c.len,d.len]) h
 rw [c.len] at f;have g:∀ k,k≤j→numI D a k=numI D b k:=by
  intro k
  induction k with
  | zero=>intro _;rfl
  | succ k ih=>intro q;rw [numI,numI,ih (by omega),o k (by omega)]
 have i:∀ k,j<k→k≤n→numI D a k+1≤numI D b k:=by
  intro k
  induction k with
  | zero=>intro h;omega
  | succ k ih =>
   intro p q;rw [numI,numI];have s:=c.hi k (by omega)
   have t:=d.lo k (by omega)
   by_cases e:k=j
   ·rw [g k (by omega),e];omega
   have l:=ih (by omega) (by omega)
   have m:(numI D a k+1)*((D k).n:Int)≤numI D b k*((D k).n:Int):=Int.mul_le_mul_of_nonneg_right l (by omega)
   rw [Int.add_mul,Int.one_mul] at m
   omega
 exact i n f (zT)
structure En where
 pl:List Int
 n:Int
def fk (x:Int):Bool:=decide (-1000000≤x) && decide (x≤1000000)
def entOne (D:Nat→Dm) (n:Nat) (e:En):Int:=if shapeErr D n e.pl≠0 then shapeErr D n e.pl else if leafV D n e.pl=false then 6 else if fk e.n=false then 1 else 0
def aheadOk:Option (List Int)→List Int→Bool
 | none,_=>true
 | some a,b=>lessL a b
def aV (D:Nat→Dm) (n:Nat):Option (List Int)→List En→Int
 | _,[]=>0
 | q,e :: r=>if entOne D n e≠0 then entOne D n e else if aheadOk q e.pl=true then aV D n (some e.pl) r else 7
def entsErr (D:Nat→Dm) (n:Nat) (l:List En):Int:=if (ah D n).2.2≠0 then (ah D n).2.2 else aV D n none l
structure Ens (D:Nat→Dm) (n:Nat) (l:List En):Prop where
 right:(ah D n).2.2=0
 each:∀ e∈l,InO D n e.pl∧leafV D n e.pl=true∧fk e.n=true
 rise:l.Pairwise fun a b=>lessL a.pl b.pl=true
theorem eE {D:Nat→Dm} {n:Nat} {e:En} (a:(ah D n).2.2=0) (h:entOne D n e=0):InO D n e.pl∧leafV D n e.pl=true∧fk e.n=true:=by
 unfold entOne at h
 split at h
 ·rename_i h1;exact absurd h h1
 split at h
 ·cases h
 split at h
 ·cases h
 rename_i h1 h2 h3
 exact ⟨iw (by rw [Hd a];simpa using h1),by simpa using h2,by simpa using h3⟩
theorem jK {D:Nat→Dm} {n:Nat} (i:(ah D n).2.2=0):∀ (l:List En) (q:Option (List Int)),aV D n q l=0→(∀ e∈l,InO D n e.pl∧leafV D n e.pl=true∧fk e.n=true)∧(∀ a,q=some a→∀ e∈l,lessL a e.pl=true)∧l.Pairwise fun a b=>lessL a.pl b.pl=true
 | [],_,_=>⟨fun _ h=>(by cases h),fun _ _ _ h=>(by cases h),List.Pairwise.nil⟩
 | e :: r,q,h=>by
  rw [aV] at h
  by_cases d:entOne D n e=0
  ·rw [if_neg (by simpa using d)] at h
   have k:∀ (g:aV D n (some e.pl) r=0) (f:∀ a,q=some a→lessL a e.pl=true),(∀ x∈e :: r,InO D n x.pl∧leafV D n x.pl=true∧fk x.n=true)∧(∀ a,q=some a→∀ x∈e :: r,lessL a x.pl=true)∧(e :: r).Pairwise fun a b=>lessL a.pl b.pl=true:=fun g f=>by
    obtain ⟨g1,g2,g3⟩:=jK i r _ g;refine ⟨fun x c=>?_,fun a j x c=>?_,List.Pairwise.cons (fun x c=>g2 _ rfl x c) g3⟩
    ·rcases List.mem_cons.1 c with rfl | c
     ·exact eE i d
     exact g1 x c
    rcases List.mem_cons.1 c with rfl | c
    ·exact f a j
    exact iU _ _ _ (f a j) (g2 _ rfl x c)
   split at h
   ·rename_i h4
    exact k h fun b m=>by rw [m] at h4;exact h4
   cases h
  rw [if_pos (by simpa using d)] at h
  exact absurd h d
theorem vB {D:Nat→Dm} {n:Nat} {l:List En} (h:entsErr D n l=0):Ens D n l:=by
 unfold entsErr at h
 split at h
 ·rename_i h1;exact absurd h h1
 rename_i h1
 have a:(ah D n).2.2=0:=by simpa using h1
 obtain ⟨g1,_,g3⟩:=jK a l none h;exact ⟨a,g1,g3⟩
theorem Ens.few {D:Nat→Dm} {n:Nat} {l:List En} (h:Ens D n l):l.length≤3000:=by
 have u:=(aw h.right).2.2.1;have g:∀ (m:List En) (lo:Int),(∀ e∈m,InO D n e.pl)→(m.Pairwise fun a b=>lessL a.pl b.pl=true)→(∀ e∈m,lo≤numI D e.pl n)→0≤lo→lo≤(prodN D n:Int)→lo+(m.length:Int)≤(prodN D n:Int):=by
  intro m
  induction m with
  | nil=>intro lo _ _ _ _ i;simpa using i
  | cons e r ih =>
   intro lo f j k q i;obtain ⟨o,p⟩:=List.pairwise_cons.1 j;have c:=f e (List.mem_cons_self ..);have s:=k e (List.mem_cons_self ..);have t:=(bJ c (Nat.le_refl n)).2.1;have:=ih (numI D e.pl n+1) (fun x d=>f x (List.mem_cons_of_mem _ d)) p (fun x d=>by have:=tH c (f x (List.mem_cons_of_mem _ d)) (o x d);omega) (by omega) (by omega)
   rw [List.length_cons]
   omega
 have:=g l 0 (fun e c=>(h.each e c).1) h.rise (fun e c=>(bJ (h.each e c).1 (Nat.le_refl n)).1) (Int.le_refl _) (by omega)
 omega
def cntE (l:List En) (p:List Int):Nat:=(l.takeWhile fun e=>lessL e.pl p).length
def hasE (l:List En) (p:List Int):Bool:=match l.drop (cntE l p) with
 | []=>false
 | e :: _ => !lessL p e.pl
def getE (l:List En) (p:List Int):Int×Int:=match l.drop (cntE l p) with
 | []=>(0,0)
 | e :: _=>if lessL p e.pl=true then (0,0) else (1,e.n)
def Kt (l:List En) (p:List Int) (x:Int):List En:=l.take (cntE l p) ++ ⟨p,x⟩ :: l.drop (cntE l p+(if hasE l p=true then 1 else 0))
theorem nw {α:Type} (q:α→Bool) (l:List α):l.drop (l.takeWhile q).length=l.dropWhile q:=by
 induction l with
 | nil=>rfl
 | cons x r ih =>
  by_cases h:q x=true
  ·rw [List.takeWhile_cons,List.dropWhile_cons,if_pos h,if_pos h,List.length_cons,List.drop_succ_cons,ih]
  rw [List.takeWhile_cons,List.dropWhile_cons,if_neg h,if_neg h];rfl
theorem xI {α:Type} (q:α→Bool) (l:List α):l.take (l.takeWhile q).length=l.takeWhile q:=by
 induction l with
 | nil=>rfl
 | cons x r ih =>
  by_cases h:q x=true
  ·rw [List.takeWhile_cons,if_pos h,List.length_cons,List.take_succ_cons,ih]
  rw [List.takeWhile_cons,if_neg h];rfl
theorem AZ {α:Type} {q:α→Bool} {l:List α} {x:α} (h:x∈l.takeWhile q):q x=true:=by
 induction l with
 | nil=>cases h
 | cons y r ih =>
  by_cases a:q y=true
  ·rw [List.takeWhile_cons,if_pos a] at h
   rcases List.mem_cons.1 h with rfl | h
   ·exact a
   exact ih h
  rw [List.takeWhile_cons,if_neg a] at h;cases h
theorem nL {α:Type} {q:α→Bool} {l r:List α} {x:α} (h:l.dropWhile q=x :: r):q x=false:=by
 induction l with
 | nil=>cases h
 | cons y t ih =>
  by_cases a:q y=true
  ·rw [List.dropWhile_cons,if_pos a] at h;exact ih h
  rw [List.dropWhile_cons,if_neg a] at h;cases h
  simpa using a
theorem sW {l:List En} (h:l.Pairwise fun a b=>lessL a.pl b.pl=true) (p:List Int) :
  ∃ A B,l.take (cntE l p)=A∧(∀ e∈A,lessL e.pl p=true)∧(∀ e∈B,lessL p e.pl=true) ∧
   ((hasE l p=false∧l.drop (cntE l p)=B∧l=A ++ B∧getE l p=(0,0))∨∃ x,hasE l p=true∧l.drop (cntE l p)=⟨p,x⟩ :: B∧l=A ++ ⟨p,x⟩ :: B∧getE l p=(1,x)):=by
 have s:l.take (cntE l p)=l.takeWhile fun e=>lessL e.pl p:=xI _ _
 have t:l.drop (cntE l p)=l.dropWhile fun e=>lessL e.pl p:=nw _ _
 have i:l.take (cntE l p) ++ l.drop (cntE l p)=l:=List.take_append_drop _ _;have j:∀ e∈l.take (cntE l p),lessL e.pl p=true:=fun e c=>by rw [s] at c;exact AZ (q:=fun e:En=>lessL e.pl p) c
 cases hd:l.drop (cntE l p) with
 | nil =>
  refine ⟨_,[],rfl,j,fun _ h=>(by cases h),Or.inl ⟨?_,rfl,?_,?_⟩⟩
  ·unfold hasE;rw [hd]
  ·conv=>lhs;rw [←i,hd]
  unfold getE;rw [hd]
 | cons x r =>
  have u:lessL x.pl p=false:=by rw [t] at hd;exact nL (q:=fun e:En=>lessL e.pl p) hd
  have m:(x :: r).Pairwise fun a b=>lessL a.pl b.pl=true:=by rw [←hd];exact h.sublist (List.drop_sublist _ _)
  obtain ⟨o,_⟩:=List.pairwise_cons.1 m
  by_cases f:lessL p x.pl=true
  ·refine ⟨_,x :: r,rfl,j,fun e c=>?_,Or.inl ⟨?_,rfl,?_,?_⟩⟩
   ·rcases List.mem_cons.1 c with rfl | c
    ·exact f
    exact iU _ _ _ f (o e c)
   ·unfold hasE;rw [hd];simp [f]
   ·conv=>lhs;rw [←i,hd]
   unfold getE;rw [hd];simp [f]
  have d:lessL p x.pl=false:=by simpa using f
  have k:x.pl=p:=DN u d;have g:x=⟨p,x.n⟩:=by cases x;simp at k ⊢;exact k
  refine ⟨_,r,rfl,j,fun e c=>by rw [←k];exact o e c,Or.inr ⟨x.n,?_,?_,?_,?_⟩⟩
  ·unfold hasE;rw [hd];simp [d]
  ·rw [←g]
  ·conv=>lhs;rw [←i,hd]
   rw [←g]
  unfold getE;rw [hd];simp [d]
theorem F3 {l:List En} (h:l.Pairwise fun a b=>lessL a.pl b.pl=true) {e:En} (d:e∈l):getE l e.pl=(1,e.n):=by
 obtain ⟨A,B,_,g,i,⟨_,_,f,_⟩ | ⟨x,_,_,f,j⟩⟩:=sW h e.pl
 ·rw [f] at d
  rcases List.mem_append.1 d with c | c
  ·have:=g e c;rw [fY] at this;cases this
  have:=i e c;rw [fY] at this;cases this
 rw [j];have c:e=⟨e.pl,x⟩:=by
  rw [f] at d
  rcases List.mem_append.1 d with c | c
  ·have:=g e c;rw [fY] at this;cases this
  rcases List.mem_cons.1 c with h5 | h5
  ·exact h5
  have:=i e h5;rw [fY] at this;cases this
 rw [c]
theorem DB {l:List En} (h:l.Pairwise fun a b=>lessL a.pl b.pl=true) {p:List Int} (g:∀ e∈l,e.pl≠p):getE l p=(0,0)∧hasE l p=false:=by
 obtain ⟨A,B,_,_,_,⟨c,_,_,f⟩ | ⟨x,_,_,d,_⟩⟩:=sW h p
 ·exact ⟨f,c⟩
 exact absurd rfl (g ⟨p,x⟩ (by rw [d];simp))
end Go.Proofs.YthlhjjabkgpenaaGreatDoor
namespace Go.Proofs.YthlhjjabkgpenaaGreatDoor
open Go Go.ChangeShapes Go.WideShapes Go.ChangeAt Go.RowKit Go.Deep
set_option maxRecDepth 100000
structure EnL where
 e:En
 A:Option Addr
 c:Nat
def noEn:En:=⟨[],0⟩
def noL:EnL:=⟨noEn,none,0⟩
def lE (xs:List EnL):List En:=xs.map EnL.e
theorem dF (a:List EnL):(lE a).length=a.length:=by simp [lE]
theorem lE_at (a:List EnL) (k:Nat):(lE a).getD k noEn=(a.getD k noL).e:=by
 rw [zZ,zZ,lE,List.getElem?_map];cases a[k]? <;> rfl
def gx:List EnL→List Value
 | []=>[]
 | x :: r=>.slice x.A x.e.pl.length x.c :: .int .i64 x.e.n :: gx r
theorem vj (a:List EnL):(gx a).length=a.length*2:=by
 induction a with
 | nil=>rfl
 | cons x r ih=>simp [gx,ih];omega
theorem pU (a:List EnL):∀ k,k<a.length→(gx a)[k*2]?=some (.slice (a.getD k noL).A (a.getD k noL).e.pl.length (a.getD k noL).c)∧(gx a)[k*2+1]?=some (.int .i64 (a.getD k noL).e.n):=by
 induction a with
 | nil=>intro k b;cases b
 | cons x r ih =>
  intro k b;cases k with
  | zero=>simp [gx]
  | succ k =>
   rw [show (k+1)*2=k*2+1+1 by omega]
   simp only [gx,List.getElem?_cons_succ,List.getD_cons_succ];exact ih k (by simpa using b)
theorem ru {a:List EnL} {k:Nat} (h:k<a.length):a.getD k noL∈a:=by
 rw [zZ,zX h];exact List.getElem_mem h
def lO (w:World) (b o:Nat) (xs:List EnL):Prop:=b<w.heap.size∧(∀ j u,(gx xs)[j]?=some u→w.cell? ⟨b,o+j,none⟩=some u)∧∀ x∈xs,aO w x.A x.c x.e.pl
theorem lO.later {w w':World} {b o:Nat} {c:List EnL} (h:lO w b o c) (a:Bl w w'):lO w' b o c :=
 ⟨zW h.1 a.size,fun j u d=>aL a h.1 (h.2.1 j u d),fun x e=>(h.2.2 x e).later a⟩
theorem lO.pl {w:World} {b o:Nat} {a:List EnL} (h:lO w b o a) {k:Nat} (d:k<a.length):aO w (a.getD k noL).A (a.getD k noL).c (a.getD k noL).e.pl:=h.2.2 _ (ru d)
theorem lO.at {w:World} {b o:Nat} {a:List EnL} (h:lO w b o a) {k:Nat} (g:k<a.length):w.cell? ⟨b,o+k*2,none⟩=some (.slice (a.getD k noL).A (a.getD k noL).e.pl.length (a.getD k noL).c)∧w.cell? ⟨b,o+k*2+1,none⟩=some (.int .i64 (a.getD k noL).e.n):=by
 obtain ⟨d,f⟩:=pU a k g;exact ⟨h.2.1 _ _ d,by rw [Nat.add_assoc];exact h.2.1 _ _ f⟩
def ii (w:World) (A:Option Addr) (cap:Nat) (xs:List EnL):Prop:=xs.length≤cap∧cap≤9223372036854775807∧(xs=[]∨∃ b o,A=some ⟨b,o,none⟩∧lO w b o xs)
theorem ii.later {w w':World} {A:Option Addr} {cap:Nat} {e:List EnL} (h:ii w A cap e) (g:Bl w w'):ii w' A cap e:=by
 obtain ⟨d,c,a | ⟨b,o,a,f⟩⟩:=h
 ·exact ⟨d,c,Or.inl a⟩
 exact ⟨d,c,Or.inr ⟨b,o,a,f.later g⟩⟩
section
variable {H:Type} {enc:TypeId×Value→H} {w:World} {held:Bool}
theorem yp:Tryz.prog.cellsOf 93=2:=by kernel_rfl
theorem Gx {fuel:Nat} {cs:List Value} {x:DataW H×List MemPlace} (h:DataW.trod enc Tryz.prog w 0 (fun _=>true) held fuel 27 cs=some x) :
  ∃ (Ap:Option Addr) (c:Nat) (L:List Int),cs=[.slice Ap L.length c]∧aO w Ap c L:=by
 rcases open_ints Tryz.underlying27 Tryz.underlying3 (by kernel_rfl) h with ⟨rfl,_⟩ | ⟨a',len,cap,zs,rfl,_,i,_,b,_,d,_⟩
 ·exact ⟨none,0,[],rfl,aO.nil _ _ _⟩
 simp at b
 have a:(zs.take len).length=len:=by simp;omega
 refine ⟨some a',cap,zs.take len,by rw [a],by rw [a];exact i,?_⟩
 rcases Nat.eq_zero_or_pos len with h0 | h0
 ·left
  subst h0
  simp
 right
 have c0:=d 0 (by omega)
 have f:=dJ c0 rfl;have g:=World.block_lt_of_cell? _ _ c0;refine ⟨a'.block,a'.off,by rw [←f],by simpa [Addr.add] using g,fun j e=>?_⟩
 rw [a] at e;have:=d j (by omega)
 rw [f,bS] at this;rw [this]
 simp [List.getD,e]
theorem Gw {fuel:Nat} {cs:List Value} {x:DataW H×List MemPlace} (h:DataW.trod enc Tryz.prog w 0 (fun _=>true) held fuel 93 cs=some x) :
  ∃ (e:En) (A:Option Addr) (c:Nat),cs=[.slice A e.pl.length c,.int .i64 e.n]∧aO w A c e.pl:=by
 obtain ⟨f,n,d⟩:=jd Tryz.underlying93 (by kernel_rfl) h
 rw [yp] at f
 match cs,f with
 | [v0,v1],_ =>
  obtain ⟨k,g⟩:=d 0 _ v0 rfl rfl;obtain ⟨l,i⟩:=d 1 _ v1 rfl rfl;obtain ⟨A,c,L,a,j⟩:=Gx g;obtain ⟨n1,b,-,-⟩:=DataW.trod_int Tryz.underlying3 i
  simp at a b
  exact ⟨⟨L,n1⟩,A,c,by rw [a,b],j⟩
theorem pw {b o:Nat} {a:List EnL} (h:∀ i,i<a.length→w.cell? ⟨b,o+i*2,none⟩=some (.slice (a.getD i noL).A (a.getD i noL).e.pl.length (a.getD i noL).c)∧w.cell? ⟨b,o+i*2+1,none⟩=some (.int .i64 (a.getD i noL).e.n)):∀ j u,(gx a)[j]?=some u→w.cell? ⟨b,o+j,none⟩=some u:=by
 intro j u d;have f:j<(gx a).length:=(List.getElem?_eq_some_iff.1 d).1;rw [vj] at f;have g:j / 2<a.length:=by omega
 obtain ⟨k,l⟩:=pU a _ g;obtain ⟨c1,c2⟩:=h _ g
 rcases Nat.mod_two_eq_zero_or_one j with hm | hm
 ·have e:j=j / 2*2:=by omega
  rw [e] at d ⊢;rw [k] at d;rw [c1];exact d
 have e:j=j / 2*2+1:=by omega
 rw [e] at d ⊢;rw [l] at d;rw [←Nat.add_assoc,c2];exact d
theorem EG {r:Reach} {b0:Nat} {v:Value} {d:DataW H} {p:List MemPlace} (K:Value.okWide Tryz.prog w r b0 25 v) (h:DataW.Trod enc Tryz.prog w 0 (fun _=>true) held 25 v d p) :
  ∃ (A:Option Addr) (cap:Nat) (z:List EnL),v=.slice A z.length cap∧ii w A cap z:=by
 obtain ⟨a0,len0,g,rfl⟩:=okWide_slice Tryz.underlying25 K;obtain ⟨fuel,G⟩:=h;have t:DataW.trod enc Tryz.prog w 0 (fun _=>true) held fuel 25 [.slice a0 len0 g]=some (d,p):=G
 rcases open_slice Tryz.underlying25 t with ⟨e,-⟩ | ⟨a,len,cap,m,n,D,Pl,e,-,J,s,u,-,k⟩
 ·simp at e
  obtain ⟨rfl,rfl,rfl⟩:=e;exact ⟨none,0,[],rfl,zT,zU,Or.inl rfl⟩
 simp at e
 obtain ⟨rfl,rfl,rfl⟩:=e;rw [yp] at k
 simp at u
 subst u
 haveI:Inhabited EnL:=⟨noL⟩
 have j:∀ i,i<len0→∃ y:EnL,w.cells? 0 (a.add (i*2)) 2=some [.slice y.A y.e.pl.length y.c,.int .i64 y.e.n]∧aO w y.A y.c y.e.pl:=fun i f=>by
  obtain ⟨B,C,E⟩:=k i (by omega)
  obtain ⟨e,A,c,rfl,o⟩:=Gw E;exact ⟨⟨e,A,c⟩,C,o⟩
 obtain ⟨Y,q⟩:=choose_lt j;have b:((List.range len0).map Y).length=len0:=by simp
 have I:∀ i,i<len0→((List.range len0).map Y).getD i noL=Y i:=fun i f=>by simp [List.getD,f]
 refine ⟨some a,_,(List.range len0).map Y,by rw [b],by rw [b];exact J,s,?_⟩
 rcases Nat.eq_zero_or_pos len0 with h0 | h0
 ·left;subst h0;rfl
 right
 have c0:=(World.cells?_some (q 0 h0).1).2.2 0 (by omega)
 rw [add_add] at c0;have o:=dJ c0 (by omega)
 have F:=World.block_lt_of_cell? _ _ c0;refine ⟨a.block,a.off,by rw [←o],by simpa [Addr.add] using F,pw fun i f=>?_,fun x k=>?_⟩
 ·rw [b] at f
  have l:=(World.cells?_some (q i f).1).2.2;rw [o] at l;simp only [bS,Nat.add_assoc] at l;rw [I i f];refine ⟨?_,?_⟩
  ·have:=l 0 (by omega);simpa using this
  have:=l 1 (by omega);simpa [Nat.add_assoc] using this
 simp only [List.mem_map,List.mem_range] at k;obtain ⟨i,f,rfl⟩:=k;exact (q i f).2
end
end Go.Proofs.YthlhjjabkgpenaaGreatDoor
namespace Go.Proofs.YthlhjjabkgpenaaGreatDoor
def cmpL:List Int→List Int→Int
 | [],[]=>0
 | [],_ :: _ => -1
 | _ :: _,[]=>1
 | a :: r,b :: t=>if a<b then -1 else if b<a then 1 else cmpL r t
theorem cmpL_three:∀ a b:List Int,(cmpL a b = -1∧lessL a b=true∧a≠b)∨(cmpL a b=0∧lessL a b=false∧a=b)∨(cmpL a b=1∧lessL a b=false∧a≠b)
 | [],[]=>Or.inr (Or.inl ⟨rfl,rfl,rfl⟩)
 | [],_ :: _=>Or.inl ⟨rfl,rfl,by simp⟩
 | _ :: _,[]=>Or.inr (Or.inr ⟨rfl,rfl,by simp⟩)
 | a :: r,b :: t=>by
  simp only [cmpL,lessL]
  by_cases f:a<b
  ·rw [if_pos f,if_neg (by omega)]
   exact Or.inl ⟨rfl,decide_eq_true f,by simp;omega⟩
  rw [if_neg f]
  by_cases g:b<a
  ·rw [if_pos g,if_neg (by omega)]
   exact Or.inr (Or.inr ⟨rfl,decide_eq_false f,by simp;omega⟩)
  have h:a=b:=by omega
  rw [if_neg g,if_pos h];subst h
  rcases cmpL_three r t with ⟨c,d,e⟩ | ⟨c,d,e⟩ | ⟨c,d,e⟩
  ·exact Or.inl ⟨c,d,by simpa using e⟩
  ·exact Or.inr (Or.inl ⟨c,d,by rw [e]⟩)
  exact Or.inr (Or.inr ⟨c,d,by simpa using e⟩)
theorem sU (a b:List Int):decide (0≤cmpL a b) = !lessL a b:=by
 rcases cmpL_three a b with ⟨c,d,_⟩ | ⟨c,d,_⟩ | ⟨c,d,_⟩ <;> rw [c,d] <;> rfl
theorem fU (l:List Int) {k:Nat} (h:k<l.length):l.drop k=l.getD k 0 :: l.drop (k+1):=by
 rw [List.drop_eq_getElem_cons h,zZ,zX h]
 rfl
theorem FV {a b:List Int} {k:Nat} (c:k<a.length) (d:k<b.length):cmpL (a.drop k) (b.drop k)=if a.getD k 0<b.getD k 0 then -1 else if b.getD k 0<a.getD k 0 then 1 else cmpL (a.drop (k+1)) (b.drop (k+1)):=by
 rw [fU a c,fU b d,cmpL]
theorem zH {a b:List Int} {k:Nat} (c:k<a.length) (d:b.length≤k):cmpL (a.drop k) (b.drop k)=1:=by
 rw [fU a c,List.drop_eq_nil_of_le d];rfl
theorem vo {a b:List Int} {k:Nat} (c:a.length≤k) (d:k<b.length):cmpL (a.drop k) (b.drop k) = -1:=by
 rw [fU b d,List.drop_eq_nil_of_le c];rfl
theorem De {a b:List Int} {k:Nat} (c:a.length≤k) (d:b.length≤k):cmpL (a.drop k) (b.drop k)=0:=by
 rw [List.drop_eq_nil_of_le c,List.drop_eq_nil_of_le d];rfl
theorem DO {a b:List Int} {k:Nat} (c:k<a.length) (d:k<b.length):lessL (a.drop k) (b.drop k)=if a.getD k 0=b.getD k 0 then lessL (a.drop (k+1)) (b.drop (k+1)) else decide (a.getD k 0<b.getD k 0):=by
 rw [fU a c,fU b d,lessL]
theorem wl {a b:List Int} {k:Nat} (c:b.length≤k):lessL (a.drop k) (b.drop k)=false:=by
 rw [List.drop_eq_nil_of_le c];cases a.drop k <;> rfl
theorem tG {a b:List Int} {k:Nat} (c:a.length≤k) (d:k<b.length):lessL (a.drop k) (b.drop k)=true:=by
 rw [fU b d,List.drop_eq_nil_of_le c];rfl
theorem rs (l:List En) {k:Nat} (h:k<l.length):l.drop k=l.getD k noEn :: l.drop (k+1):=by
 rw [List.drop_eq_getElem_cons h,zZ,zX h]
 rfl
theorem Dg:∀ (l:List En) (p:List Int) (i:Nat),i≤l.length→(∀ t,t<i→lessL (l.getD t noEn).pl p=true)→(i<l.length→lessL (l.getD i noEn).pl p=false)→cntE l p=i
 | [],p,i,hi,_,_=>by simp at hi;subst hi;rfl
 | e :: r,p,0,_,_,h2=>by
  have a:=h2 (by simp)
  simp at a
  simp [cntE,a]
 | e :: r,p,i+1,hi,h1,h2=>by
  have a:=h1 0 (by omega)
  simp at a
  have b:=Dg r p i (by simpa using hi) (fun t c=>by simpa using h1 (t+1) (by omega)) (fun c=>by simpa using h2 (by simpa using c))
  unfold cntE at b ⊢;rw [List.takeWhile_cons,if_pos a,List.length_cons,b]
theorem rx {l:List En} {p:List Int} {i:Nat} (h:cntE l p=i) (a:i<l.length):hasE l p = !lessL p (l.getD i noEn).pl∧getE l p=if lessL p (l.getD i noEn).pl=true then (0,0) else (1,(l.getD i noEn).n):=by
 have e:l.drop (cntE l p)=l.getD i noEn :: l.drop (i+1):=by rw [h,rs l a]
 unfold hasE getE;rw [e];exact ⟨rfl,rfl⟩
theorem ry {l:List En} {p:List Int} {i:Nat} (h:cntE l p=i) (a:l.length≤i):hasE l p=false∧getE l p=(0,0):=by
 have e:l.drop (cntE l p)=[]:=by rw [h,List.drop_eq_nil_of_le a]
 unfold hasE getE;rw [e];exact ⟨rfl,rfl⟩
theorem F4 {l:List En} {p:List Int} {i:Nat} (h:cntE l p=i) (d:i<l.length):decide (cmpL (l.getD i noEn).pl p=0)=hasE l p:=by
 have a:lessL (l.getD i noEn).pl p=false:=by
  have e:l.dropWhile (fun e=>lessL e.pl p)=l.getD i noEn :: l.drop (i+1):=by rw [←nw];show l.drop (cntE l p)=_;rw [h,rs l d]
  exact nL (q:=fun e:En=>lessL e.pl p) e
 rw [(rx h d).1]
 rcases cmpL_three (l.getD i noEn).pl p with ⟨_,f,_⟩ | ⟨b,_,c⟩ | ⟨b,_,c⟩
 ·rw [f] at a;cases a
 ·rw [b,c,fY];rfl
 rw [b]
 rcases lessL_total _ _ c with h2 | h2
 ·rw [h2] at a;cases a
 rw [h2];rfl
def qOf (l:List En):Nat→Option (List Int)
 | 0=>none
 | k+1=>some (l.getD k noEn).pl
theorem nA {D:Nat→Dm} {n:Nat} {l:List En} {k:Nat} (h:k<l.length):aV D n (qOf l k) (l.drop k)=if entOne D n (l.getD k noEn)≠0 then entOne D n (l.getD k noEn) else if aheadOk (qOf l k) (l.getD k noEn).pl=true then aV D n (qOf l (k+1)) (l.drop (k+1)) else 7:=by
 rw [rs l h,aV]
 rfl
theorem yD {D:Nat→Dm} {n:Nat} {l:List En} {k:Nat} (h:k<l.length) (a:entOne D n (l.getD k noEn)≠0):aV D n (qOf l k) (l.drop k)=entOne D n (l.getD k noEn):=by rw [nA h,if_pos a]
theorem qc {D:Nat→Dm} {n:Nat} {l:List En} {k:Nat} (h:k<l.length) (a:entOne D n (l.getD k noEn)=0) (b:aheadOk (qOf l k) (l.getD k noEn).pl=false):aV D n (qOf l k) (l.drop k)=7:=by rw [nA h,if_neg (by simpa using a),if_neg (by rw [b];decide)]
theorem vE {D:Nat→Dm} {n:Nat} {l:List En} {k:Nat} (h:k<l.length) (a:entOne D n (l.getD k noEn)=0) (b:aheadOk (qOf l k) (l.getD k noEn).pl=true):aV D n (qOf l k) (l.drop k)=aV D n (qOf l (k+1)) (l.drop (k+1)):=by rw [nA h,if_neg (by simpa using a),if_pos b]
theorem yE {D:Nat→Dm} {n:Nat} {l:List En} {k:Nat} (h:l.length≤k):aV D n (qOf l k) (l.drop k)=0:=by
 rw [List.drop_eq_nil_of_le h];cases qOf l k <;> rfl
theorem te {D:Nat→Dm} {n:Nat} (l:List En) (h:(ah D n).2.2≠0):entsErr D n l=(ah D n).2.2:=by unfold entsErr;rw [if_pos h]
theorem yF {D:Nat→Dm} {n:Nat} (l:List En) (h:(ah D n).2.2=0):entsErr D n l=aV D n (qOf l 0) (l.drop 0):=by unfold entsErr;rw [if_neg (by simpa using h)];rfl
theorem Bo {D:Nat→Dm} {n:Nat} {e:En} (a:(ah D n).2.2=0) (h:placeErr D n e.pl≠0):entOne D n e=placeErr D n e.pl:=by
 rw [Hd a] at h ⊢;unfold entOne;rw [if_pos h]
theorem Eu {D:Nat→Dm} {n:Nat} {e:En} (a:(ah D n).2.2=0) (h:placeErr D n e.pl=0) (b:leafV D n e.pl=false):entOne D n e=6:=by
 rw [Hd a] at h;unfold entOne;rw [if_neg (by simpa using h),if_pos b]
theorem Gt {D:Nat→Dm} {n:Nat} {e:En} (a:(ah D n).2.2=0) (h:placeErr D n e.pl=0) (b:leafV D n e.pl=true):entOne D n e=if fk e.n=false then 1 else 0:=by
 rw [Hd a] at h;unfold entOne;rw [if_neg (by simpa using h),if_neg (by simp [b])]
end Go.Proofs.YthlhjjabkgpenaaGreatDoor
namespace Go.Proofs.YthlhjjabkgpenaaGreatDoor
open Go Go.ChangeShapes Go.WideShapes Go.ChangeAt Go.RowKit
set_option maxRecDepth 20000
theorem tq {w w':World} {r:Option Nat} (h:Bl w w'):w.grownBy w' r:=⟨h.os,h.tape,h.output,h.size,fun i a _=>h.block i a⟩
theorem nK {w w':World} {r:Option Nat} (h:w.grownBy w' r):w.grownBy w'.drew r:=⟨h.os,h.tape,h.output,h.size,h.block⟩
theorem eV (w:World) (r:Option Nat):w.grownBy w r:=⟨rfl,rfl,rfl,zT,fun _ _ _=>rfl⟩
variable {P:Program}
end Go.Proofs.YthlhjjabkgpenaaGreatDoor
namespace Go.Proofs.YthlhjjabkgpenaaGreatDoor
open Go.ChangeShapes Go.WideShapes Go.ChangeAt Go.RowKit
set_option maxRecDepth 20000
theorem qq (x:Int) (w:World):Calls Tryz.prog 175 #[.int .i64 x] w fun e w'=>e=.returned (.bool false)∧w'=w:=by
 go_enter Tryz.func175,Tryz.ntmps175
 go_wp2_with fail;go_ret;exact ⟨rfl,rfl⟩
def lj (x y:Int):Int:=if x<y then -1 else if y<x then 1 else 0
theorem sV (x y:Int) (w:World):Calls Tryz.prog 172 #[.int .i64 x,.int .i64 y] w fun e w'=>e=.returned (.int .i64 (lj x y))∧w'=w:=by
 have d:=qq x;have f:=qq y
 by_cases a:x<y
 ·have b:Hid (lj x y = -1):=by show _=_;unfold lj;rw [if_pos a]
  go_enter Tryz.func172,Tryz.ntmps172
  go_wp2_with fail;refine (d _).mono ?_;rintro e w1 ⟨rfl,rfl⟩;go_wp2_with fail;refine (f _).mono ?_;rintro e w2 ⟨rfl,rfl⟩;go_wp2_with fail;go_ret;rw [b.out];exact ⟨rfl,rfl⟩
 by_cases c:y<x
 ·have b:Hid (lj x y=1):=by show _=_;unfold lj;rw [if_neg a,if_pos c]
  go_enter Tryz.func172,Tryz.ntmps172
  go_wp2_with fail;refine (d _).mono ?_;rintro e w1 ⟨rfl,rfl⟩;go_wp2_with fail;refine (f _).mono ?_;rintro e w2 ⟨rfl,rfl⟩;go_wp2_with fail;go_ret;rw [b.out];exact ⟨rfl,rfl⟩
 have b:Hid (lj x y=0):=by show _=_;unfold lj;rw [if_neg a,if_neg c]
 have e:x=y:=by omega
 subst e
 go_enter Tryz.func172,Tryz.ntmps172
 go_wp2_with fail;refine (d _).mono ?_;rintro e w1 ⟨rfl,rfl⟩;go_wp2_with fail;refine (f _).mono ?_;rintro e w2 ⟨rfl,rfl⟩;go_wp2_with fail;go_ret;rw [b.out];exact ⟨rfl,rfl⟩
theorem se (A B:Option Addr) (J K:Nat) (a b:List Int) (w:World) (R:a.length≤4) (T:b.length≤4) (L:aO w A J a) (M:aO w B K b):Calls Tryz.prog 144 #[.slice A a.length J,.slice B b.length K] w fun e w'=>e=.returned (.int .i64 (cmpL a b))∧w'=w:=by
 have P:=aa L;have Q:=aa M;have F:Hid (∀ k,k<a.length→k<b.length→cmpL (a.drop k) (b.drop k)=if a.getD k 0<b.getD k 0 then -1 else if b.getD k 0<a.getD k 0 then 1 else cmpL (a.drop (k+1)) (b.drop (k+1))):=fun k r s=>FV r s
 have E:Hid (∀ k,k<a.length→b.length≤k→cmpL (a.drop k) (b.drop k)=1):=fun k r s=>zH r s
 have G:Hid (∀ k,a.length≤k→k<b.length→cmpL (a.drop k) (b.drop k) = -1):=fun k r s=>vo r s
 have D:Hid (∀ k,a.length≤k→b.length≤k→cmpL (a.drop k) (b.drop k)=0):=fun k r s=>De r s
 obtain ⟨na,m⟩:=ax a.length;obtain ⟨nb,n⟩:=ax b.length;have z:=aa m;have C:=aa n;rw [m] at F E G D R;rw [n] at F E G D T;rw [m,n];have S:(na:Int)≤4:=by omega
 have U:(nb:Int)≤4:=by omega
 clear L M m n
 go_enter Tryz.func144,Tryz.ntmps144
 go_wp2_with fail
 go_loopg [11] na (fun g s11 wr => ∃ (k:Nat),k≤na∧k≤nb∧g=na-k∧s11=.int .i64 k∧Hid (cmpL (a.drop k) (b.drop k)=cmpL a b)∧wr=w)
 case atStart=>exact ⟨0,zU,zU,rfl,rfl,(rfl:cmpL (a.drop 0) (b.drop 0)=cmpL a b),rfl⟩
 case round =>
  obtain ⟨k,hk,X,rfl,rfl,v,Z⟩:=hrel;subst Z
  by_cases u:k<na
  ·obtain ⟨hc,H | ⟨g1,o1,rfl,V,f⟩⟩:=P.out
   ·have:=z.out;rw [H] at this;simp at this;omega
   have O:=f k (by rw [z.out];exact u)
   have Y:(k:Int)<(na:Int):=by omega
   by_cases l:k<nb
   ·obtain ⟨W,H | ⟨g2,o2,rfl,N,h⟩⟩:=Q.out
    ·have:=C.out;rw [H] at this;simp at this;omega
    have x2:=h k (by rw [C.out];exact l)
    have t:(k:Int)<(nb:Int):=by omega
    have o:=F.out k u l;have c:=sV (a.getD k 0) (b.getD k 0) wr;generalize a.getD k 0=x at O o c;generalize b.getD k 0=y at x2 o c;have q:=aa o;clear f h o
    by_cases d:x<y
    ·have p:lj x y = -1:=by unfold lj;rw [if_pos d]
     rw [p] at c;have j:Hid (cmpL a b = -1):=by show _=_;rw [←v.out,q.out,if_pos d]
     clear p d;go_wp2_with fail;refine c.mono ?_;rintro e w1 ⟨rfl,rfl⟩;go_wp2_with fail;go_ret;rw [j.out];exact ⟨rfl,rfl⟩
    by_cases i:y<x
    ·have p:lj x y=1:=by unfold lj;rw [if_neg d,if_pos i]
     rw [p] at c;have j:Hid (cmpL a b=1):=by show _=_;rw [←v.out,q.out,if_neg d,if_pos i]
     clear p d i;go_wp2_with fail;refine c.mono ?_;rintro e w1 ⟨rfl,rfl⟩;go_wp2_with fail;go_ret;rw [j.out];exact ⟨rfl,rfl⟩
    have p:lj x y=0:=by unfold lj;rw [if_neg d,if_neg i]
    rw [p] at c;have j:Hid (cmpL (a.drop (k+1)) (b.drop (k+1))=cmpL a b):=by show _=_;rw [←v.out,q.out,if_neg d,if_neg i]
    clear p d i;go_wp2_with fail;refine c.mono ?_;rintro e w1 ⟨rfl,rfl⟩;go_wp2_with fail
    go_roundg (na-(k+1))
    case measure=>omega
    case rel=>exact ⟨k+1,by omega,by omega,rfl,by go_num,j,rfl⟩
   have j:Hid (cmpL a b=1):=by show _=_;rw [←v.out,E.out k u (by omega)]
   have t:(nb:Int)≤(k:Int):=by omega
   clear f;generalize a.getD k 0=x at O;go_wp2_with fail;go_ret;rw [j.out];exact ⟨rfl,rfl⟩
  have I:k=na:=by omega
  subst I
  by_cases l:k<nb
  ·have j:Hid (cmpL a b = -1):=by show _=_;rw [←v.out,G.out k (zT) l]
   have t:(k:Int)<(nb:Int):=by omega
   go_wp2_with fail;go_ret;rw [j.out];exact ⟨rfl,rfl⟩
  have j:Hid (cmpL a b=0):=by show _=_;rw [←v.out,D.out k (zT) (by omega)]
  have t:(nb:Int)≤(k:Int):=by omega
  go_wp2_with fail;go_ret;rw [j.out];exact ⟨rfl,rfl⟩
theorem Bt (A B:Option Addr) (f g:Nat) (a b:List Int) (N:Int) (w:World) (k:a.length≤4) (l:b.length≤4) (i:aO w A f a) (j:aO w B g b):Rt 122 #[.agg #[.slice A a.length f,.int .i64 N],.slice B b.length g] w (.int .i64 (cmpL a b)):=by
 have h:∀ w',Bl w w'→Calls Tryz.prog 144 #[.slice A a.length f,.slice B b.length g] w' fun e w''=>e=.returned (.int .i64 (cmpL a b))∧w''=w':=fun w' d=>se A B f g a b w' k l (i.later d) (j.later d)
 have H:=aa h;generalize cmpL a b=c at H;generalize a.length=na at H;generalize b.length=nb at H;clear i j h k l
 go_enter Tryz.func122,Tryz.ntmps122
 go_wp2_with fail;refine (H.out _ (by go_grown)).mono ?_
 rintro e w1 ⟨rfl,rfl⟩;go_wp2_with fail;go_ret;exact ⟨rfl,by go_grown⟩
end Go.Proofs.YthlhjjabkgpenaaGreatDoor
namespace Go.Proofs
open Go.Shelf
def Tryz.laysK_ren:Go.Shelf.Ren:=⟨fun | 25=>243 | n=>n,fun | 0=>0 | 3=>3 | 4=>4 | 5=>5 | 9=>9 | 37=>186 | 47=>219 | n=>n,fun | n=>n⟩
theorem Tryz.laysK:Go.Proofs.LaysPu.n25 Tryz.prog Tryz.laysK_ren:={
 mixed:=by kernel_rfl
 f25:=Tryz.func243.trans (congrArg some (by kernel_rfl))
 t0:=Tryz.underlying0
 a0:=Tryz.isAgg0
 z0:=Tryz.sizeOf0
 v0:=Tryz.zeroValue0
 i0:=by kernel_rfl
 t3:=Tryz.underlying3
 a3:=Tryz.isAgg3
 z3:=Tryz.sizeOf3
 v3:=Tryz.zeroValue3
 i3:=by kernel_rfl
 t4:=Tryz.underlying4
 a4:=Tryz.isAgg4
 z4:=Tryz.sizeOf4
 v4:=Tryz.zeroValue4
 i4:=by kernel_rfl
 t5:=Tryz.underlying5
 a5:=Tryz.isAgg5
 z5:=Tryz.sizeOf5
 v5:=Tryz.zeroValue5
 i5:=by kernel_rfl
 t9:=Tryz.underlying9
 a9:=Tryz.isAgg9
 z9:=Tryz.sizeOf9
 v9:=Tryz.zeroValue9
 i9:=by kernel_rfl
 t37:=Tryz.underlying186
 a37:=Tryz.isAgg186
 z37:=Tryz.sizeOf186
 v37:=Tryz.zeroValue186
 i37:=by kernel_rfl
 t47:=Tryz.underlying219
 a47:=Tryz.isAgg219
 z47:=Tryz.sizeOf219
 v47:=Tryz.zeroValue219
 i47:=by kernel_rfl }
namespace YthlhjjabkgpenaaGreatDoor
open Go.ChangeShapes Go.WideShapes Go.ChangeAt Go.RowKit
theorem oV (s:ByteArray) (w:World) (b:s.size≤281474976710656):Rt 204 #[.string s] w (.string s):=by
 have h:=AnyPu.stringslite_Clone Tryz.laysK s w b
 go_enter Tryz.func204,Tryz.ntmps204
 go_wp2_with fail;refine Calls.mono h ?_;rintro e w1 ⟨rfl,a⟩;go_wp2_with fail;go_ret;exact ⟨rfl,a⟩
end YthlhjjabkgpenaaGreatDoor
end Go.Proofs
