/- What was written, on p -/
import Derived.Laws.CopyRow
import Derived.Laws.CopyOwn
import Derived.Laws.IdiomCopy
import Derived.Deep.CutBlock
import Derived.Test.YtjfampgnhccodaaGreatDoorJTAK
namespace Go.Proofs.YtjfampgnhccodaaGreatDoor
open Tryz Go ChangeShapes WideShapes ChangeAt RowKit Deep
set_option maxRecDepth 99999
set_option maxHeartbeats 0
def az:List Int->List Int->Bool
 | [],[]=>false
 | [],_ :: _=>true
 |_ :: _,[]=>false
 |a :: r,b :: t=>if a=b then az r t else decide (a<b)
theorem dX(a:List Int):az a a=false:=by
 induction a with
 |nil=>rfl
 |cons x r ih=>simp[az,ih]
theorem eJ:∀(a b c:List Int),az a b=true->az b c=true->az a c=true
 | [],[],_,h,_=>by simp[az]at h
 | [],_ :: _,[],_,h=>by simp[az]at h
 | [],_ :: _,_ :: _,_,_=>rfl
 |_ :: _,[],_,h,_=>by simp[az]at h
 |_ :: _,_ :: _,[],_,h=>by simp[az]at h
 |x :: r,y :: t,z :: u,h1,h2=>by
  simp only[az]at h1 h2|-
  by_cases e:x=y
  ·by_cases d:y=z
   ·rw[if_pos e]at h1
    rw[if_pos d]at h2;rw[if_pos (e.trans d)];exact eJ r t u h1 h2
   rw[if_neg d]at h2;rw[if_neg (by rw[e];exact d),e]
   exact h2
  rw[if_neg e]at h1;have f:=of_decide_eq_true h1
  by_cases d:y=z
  ·rw[if_neg (by rw[←d];exact e),←d]
   exact h1
  rw[if_neg d]at h2;have g:=of_decide_eq_true h2;rw[if_neg ω]
  exact decide_eq_true ω
theorem lessL_total:∀(a b:List Int),a≠b->az a b=true\/az b a=true
 | [],[],h=>absurd rfl h
 | [],_ :: _,_=>Or.inl rfl
 |_ :: _,[],_=>Or.inr rfl
 |x :: r,y :: t,h=>by
  simp only[az]
  by_cases e:x=y
  ·rw[if_pos e,if_pos e.symm]
   exact lessL_total r t fun c=>h (by rw[e,c])
  rw[if_neg e,if_neg fun c=>e c.symm]
  rcases Int.lt_or_gt_of_ne e with c|c
  ·exact Or.inl (decide_eq_true c)
  exact Or.inr (decide_eq_true c)
theorem iF{a b:List Int}(h:az a b=true):a≠b:=fun e=>by rw[e,dX]at h;cases h
theorem IN{a b:List Int}(c:az a b=false)(d:az b a=false):a=b :=
 Decidable.byContradiction fun e=>by
  rcases lessL_total a b e with h|h
  ·rw[h]at c;cases c
  rw[h]at d;cases d
theorem qy:∀(a b:List Int),a.length=b.length->az a b=true->∃j,j<a.length/\(∀i,i<j->a.getD i 0=b.getD i 0)/\a.getD j 0<b.getD j 0
 | [],[],_,h=>by simp[az]at h
 | [],_ :: _,h,_=>by simp at h
 |_ :: _,[],h,_=>by simp at h
 |x :: r,y :: t,hl,h=>by
  simp only[az]at h
  by_cases e:x=y
  ·rw[if_pos e]at h
   obtain⟨j,c,d,f⟩:=qy r t (by simpa using hl) h
   refine⟨j+1,by simpa using c,fun i g=>?_,by simpa using f⟩
   cases i with
   |zero=>simpa using e
   |succ i=>simpa using d i ω
  rw[if_neg e]at h;exact⟨0,by simp,fun i g=>ω,by simpa using of_decide_eq_true h⟩
theorem xk{D:Nat->Dm}{n:Nat}{a b:List Int}(c:InO D n a)(d:InO D n b)(h:az a b=true):numI D a n<numI D b n:=by
 obtain⟨j,f,o,r⟩:=qy a b (by rw[c.len,d.len]) h
 rw[c.len]at f;have g:∀k,k<=j->numI D a k=numI D b k:=by
  intro k
  induction k with
  |zero=>intro _;rfl
  |succ k ih=>intro q;rw[numI,numI,ih ω,o k ω]
 have i:∀k,j<k->k<=n->numI D a k+1<=numI D b k:=by
  intro k
  induction k with
  |zero=>intro h;omega
  |succ k ih =>
   intro p q;rw[numI,numI];have s:=c.hi k ω
   have t:=d.lo k ω
   by_cases e:k=j
   ·rw[g k ω,e];omega
   have l:=ih ω ω
   have m:(numI D a k+1)*((D k).n:Int)<=numI D b k*((D k).n:Int):=Int.mul_le_mul_of_nonneg_right l ω
   rw[Int.add_mul,Int.one_mul]at m
   omega
 exact i n f zT
structure En where
 pl:List Int
 n:Int
def dE(x:Int):Bool:=decide (-1000000<=x)&&decide (x<=1000000)
def entOne(D:Nat->Dm)(n:Nat)(e:En):Int:=if aK D n e.pl≠0 then aK D n e.pl else if leafV D n e.pl=false then 6 else if dE e.n=false then 1 else 0
def kc:Option (List Int)->List Int->Bool
 |none,_=>true
 |some a,b=>az a b
def bH(D:Nat->Dm)(n:Nat):Option (List Int)->List En->Int
 |_,[]=>0
 |q,e :: r=>if entOne D n e≠0 then entOne D n e else if kc q e.pl=true then bH D n (some e.pl) r else 7
def entsErr(D:Nat->Dm)(n:Nat)(l:List En):Int:=if(ag D n).2.2≠0 then(ag D n).2.2 else bH D n none l
structure Ens(D:Nat->Dm)(n:Nat)(l:List En):Prop where
 right:(ag D n).2.2=0
 each:∀e∈l,InO D n e.pl/\leafV D n e.pl=true/\dE e.n=true
 rise:l.Pairwise fun a b=>az a.pl b.pl=true
theorem f6{D:Nat->Dm}{n:Nat}{e:En}(a:(ag D n).2.2=0)(h:entOne D n e=0):InO D n e.pl/\leafV D n e.pl=true/\dE e.n=true:=by
 unfold entOne at h
 split at h
 ·rename_i h1;exact absurd h h1
 split at h
 ·cases h
 split at h
 ·cases h
 rename_i h1 h2 h3
 exact⟨jR (by rw[Md a];simpa using h1),by simpa using h2,by simpa using h3⟩
theorem EF{D:Nat->Dm}{n:Nat}{e:En}(h:InO D n e.pl/\leafV D n e.pl=true/\dE e.n=true):entOne D n e=0:=by
 have a:aK D n e.pl=0:=by rw[←Md h.1.right];exact h.1.ok
 unfold entOne;rw[if_neg (by simpa using a),if_neg (by simp[h.2.1]),if_neg (by simp[h.2.2])]
theorem kL{D:Nat->Dm}{n:Nat}(i:(ag D n).2.2=0):∀(l:List En) (q:Option (List Int)),bH D n q l=0->(∀e∈l,InO D n e.pl/\leafV D n e.pl=true/\dE e.n=true)/\(∀a,q=some a->∀e∈l,az a e.pl=true)/\l.Pairwise fun a b=>az a.pl b.pl=true
 | [],_,_=>⟨fun _ h=>(by cases h),fun _ _ _ h=>(by cases h),List.Pairwise.nil⟩
 |e :: r,q,h=>by
  rw[bH]at h
  by_cases d:entOne D n e=0
  ·rw[if_neg (by simpa using d)]at h
   have k:∀(g:bH D n (some e.pl) r=0) (f:∀a,q=some a->az a e.pl=true),(∀x∈e :: r,InO D n x.pl/\leafV D n x.pl=true/\dE x.n=true)/\(∀a,q=some a->∀x∈e :: r,az a x.pl=true)/\(e :: r).Pairwise fun a b=>az a.pl b.pl=true:=fun g f=>by
    obtain⟨g1,g2,g3⟩:=kL i r _ g;refine⟨fun x c=>?_,fun a j x c=>?_,List.Pairwise.cons (fun x c=>g2 _ rfl x c) g3⟩
    ·rcases List.mem_cons.1 c with rfl|c
     ·exact f6 i d
     exact g1 x c
    rcases List.mem_cons.1 c with rfl|c
    ·exact f a j
    exact eJ _ _ _ (f a j) (g2 _ rfl x c)
   split at h
   ·rename_i h4
    exact k h fun b m=>by rw[m]at h4;exact h4
   cases h
  rw[if_pos (by simpa using d)]at h
  exact absurd h d
theorem qd{D:Nat->Dm}{n:Nat}{l:List En}(h:entsErr D n l=0):Ens D n l:=by
 unfold entsErr at h
 split at h
 ·rename_i h1;exact absurd h h1
 rename_i h1
 have a:(ag D n).2.2=0:=by simpa using h1
 obtain⟨g1,_,g3⟩:=kL a l none h;exact⟨a,g1,g3⟩
theorem qe{D:Nat->Dm}{n:Nat}:∀(l:List En) (q:Option (List Int)),(∀e∈l,InO D n e.pl/\leafV D n e.pl=true/\dE e.n=true)->(∀a,q=some a->∀e∈l,az a e.pl=true)->(l.Pairwise fun a b=>az a.pl b.pl=true)->bH D n q l=0
 | [],_,_,_,_=>rfl
 |e :: r,q,h1,h2,h3=>by
  obtain⟨d,f⟩:=List.pairwise_cons.1 h3;have g:=qe r (some e.pl) (fun x c=>h1 x (List.mem_cons_of_mem _ c)) (fun a h x c=>by cases h;exact d x c) f
  rw[bH,if_neg (by simpa using EF (h1 e (List.mem_cons_self ..)))]
  rw[if_pos]
  ·exact g
  cases q with
  |none=>rfl
  |some a=>exact h2 a rfl e (List.mem_cons_self ..)
theorem Ens.ok{D:Nat->Dm}{n:Nat}{l:List En}(h:Ens D n l):entsErr D n l=0:=by
 unfold entsErr;rw[if_neg (by simpa using h.right)]
 exact qe l none h.each (fun a b=>by cases b) h.rise
theorem Ens.few{D:Nat->Dm}{n:Nat}{l:List En}(h:Ens D n l):l.length<=3000:=by
 have u:=(ao h.right).2.2.1;have g:∀(m:List En) (lo:Int),(∀e∈m,InO D n e.pl)->(m.Pairwise fun a b=>az a.pl b.pl=true)->(∀e∈m,lo<=numI D e.pl n)->0<=lo->lo<=(prodN D n:Int)->lo+(m.length:Int)<=(prodN D n:Int):=by
  intro m
  induction m with
  |nil=>intro lo _ _ _ _ i;simpa using i
  |cons e r ih =>
   intro lo f j k q i;obtain⟨o,p⟩:=List.pairwise_cons.1 j;have c:=f e (List.mem_cons_self ..);have s:=k e (List.mem_cons_self ..);have t:=(bQ c (Nat.le_refl n)).2.1;have:=ih (numI D e.pl n+1) (fun x d=>f x (List.mem_cons_of_mem _ d)) p (fun x d=>by have:=xk c (f x (List.mem_cons_of_mem _ d)) (o x d);omega) ω ω
   rw[List.length_cons]
   omega
 have:=g l 0 (fun e c=>(h.each e c).1) h.rise (fun e c=>(bQ (h.each e c).1 (Nat.le_refl n)).1) (Int.le_refl _) ω
 omega
def cntE(l:List En)(p:List Int):Nat:=(l.takeWhile fun e=>az e.pl p).length
def hasE(l:List En)(p:List Int):Bool:=match l.drop (cntE l p)with
 | []=>false
 |e :: _ => !az p e.pl
def getE(l:List En)(p:List Int):Int×Int:=match l.drop (cntE l p)with
 | []=>(0,0)
 |e :: _=>if az p e.pl=true then(0,0)else(1,e.n)
def setL(l:List En)(p:List Int)(x:Int):List En:=l.take (cntE l p)++⟨p,x⟩:: l.drop (cntE l p+(if hasE l p=true then 1 else 0))
def clrL(l:List En)(p:List Int):List En:=l.take (cntE l p)++l.drop (cntE l p+1)
theorem qa{α:Type}(q:α->Bool)(l:List α):l.drop (l.takeWhile q).length=l.dropWhile q:=by
 induction l with
 |nil=>rfl
 |cons x r ih =>
  by_cases h:q x=true
  ·rw[List.takeWhile_cons,List.dropWhile_cons,if_pos h,if_pos h,List.length_cons,List.drop_succ_cons,ih]
  rw[List.takeWhile_cons,List.dropWhile_cons,if_neg h,if_neg h];rfl
theorem Cz{α:Type}(q:α->Bool)(l:List α):l.take (l.takeWhile q).length=l.takeWhile q:=by
 induction l with
 |nil=>rfl
 |cons x r ih =>
  by_cases h:q x=true
  ·rw[List.takeWhile_cons,if_pos h,List.length_cons,List.take_succ_cons,ih]
  rw[List.takeWhile_cons,if_neg h];rfl
theorem Fe{α:Type}{q:α->Bool}{l:List α}{x:α}(h:x∈l.takeWhile q):q x=true:=by
 induction l with
 |nil=>cases h
 |cons y r ih =>
  by_cases a:q y=true
  ·rw[List.takeWhile_cons,if_pos a]at h
   rcases List.mem_cons.1 h with rfl|h
   ·exact a
   exact ih h
  rw[List.takeWhile_cons,if_neg a]at h;cases h
theorem qq{α:Type}{q:α->Bool}{l r:List α}{x:α}(h:l.dropWhile q=x :: r):q x=false:=by
 induction l with
 |nil=>cases h
 |cons y t ih =>
  by_cases a:q y=true
  ·rw[List.dropWhile_cons,if_pos a]at h;exact ih h
  rw[List.dropWhile_cons,if_neg a]at h;cases h
  simpa using a
theorem jL{l:List En}(h:l.Pairwise fun a b=>az a.pl b.pl=true)(p:List Int):
  ∃A B,l.take (cntE l p)=A/\(∀e∈A,az e.pl p=true)/\(∀e∈B,az p e.pl=true) /\
   ((hasE l p=false/\l.drop (cntE l p)=B/\l=A++B/\getE l p=(0,0))\/∃x,hasE l p=true/\l.drop (cntE l p)=⟨p,x⟩:: B/\l=A++⟨p,x⟩:: B/\getE l p=(1,x)):=by
 have s:l.take (cntE l p)=l.takeWhile fun e=>az e.pl p:=Cz _ _
 have t:l.drop (cntE l p)=l.dropWhile fun e=>az e.pl p:=qa _ _
 have i:l.take (cntE l p)++l.drop (cntE l p)=l:=List.take_append_drop _ _;have j:∀e∈l.take (cntE l p),az e.pl p=true:=fun e c=>by rw[s]at c;exact Fe (q:=fun e:En=>az e.pl p) c
 cases hd:l.drop (cntE l p)with
 |nil =>
  refine⟨_,[],rfl,j,fun _ h=>(by cases h),Or.inl ⟨?_,rfl,?_,?_⟩⟩
  ·unfold hasE;rw[hd]
  ·conv=>lhs;rw[←i,hd]
  unfold getE;rw[hd]
 |cons x r =>
  have u:az x.pl p=false:=by rw[t]at hd;exact qq (q:=fun e:En=>az e.pl p) hd
  have m:(x :: r).Pairwise fun a b=>az a.pl b.pl=true:=by rw[←hd];exact h.sublist (List.drop_sublist _ _)
  obtain⟨o,_⟩:=List.pairwise_cons.1 m
  by_cases f:az p x.pl=true
  ·refine⟨_,x :: r,rfl,j,fun e c=>?_,Or.inl ⟨?_,rfl,?_,?_⟩⟩
   ·rcases List.mem_cons.1 c with rfl|c
    ·exact f
    exact eJ _ _ _ f (o e c)
   ·unfold hasE;rw[hd];simp[f]
   ·conv=>lhs;rw[←i,hd]
   unfold getE;rw[hd];simp[f]
  have d:az p x.pl=false:=by simpa using f
  have k:x.pl=p:=IN u d;have g:x=⟨p,x.n⟩:=by cases x;simp at k|-;exact k
  refine⟨_,r,rfl,j,fun e c=>by rw[←k];exact o e c,Or.inr ⟨x.n,?_,?_,?_,?_⟩⟩
  ·unfold hasE;rw[hd];simp[d]
  ·rw[←g]
  ·conv=>lhs;rw[←i,hd]
   rw[←g]
  unfold getE;rw[hd];simp[d]
theorem o8{l:List En}(h:l.Pairwise fun a b=>az a.pl b.pl=true){e:En}(d:e∈l):getE l e.pl=(1,e.n):=by
 obtain⟨A,B,_,g,i,⟨_,_,f,_⟩|⟨x,_,_,f,j⟩⟩:=jL h e.pl
 ·rw[f]at d
  rcases List.mem_append.1 d with c|c
  ·have:=g e c;rw[dX]at this;cases this
  have:=i e c;rw[dX]at this;cases this
 rw[j];have c:e=⟨e.pl,x⟩:=by
  rw[f]at d
  rcases List.mem_append.1 d with c|c
  ·have:=g e c;rw[dX]at this;cases this
  rcases List.mem_cons.1 c with h5|h5
  ·exact h5
  have:=i e h5;rw[dX]at this;cases this
 rw[c]
theorem lW{l:List En}(h:l.Pairwise fun a b=>az a.pl b.pl=true){p:List Int}(g:∀e∈l,e.pl≠p):getE l p=(0,0)/\hasE l p=false:=by
 obtain⟨A,B,_,_,_,⟨c,_,_,f⟩|⟨x,_,_,d,_⟩⟩:=jL h p
 ·exact⟨f,c⟩
 exact absurd rfl (g ⟨p,x⟩ (by rw[d];simp))
theorem wU{l m:List En}(i:l.Pairwise fun a b=>az a.pl b.pl=true)(j:m.Pairwise fun a b=>az a.pl b.pl=true){q:List Int}(h:∀e,e.pl=q->(e∈l↔e∈m)):getE l q=getE m q:=by
 by_cases g:∃e∈l,e.pl=q
 ·obtain⟨e,c,rfl⟩:=g
  rw[o8 i c,o8 j ((h e rfl).1 c)]
 have c:∀e∈l,e.pl≠q:=fun e c d=>g ⟨e,c,d⟩
 have d:∀e∈m,e.pl≠q:=fun e d f=>c e ((h e f).2 d) f
 rw[(lW i c).1,(lW j d).1]
theorem tK{A B:List En}{p:List Int}{x:Int}(d:∀e∈A,az e.pl p=true)(f:∀e∈B,az p e.pl=true)(h:A.Pairwise fun a b=>az a.pl b.pl=true)(i:B.Pairwise fun a b=>az a.pl b.pl=true):(A++⟨p,x⟩:: B).Pairwise fun a b=>az a.pl b.pl=true:=by
 refine List.pairwise_append.2 ⟨h,List.Pairwise.cons (fun e j=>f e j) i,fun a g b c=>?_⟩
 rcases List.mem_cons.1 c with rfl|c
 ·exact d a g
 exact eJ _ _ _ (d a g) (f b c)
theorem nI{l:List En}(h:l.Pairwise fun a b=>az a.pl b.pl=true)(p:List Int)(x:Int):
  (setL l p x).Pairwise (fun a b=>az a.pl b.pl=true)/\(∀e,e∈setL l p x↔e=⟨p,x⟩\/(e∈l/\e.pl≠p))/\(setL l p x).length=l.length+(if hasE l p=true then 0 else 1):=by
 obtain⟨A,B,i,j,k,⟨g,m,f,_⟩|⟨y,g,m,f,_⟩⟩:=jL h p
 ·have e:setL l p x=A++⟨p,x⟩:: B:=by unfold setL;rw[i,g,if_neg σ,Nat.add_zero,m]
  rw[e,g];have d:=h;rw[f]at d;obtain⟨p1,p2,_⟩:=List.pairwise_append.1 d;refine⟨tK j k p1 p2,fun z=>?_,by rw[f];simp;omega⟩
  rw[f]
  constructor
  ·intro c
   rcases List.mem_append.1 c with c|c
   ·exact Or.inr ⟨List.mem_append.2 (Or.inl c),iF (j z c)⟩
   rcases List.mem_cons.1 c with c|c
   ·exact Or.inl c
   exact Or.inr ⟨List.mem_append.2 (Or.inr c),fun e=>iF (k z c) e.symm⟩
  rintro(c|⟨c,_⟩)
  ·rw[c];simp
  rcases List.mem_append.1 c with c|c
  ·exact List.mem_append.2 (Or.inl c)
  exact List.mem_append.2 (Or.inr (List.mem_cons_of_mem _ c))
 have e:setL l p x=A++⟨p,x⟩:: B:=by
  unfold setL;rw[i,g,if_pos rfl,←List.drop_drop,m]
  rfl
 rw[e,g];have d:=h;rw[f]at d;obtain⟨p1,p2,_⟩:=List.pairwise_append.1 d;refine⟨tK j k p1 (List.pairwise_cons.1 p2).2,fun z=>?_,by rw[f];simp⟩
 rw[f]
 constructor
 ·intro c
  rcases List.mem_append.1 c with c|c
  ·exact Or.inr ⟨List.mem_append.2 (Or.inl c),iF (j z c)⟩
  rcases List.mem_cons.1 c with c|c
  ·exact Or.inl c
  exact Or.inr ⟨List.mem_append.2 (Or.inr (List.mem_cons_of_mem _ c)),fun e=>iF (k z c) e.symm⟩
 rintro(c|⟨c,n⟩)
 ·rw[c];simp
 rcases List.mem_append.1 c with c|c
 ·exact List.mem_append.2 (Or.inl c)
 rcases List.mem_cons.1 c with c|c
 ·exact absurd (by rw[c]) n
 exact List.mem_append.2 (Or.inr (List.mem_cons_of_mem _ c))
theorem mQ{l:List En}(h:l.Pairwise fun a b=>az a.pl b.pl=true)(p:List Int)(n:hasE l p=true):
  (clrL l p).Pairwise (fun a b=>az a.pl b.pl=true)/\(∀e,e∈clrL l p↔e∈l/\e.pl≠p)/\(clrL l p).length+1=l.length:=by
 obtain⟨A,B,g,k,m,⟨j,_⟩|⟨y,j,r,f,_⟩⟩:=jL h p
 ·rw[j]at n;cases n
 have e:clrL l p=A++B:=by
  unfold clrL;rw[g,←List.drop_drop,r]
  rfl
 rw[e];have d:=h;rw[f]at d;obtain⟨p1,p2,_⟩:=List.pairwise_append.1 d;refine⟨List.pairwise_append.2 ⟨p1,(List.pairwise_cons.1 p2).2,fun a o b q=>eJ _ _ _ (k a o) (m b q)⟩,fun z=>?_,by rw[f];simp;omega⟩
 rw[f]
 constructor
 ·intro c
  rcases List.mem_append.1 c with c|c
  ·exact⟨List.mem_append.2 (Or.inl c),iF (k z c)⟩
  exact⟨List.mem_append.2 (Or.inr (List.mem_cons_of_mem _ c)),fun e=>iF (m z c) e.symm⟩
 rintro⟨c,i⟩
 rcases List.mem_append.1 c with c|c
 ·exact List.mem_append.2 (Or.inl c)
 rcases List.mem_cons.1 c with c|c
 ·exact absurd (by rw[c]) i
 exact List.mem_append.2 (Or.inr c)
theorem Ens.set{D:Nat->Dm}{n:Nat}{l:List En}(h:Ens D n l){p:List Int}{x:Int}(f:InO D n p)(d:leafV D n p=true)(g:dE x=true):Ens D n (setL l p x):=by
 obtain⟨a,b,_⟩:=nI h.rise p x;refine⟨h.right,fun e c=>?_,a⟩
 rcases(b e).1 c with rfl|⟨h3,_⟩
 ·exact⟨f,d,g⟩
 exact h.each e h3
theorem Ens.clr{D:Nat->Dm}{n:Nat}{l:List En}(h:Ens D n l){p:List Int}(d:hasE l p=true):Ens D n (clrL l p):=by
 obtain⟨a,b,_⟩:=mQ h.rise p d;exact⟨h.right,fun e c=>h.each e ((b e).1 c).1,a⟩
theorem Ens.there{D:Nat->Dm}{n:Nat}{l:List En}(h:Ens D n l)(p:List Int)(x:Int):getE (setL l p x) p=(1,x)/\hasE (setL l p x) p=true:=by
 obtain⟨c,d,_⟩:=nI h.rise p x;have b:(⟨p,x⟩:En)∈setL l p x:=(d _).2 (Or.inl rfl);refine⟨o8 c b,?_⟩;obtain⟨A,B,_,e,f,⟨_,_,a,_⟩|⟨y,a,_⟩⟩:=jL c p
 ·rw[a]at b
  rcases List.mem_append.1 b with h4|h4
  ·have:=e _ h4;rw[dX]at this;cases this
  have:=f _ h4;rw[dX]at this;cases this
 exact a
theorem Ens.else{D:Nat->Dm}{n:Nat}{l:List En}(h:Ens D n l){p q:List Int}(c:q≠p)(x:Int):getE (setL l p x) q=getE l q:=by
 obtain⟨d,f,_⟩:=nI h.rise p x;refine wU d h.rise fun e b=>?_
 rw[f]
 constructor
 ·rintro(a|a)
  ·exact absurd (by rw[←b,a]) c
  exact a.1
 exact fun a=>Or.inr ⟨a,by rw[b];exact c⟩
theorem Ens.gone{D:Nat->Dm}{n:Nat}{l:List En}(h:Ens D n l){p:List Int}(f:hasE l p=true):getE (clrL l p) p=(0,0)/\(clrL l p).length+1=l.length:=by
 obtain⟨a,b,c⟩:=mQ h.rise p f;exact⟨(lW a fun e d=>((b e).1 d).2).1,c⟩
structure Ed where
 pl:List Int
 n:Int
 clear:Bool
def editErr(D:Nat->Dm)(n:Nat)(l:List En)(x:Ed):Int :=
 if aK D n x.pl≠0 then aK D n x.pl
 else if x.clear=true then(if hasE l x.pl=true then 0 else 5)
 else if leafV D n x.pl=false then 6
 else if dE x.n=false then 1
 else 0
def editV(l:List En)(x:Ed):List En:=if x.clear=true then clrL l x.pl else setL l x.pl x.n
def aT(D:Nat->Dm)(n:Nat):List En->Nat->List Ed->List En×Int×Int
 |l,_,[]=>(l,0,0)
 |l,i,x :: r=>if editErr D n l x=0 then aT D n (editV l x) (i+1) r else([],(i:Int),editErr D n l x)
def editsV(D:Nat->Dm)(n:Nat)(l:List En)(xs:List Ed):List En×Int×Int :=
 if 60<xs.length then([],0,4)else if entsErr D n l≠0 then([],0,entsErr D n l)else aT D n l 0 xs
theorem jd{D:Nat->Dm}{n i:Nat}{l:List En}{x:Ed}(r:List Ed)(h:editErr D n l x=0):aT D n l i (x :: r)=aT D n (editV l x) (i+1) r:=by rw[aT,if_pos h]
theorem kK{D:Nat->Dm}{n i:Nat}{l:List En}{x:Ed}(r:List Ed)(h:editErr D n l x≠0):aT D n l i (x :: r)=([],(i:Int),editErr D n l x):=by rw[aT,if_neg h]
theorem Ens.edit{D:Nat->Dm}{n:Nat}{l:List En}(h:Ens D n l){x:Ed}(a:editErr D n l x=0):InO D n x.pl/\Ens D n (editV l x):=by
 unfold editErr at a
 split at a
 ·rename_i h1;exact absurd a h1
 rename_i h1
 have b:InO D n x.pl:=jR (by rw[Md h.right];simpa using h1)
 refine⟨b,?_⟩;unfold editV
 split at a
 ·rename_i h2
  split at a
  ·rename_i h3
   rw[if_pos h2];exact h.clr h3
  cases a
 rename_i h2
 rw[if_neg h2]
 split at a
 ·cases a
 split at a
 ·cases a
 rename_i h3 h4
 exact h.set b (by simpa using h3) (by simpa using h4)
structure EnL where
 e:En
 A:Option Addr
 c:Nat
def noEn:En:=⟨[],0⟩
def noL:EnL:=⟨noEn,none,0⟩
def lE(xs:List EnL):List En:=xs.map EnL.e
theorem aR(xs:List EnL):(lE xs).length=xs.length:=by simp[lE]
theorem lE_at(xs:List EnL)(k:Nat):(lE xs).getD k noEn=(xs.getD k noL).e:=by
 rw[zZ,zZ,lE,List.getElem?_map];cases xs[k]? <;>rfl
def cellsE:List EnL->List Value
 | []=>[]
 |x :: r=>.slice x.A x.e.pl.length x.c :: .int .i64 x.e.n :: cellsE r
theorem cellsE_len(xs:List EnL):(cellsE xs).length=xs.length*2:=by
 induction xs with
 |nil=>rfl
 |cons x r ih=>simp[cellsE,ih];omega
theorem cellsE_append(a b:List EnL):cellsE (a++b)=cellsE a++cellsE b:=by
 induction a with
 |nil=>rfl
 |cons x r ih=>simp[cellsE,ih]
theorem jK(xs:List EnL):∀k,(cellsE xs).take (k*2)=cellsE (xs.take k):=by
 induction xs with
 |nil=>intro k;simp[cellsE]
 |cons x r ih =>
  intro k;cases k with
  |zero=>simp[cellsE]
  |succ k=>rw[show(k+1)*2=k*2+1+1 by omega];simp[cellsE,ih]
theorem jJ(xs:List EnL):∀k,(cellsE xs).drop (k*2)=cellsE (xs.drop k):=by
 induction xs with
 |nil=>intro k;simp[cellsE]
 |cons x r ih =>
  intro k;cases k with
  |zero=>simp
  |succ k=>rw[show(k+1)*2=k*2+1+1 by omega];simp[cellsE,ih]
theorem fw(xs:List EnL):∀v∈cellsE xs,v.oneCell'=true:=by
 induction xs with
 |nil=>intro v a;cases a
 |cons x r ih =>
  intro v a;simp only[cellsE,List.mem_cons]at a
  rcases a with rfl|rfl|a
  ·rfl
  ·rfl
  exact ih v a
theorem sM(xs:List EnL):∀k,k<xs.length->(cellsE xs)[k*2]?=some (.slice (xs.getD k noL).A (xs.getD k noL).e.pl.length (xs.getD k noL).c)/\(cellsE xs)[k*2+1]?=some (.int .i64 (xs.getD k noL).e.n):=by
 induction xs with
 |nil=>intro k a;cases a
 |cons x r ih =>
  intro k a;cases k with
  |zero=>simp[cellsE]
  |succ k =>
   rw[show(k+1)*2=k*2+1+1 by omega]
   simp only[cellsE,List.getElem?_cons_succ,List.getD_cons_succ];exact ih k (by simpa using a)
theorem cJ{xs:List EnL}{k:Nat}(h:k<xs.length):xs.getD k noL∈xs:=by
 rw[zZ,zX h];exact List.getElem_mem h
def jw(w:World)(b o:Nat)(xs:List EnL):Prop:=b<w.heap.size/\(∀j u,(cellsE xs)[j]?=some u->w.cell? ⟨b,o+j,none⟩=some u)/\∀x∈xs,de w x.A x.c x.e.pl
theorem jw.later{w w':World}{b o:Nat}{xs:List EnL}(h:jw w b o xs)(a:Bl w w'):jw w' b o xs :=
 ⟨zW h.1 a.size,fun j u c=>aM a h.1 (h.2.1 j u c),fun x d=>(h.2.2 x d).later a⟩
theorem jw.pl{w:World}{b o:Nat}{xs:List EnL}(h:jw w b o xs){k:Nat}(a:k<xs.length):de w (xs.getD k noL).A (xs.getD k noL).c (xs.getD k noL).e.pl:=h.2.2 _ (cJ a)
theorem jw.at{w:World}{b o:Nat}{xs:List EnL}(h:jw w b o xs){k:Nat}(f:k<xs.length):w.cell? ⟨b,o+k*2,none⟩=some (.slice (xs.getD k noL).A (xs.getD k noL).e.pl.length (xs.getD k noL).c)/\w.cell? ⟨b,o+k*2+1,none⟩=some (.int .i64 (xs.getD k noL).e.n):=by
 obtain⟨a,d⟩:=sM xs k f;exact⟨h.2.1 _ _ a,by rw[Nat.add_assoc];exact h.2.1 _ _ d⟩
def bU(w:World)(A:Option Addr)(cap:Nat)(xs:List EnL):Prop:=xs.length<=cap/\cap<=9223372036854775807/\(xs=[]\/∃b o,A=some ⟨b,o,none⟩/\jw w b o xs)
theorem bU.later{w w':World}{A:Option Addr}{cap:Nat}{xs:List EnL}(h:bU w A cap xs)(f:Bl w w'):bU w' A cap xs:=by
 obtain⟨d,c,a|⟨b,o,a,e⟩⟩:=h
 ·exact⟨d,c,Or.inl a⟩
 exact⟨d,c,Or.inr ⟨b,o,a,e.later f⟩⟩
theorem bU.nil(w:World)(A:Option Addr)(cap:Nat)(h:cap<=9223372036854775807):bU w A cap []:=⟨zU,h,Or.inl rfl⟩
structure EdL where
 x:Ed
 A:Option Addr
 c:Nat
def di:EdL:=⟨⟨[],0,false⟩,none,0⟩
def lD(ys:List EdL):List Ed:=ys.map EdL.x
theorem ij(ys:List EdL):(lD ys).length=ys.length:=by simp[lD]
def CP(w:World)(b o:Nat)(ys:List EdL):Prop:=b<w.heap.size/\∀k,k<ys.length->w.cell? ⟨b,o+k*3,none⟩=some (.slice (ys.getD k di).A (ys.getD k di).x.pl.length (ys.getD k di).c)/\w.cell? ⟨b,o+k*3+1,none⟩=some (.int .i64 (ys.getD k di).x.n)/\w.cell? ⟨b,o+k*3+2,none⟩=some (.bool (ys.getD k di).x.clear)/\de w (ys.getD k di).A (ys.getD k di).c (ys.getD k di).x.pl
theorem CP.later{w w':World}{b o:Nat}{ys:List EdL}(h:CP w b o ys)(a:Bl w w'):CP w' b o ys:=by
 refine⟨zW h.1 a.size,fun k g=>?_⟩
 obtain⟨c,d,e,f⟩:=h.2 k g;exact⟨aM a h.1 c,aM a h.1 d,aM a h.1 e,f.later a⟩
def oQ(w:World)(A:Option Addr)(cap:Nat)(ys:List EdL):Prop:=ys.length<=cap/\cap<=9223372036854775807/\(ys=[]\/∃b o,A=some ⟨b,o,none⟩/\CP w b o ys)
theorem oQ.later{w w':World}{A:Option Addr}{cap:Nat}{ys:List EdL}(h:oQ w A cap ys)(f:Bl w w'):oQ w' A cap ys:=by
 obtain⟨d,c,a|⟨b,o,a,e⟩⟩:=h
 ·exact⟨d,c,Or.inl a⟩
 exact⟨d,c,Or.inr ⟨b,o,a,e.later f⟩⟩
section
variable {H:Type} {enc:TypeId×Value->H} {w:World} {held:Bool}
theorem C3:prog.cellsOf 45=2:=by kernel_rfl
theorem L9{b:Nat}{cs:List Value}{x:DataW H×List MemPlace}(h:DataW.trod enc prog w 0 (fun _=>true) held b 43 cs=some x):
  ∃(Ap:Option Addr) (d:Nat) (L:List Int),cs=[.slice Ap L.length d]/\de w Ap d L:=by
 rcases open_ints underlying43 underlying3 κ h with⟨rfl,_⟩|⟨a',aa,cap,zs,rfl,_,k,_,c,_,e,_⟩
 ·exact⟨none,0,[],rfl,de.nil _ _ _⟩
 simp at c
 have a:(zs.take aa).length=aa:=by simp;omega
 refine⟨some a',cap,zs.take aa,by rw[a],by rw[a];exact k,?_⟩
 rcases Nat.eq_zero_or_pos aa with h0|h0
 ·left
  subst h0
  simp
 right
 have c0:=e 0 ω
 have g:=gz c0 rfl;have i:=World.block_lt_of_cell? _ _ c0;refine⟨a'.block,a'.off,by rw[←g],by simpa [Addr.add]using i,fun j f=>?_⟩
 rw[a]at f;have:=e j ω
 rw[g,aW]at this;rw[this]
 simp[List.getD,f]
theorem L8{a:Nat}{cs:List Value}{x:DataW H×List MemPlace}(h:DataW.trod enc prog w 0 (fun _=>true) held a 45 cs=some x):
  ∃(e:En) (A:Option Addr) (c:Nat),cs=[.slice A e.pl.length c,.int .i64 e.n]/\de w A c e.pl:=by
 obtain⟨g,n,f⟩:=j7 underlying45 κ h
 rw[C3]at g
 match cs,g with
 | [v0,v1],_ =>
  obtain⟨l,i⟩:=f 0 _ v0 rfl rfl;obtain⟨m,j⟩:=f 1 _ v1 rfl rfl;obtain⟨A,c,L,b,k⟩:=L9 i;obtain⟨n1,d,-,-⟩:=DataW.trod_int underlying3 j
  simp at b d
  exact⟨⟨L,n1⟩,A,c,by rw[b,d],k⟩
theorem se{b o:Nat}{xs:List EnL}(h:∀i,i<xs.length->w.cell? ⟨b,o+i*2,none⟩=some (.slice (xs.getD i noL).A (xs.getD i noL).e.pl.length (xs.getD i noL).c)/\w.cell? ⟨b,o+i*2+1,none⟩=some (.int .i64 (xs.getD i noL).e.n)):∀j u,(cellsE xs)[j]?=some u->w.cell? ⟨b,o+j,none⟩=some u:=by
 intro j u a;have d:j<(cellsE xs).length:=(List.getElem?_eq_some_iff.1 a).1;rw[cellsE_len]at d;have f:j / 2<xs.length:=ω;obtain⟨g,k⟩:=sM xs _ f;obtain⟨c1,c2⟩:=h _ f
 rcases Nat.mod_two_eq_zero_or_one j with hm|hm
 ·have e:j=j / 2*2:=ω;rw[e]at a|-;rw[g]at a;rw[c1];exact a
 have e:j=j / 2*2+1:=ω;rw[e]at a|-;rw[k]at a;rw[←Nat.add_assoc,c2];exact a
theorem Jn{r:Reach}{b0:Nat}{v:Value}{d:DataW H}{p:List MemPlace}(K:Value.okWide prog w r b0 25 v)(h:DataW.Trod enc prog w 0 (fun _=>true) held 25 v d p):
  ∃(A:Option Addr) (cap:Nat) (xs:List EnL),v=.slice A xs.length cap/\bU w A cap xs:=by
 obtain⟨a0,aa,g,rfl⟩:=okWide_slice underlying25 K;obtain⟨k,G⟩:=h;have u:DataW.trod enc prog w 0 (fun _=>true) held k 25 [.slice a0 aa g]=some (d,p):=G
 rcases open_slice underlying25 u with⟨e,-⟩|⟨a,ab,cap,m,n,D,Pl,e,-,J,t,z,-,l⟩
 ·simp at e
  obtain⟨rfl,rfl,rfl⟩:=e;exact⟨none,0,[],rfl,zT,zU,Or.inl rfl⟩
 simp at e
 obtain⟨rfl,rfl,rfl⟩:=e;rw[C3]at l
 simp at z
 subst z
 haveI:Inhabited EnL:=⟨noL⟩
 have j:∀i,i<aa->∃y:EnL,w.cells? 0 (a.add (i*2)) 2=some [.slice y.A y.e.pl.length y.c,.int .i64 y.e.n]/\de w y.A y.c y.e.pl:=fun i f=>by
  obtain⟨B,C,E⟩:=l i ω
  obtain⟨e,A,c,rfl,q⟩:=L8 E;exact⟨⟨e,A,c⟩,C,q⟩
 obtain⟨Y,s⟩:=choose_lt j;have b:((List.range aa).map Y).length=aa:=by simp
 have I:∀i,i<aa->((List.range aa).map Y).getD i noL=Y i:=fun i f=>by simp[List.getD,f]
 refine⟨some a,_,(List.range aa).map Y,by rw[b],by rw[b];exact J,t,?_⟩
 rcases Nat.eq_zero_or_pos aa with h0|h0
 ·left;subst h0;rfl
 right
 have c0:=(World.cells?_some (s 0 h0).1).2.2 0 ω
 rw[add_add]at c0;have q:=gz c0 ω
 have F:=World.block_lt_of_cell? _ _ c0;refine⟨a.block,a.off,by rw[←q],by simpa [Addr.add]using F,se fun i f=>?_,fun x l=>?_⟩
 ·rw[b]at f
  have o:=(World.cells?_some (s i f).1).2.2;rw[q]at o;simp only[aW,Nat.add_assoc]at o;rw[I i f];refine⟨?_,?_⟩
  ·have:=o 0 ω;simpa using this
  have:=o 1 ω;simpa [Nat.add_assoc]using this
 simp only[List.mem_map,List.mem_range]at l;obtain⟨i,f,rfl⟩:=l;exact(s i f).2
end
def cmpL:List Int->List Int->Int
 | [],[]=>0
 | [],_ :: _ => -1
 |_ :: _,[]=>1
 |a :: r,b :: t=>if a<b then -1 else if b<a then 1 else cmpL r t
theorem cmpL_three:∀a b:List Int,(cmpL a b = -1/\az a b=true/\a≠b)\/(cmpL a b=0/\az a b=false/\a=b)\/(cmpL a b=1/\az a b=false/\a≠b)
 | [],[]=>Or.inr (Or.inl ⟨rfl,rfl,rfl⟩)
 | [],_ :: _=>Or.inl ⟨rfl,rfl,by simp⟩
 |_ :: _,[]=>Or.inr (Or.inr ⟨rfl,rfl,by simp⟩)
 |a :: r,b :: t=>by
  simp only[cmpL,az]
  by_cases f:a<b
  ·rw[if_pos f,if_neg ω]
   exact Or.inl ⟨rfl,decide_eq_true f,by simp;omega⟩
  rw[if_neg f]
  by_cases g:b<a
  ·rw[if_pos g,if_neg ω]
   exact Or.inr (Or.inr ⟨rfl,decide_eq_false f,by simp;omega⟩)
  have h:a=b:=ω;rw[if_neg g,if_pos h];subst h
  rcases cmpL_three r t with⟨c,d,e⟩|⟨c,d,e⟩|⟨c,d,e⟩
  ·exact Or.inl ⟨c,d,by simpa using e⟩
  ·exact Or.inr (Or.inl ⟨c,d,by rw[e]⟩)
  exact Or.inr (Or.inr ⟨c,d,by simpa using e⟩)
theorem lC(a b:List Int):decide (cmpL a b<0)=az a b:=by
 rcases cmpL_three a b with⟨c,d,_⟩|⟨c,d,_⟩|⟨c,d,_⟩ <;>rw[c,d] <;>rfl
theorem wg(a b:List Int):decide (0<=cmpL a b) = !az a b:=by
 rcases cmpL_three a b with⟨c,d,_⟩|⟨c,d,_⟩|⟨c,d,_⟩ <;>rw[c,d] <;>rfl
theorem lK(l:List Int){k:Nat}(h:k<l.length):l.drop k=l.getD k 0 :: l.drop (k+1):=by
 rw[List.drop_eq_getElem_cons h,zZ,zX h]
 rfl
theorem K6{a b:List Int}{k:Nat}(c:k<a.length)(d:k<b.length):cmpL (a.drop k) (b.drop k)=if a.getD k 0<b.getD k 0 then -1 else if b.getD k 0<a.getD k 0 then 1 else cmpL (a.drop (k+1)) (b.drop (k+1)):=by
 rw[lK a c,lK b d,cmpL]
theorem Em{a b:List Int}{k:Nat}(c:k<a.length)(d:b.length<=k):cmpL (a.drop k) (b.drop k)=1:=by
 rw[lK a c,List.drop_eq_nil_of_le d];rfl
theorem zn{a b:List Int}{k:Nat}(c:a.length<=k)(d:k<b.length):cmpL (a.drop k) (b.drop k) = -1:=by
 rw[lK b d,List.drop_eq_nil_of_le c];rfl
theorem Hf{a b:List Int}{k:Nat}(c:a.length<=k)(d:b.length<=k):cmpL (a.drop k) (b.drop k)=0:=by
 rw[List.drop_eq_nil_of_le c,List.drop_eq_nil_of_le d];rfl
theorem uk(l:List En){k:Nat}(h:k<l.length):l.drop k=l.getD k noEn :: l.drop (k+1):=by
 rw[List.drop_eq_getElem_cons h,zZ,zX h]
 rfl
theorem Hh:∀(l:List En) (p:List Int) (i:Nat),i<=l.length->(∀t,t<i->az (l.getD t noEn).pl p=true)->(i<l.length->az (l.getD i noEn).pl p=false)->cntE l p=i
 | [],p,i,hi,_,_=>by simp at hi;subst hi;rfl
 |e :: r,p,0,_,_,h2=>by
  have a:=h2 σ
  simp at a
  simp[cntE,a]
 |e :: r,p,i+1,hi,h1,h2=>by
  have a:=h1 0 ω
  simp at a
  have b:=Hh r p i (by simpa using hi) (fun t c=>by simpa using h1 (t+1) ω) (fun c=>by simpa using h2 (by simpa using c))
  unfold cntE at b|-;rw[List.takeWhile_cons,if_pos a,List.length_cons,b]
theorem Nf(l:List En)(p:List Int):cntE l p<=l.length:=by
 unfold cntE;exact(List.takeWhile_sublist _).length_le
theorem Np{l:List En}{p:List Int}{i:Nat}(h:cntE l p=i)(a:i<l.length):hasE l p = !az p (l.getD i noEn).pl/\getE l p=if az p (l.getD i noEn).pl=true then(0,0)else(1,(l.getD i noEn).n):=by
 have e:l.drop (cntE l p)=l.getD i noEn :: l.drop (i+1):=by rw[h,uk l a]
 unfold hasE getE;rw[e];exact⟨rfl,rfl⟩
theorem Dg{l:List En}{p:List Int}{i:Nat}(h:cntE l p=i)(a:l.length<=i):hasE l p=false/\getE l p=(0,0):=by
 have e:l.drop (cntE l p)=[]:=by rw[h,List.drop_eq_nil_of_le a]
 unfold hasE getE;rw[e];exact⟨rfl,rfl⟩
theorem Mm{l:List En}(h:l.Pairwise fun a b=>az a.pl b.pl=true){a b:Nat}(c:a<b)(d:b<l.length):az (l.getD a noEn).pl (l.getD b noEn).pl=true:=by
 have:=List.pairwise_iff_getElem.1 h a b ω d c
 rw[zZ,zZ,zX d,zX (by omega:a<l.length)]
 exact this
theorem Fb{l:List En}(h:l.Pairwise fun a b=>az a.pl b.pl=true){p:List Int}{a b:Nat}(c:a<=b)(e:b<l.length)(d:az (l.getD b noEn).pl p=true):az (l.getD a noEn).pl p=true:=by
 rcases Nat.eq_or_lt_of_le c with rfl|h1
 ·exact d
 exact eJ _ _ _ (Mm h h1 e) d
theorem Df{l:List En}{p:List Int}{i:Nat}(h:cntE l p=i)(d:i<l.length):decide (cmpL (l.getD i noEn).pl p=0)=hasE l p:=by
 have a:az (l.getD i noEn).pl p=false:=by
  have e:l.dropWhile (fun e=>az e.pl p)=l.getD i noEn :: l.drop (i+1):=by rw[←qa];show l.drop (cntE l p)=_;rw[h,uk l d]
  exact qq (q:=fun e:En=>az e.pl p) e
 rw[(Np h d).1]
 rcases cmpL_three (l.getD i noEn).pl p with⟨_,f,_⟩|⟨b,_,c⟩|⟨b,_,c⟩
 ·rw[f]at a;cases a
 ·rw[b,c,dX];rfl
 rw[b]
 rcases lessL_total _ _ c with h2|h2
 ·rw[h2]at a;cases a
 rw[h2];rfl
def qOf(l:List En):Nat->Option (List Int)
 | 0=>none
 |k+1=>some (l.getD k noEn).pl
theorem qh{D:Nat->Dm}{n:Nat}{l:List En}{k:Nat}(h:k<l.length):bH D n (qOf l k) (l.drop k)=if entOne D n (l.getD k noEn)≠0 then entOne D n (l.getD k noEn)else if kc (qOf l k) (l.getD k noEn).pl=true then bH D n (qOf l (k+1)) (l.drop (k+1))else 7:=by
 rw[uk l h,bH]
 rfl
theorem Lk{D:Nat->Dm}{n:Nat}{l:List En}{k:Nat}(h:k<l.length)(a:entOne D n (l.getD k noEn)≠0):bH D n (qOf l k) (l.drop k)=entOne D n (l.getD k noEn):=by rw[qh h,if_pos a]
theorem EG{D:Nat->Dm}{n:Nat}{l:List En}{k:Nat}(h:k<l.length)(a:entOne D n (l.getD k noEn)=0)(b:kc (qOf l k) (l.getD k noEn).pl=false):bH D n (qOf l k) (l.drop k)=7:=by rw[qh h,if_neg (by simpa using a),if_neg (by rw[b];decide)]
theorem Ia{D:Nat->Dm}{n:Nat}{l:List En}{k:Nat}(h:k<l.length)(a:entOne D n (l.getD k noEn)=0)(b:kc (qOf l k) (l.getD k noEn).pl=true):bH D n (qOf l k) (l.drop k)=bH D n (qOf l (k+1)) (l.drop (k+1)):=by rw[qh h,if_neg (by simpa using a),if_pos b]
theorem Lm{D:Nat->Dm}{n:Nat}{l:List En}{k:Nat}(h:l.length<=k):bH D n (qOf l k) (l.drop k)=0:=by
 rw[List.drop_eq_nil_of_le h];cases qOf l k<;>rfl
theorem Id{D:Nat->Dm}{n:Nat}(l:List En)(h:(ag D n).2.2≠0):entsErr D n l=(ag D n).2.2:=by unfold entsErr;rw[if_pos h]
theorem Lo{D:Nat->Dm}{n:Nat}(l:List En)(h:(ag D n).2.2=0):entsErr D n l=bH D n (qOf l 0) (l.drop 0):=by unfold entsErr;rw[if_neg (by simpa using h)];rfl
theorem Ft{D:Nat->Dm}{n:Nat}{e:En}(a:(ag D n).2.2=0)(h:placeErr D n e.pl≠0):entOne D n e=placeErr D n e.pl:=by
 rw[Md a]at h|-;unfold entOne;rw[if_pos h]
theorem Je{D:Nat->Dm}{n:Nat}{e:En}(a:(ag D n).2.2=0)(h:placeErr D n e.pl=0)(b:leafV D n e.pl=false):entOne D n e=6:=by
 rw[Md a]at h;unfold entOne;rw[if_neg (by simpa using h),if_pos b]
theorem L6{D:Nat->Dm}{n:Nat}{e:En}(a:(ag D n).2.2=0)(h:placeErr D n e.pl=0)(b:leafV D n e.pl=true):entOne D n e=if dE e.n=false then 1 else 0:=by
 rw[Md a]at h;unfold entOne;rw[if_neg (by simpa using h),if_neg (by simp[b])]
theorem qg:(3:Nat)≠45:=by decide
theorem aS{w w1 w2:World}{r:Option Nat}(h:w.grownBy w1 r)(k:w1.grownBy w2 r):w.grownBy w2 r :=
 ⟨k.os.trans h.os,k.tape.trans h.tape,k.output.trans h.output,zV h.size k.size,fun i a b=>(k.block i (zW a h.size) b).trans (h.block i a b)⟩
theorem aC{w w':World}{r:Option Nat}(h:Bl w w'):w.grownBy w' r:=⟨h.os,h.tape,h.output,h.size,fun i a _=>h.block i a⟩
theorem cX{w w':World}{r:Option Nat}(h:w.grownBy w' r):w.grownBy w'.drew r:=⟨h.os,h.tape,h.output,h.size,h.block⟩
theorem bP(w:World)(r:Option Nat):w.grownBy w r:=⟨rfl,rfl,rfl,zT,fun _ _ _=>rfl⟩
theorem dK(w:World)(g:Nat)(cs:Array Value):w.grownBy (w.setRow g cs) (some g):=
 ⟨rfl,rfl,rfl,by rw[setRow_size];exact zT,fun i _ a=>setRow_other w g i cs fun e=>a (by rw[e])⟩
theorem gP{B:Nat}{w0 w w':World}{g:Nat}(h:Below B w0 w)(b:w.grownBy w' (some g))(a:B<=w.heap.size)(d:B<=g):Below B w0 w' :=
 h.grown b a fun k c=>by cases c;exact d
def bX(w:World)(A:Option Addr)(c:Nat)(L:List Int):Prop:=L.length<=c/\(L=[]\/∃b o cs fr,A=some ⟨b,o,none⟩/\w.heap[b]?=some (.cells cs 3 fr)/\∀j,j<L.length->w.cell? ⟨b,o+j,none⟩=some (.int .i64 (L.getD j 0)))
theorem bX.pl{w:World}{A:Option Addr}{c:Nat}{L:List Int}(h:bX w A c L):de w A c L:=by
 obtain⟨d,a|⟨b,o,cs,fr,a,e,f⟩⟩:=h
 ·exact⟨d,Or.inl a⟩
 exact⟨d,Or.inr ⟨b,o,a,(zY e).1,f⟩⟩
theorem bX.nil(w:World)(A:Option Addr)(c:Nat):bX w A c []:=⟨zU,Or.inl rfl⟩
theorem bX.grown{w w':World}{A:Option Addr}{c g:Nat}{L:List Int}{f:Array Value}{fr:Nat×Nat}(h:bX w A c L)(r:w.heap[g]?=some (.cells f 45 fr))(q:w.grownBy w' (some g)):bX w' A c L:=by
 obtain⟨m,k|⟨b,o,cs,i,k,d,p⟩⟩:=h
 ·exact⟨m,Or.inl k⟩
 have l:b≠g:=fun e=>by
  rw[e,r]at d;simp only[Option.some.injEq,Obj.cells.injEq]at d;exact qg d.2.1.symm
 have n:w'.heap[b]?=w.heap[b]?:=q.block b (zY d).1 fun e=>l (by simpa using e)
 exact⟨m,Or.inr ⟨b,o,cs,i,k,n.trans d,fun j s=>(World.cell?_of_block (a:=⟨b,o+j,none⟩) n).trans (p j s)⟩⟩
theorem bX.later{w w':World}{A:Option Addr}{c:Nat}{L:List Int}(h:bX w A c L)(l:Bl w w'):bX w' A c L:=by
 obtain⟨f,e|⟨b,o,cs,d,e,g,k⟩⟩:=h
 ·exact⟨f,Or.inl e⟩
 have i:w'.heap[b]?=w.heap[b]?:=l.block b (zY g).1;exact⟨f,Or.inr ⟨b,o,cs,d,e,i.trans g,fun j m=>(World.cell?_of_block (a:=⟨b,o+j,none⟩) i).trans (k j m)⟩⟩
theorem Jx{w:World}{base:Nat}{v:Value}{L:List Int}(h:w.ownsRow base 3 1 v L.length (L.map (Value.int .i64))):∃A c,v=.slice A L.length c/\bX w A c L:=by
 rcases h.2 with⟨rfl,e⟩|⟨g,cap,b,rfl,l,i,f,_,_,_⟩
 ·have:L=[]:=List.eq_nil_of_length_eq_zero e
  subst this;exact⟨none,0,rfl,bX.nil _ _ _⟩
 refine⟨_,cap,rfl,f,Or.inr ⟨g,0,b,_,rfl,i,fun j k=>?_⟩⟩
 have d:=h.cells (g:=g) rfl j (.int .i64 (L.getD j 0)) (by simp[List.getD,zX k])
 have a:(⟨g,0,none⟩:Addr).add j=⟨g,j,none⟩:=by unfold Addr.add;split<;>simp_all
 rw[a]at d;rw[Nat.zero_add];exact d
def a7(w:World)(g cap:Nat)(xs:List EnL):Prop:=(∃cur:Array Value,w.heap[g]?=some (.cells cur 45 (0,0))/\cur.size=cap*2/\cur.toList.take (xs.length*2)=cellsE xs)/\xs.length<=cap/\cap<=maxLen/\∀x∈xs,bX w x.A x.c x.e.pl
section
variable {w w':World} {g cap:Nat} {xs:List EnL}
theorem a7.lt(h:a7 w g cap xs):g<w.heap.size:=by
 obtain⟨⟨a,b,_⟩,_⟩:=h;exact(zY b).1
theorem a7.cells(h:a7 w g cap xs):∀j u,(cellsE xs)[j]?=some u->w.cell? ⟨g,j,none⟩=some u:=by
 obtain⟨⟨c,d,f,e⟩,_⟩:=h;intro j u b;have a:=(List.getElem?_eq_some_iff.1 b).1;rw[cellsE_len]at a;rw[←e,List.getElem?_take,if_pos a,Array.getElem?_toList]at b
 simp[World.cell?,d,b]
theorem a7.full(h:a7 w g cap xs){j:Nat}(d:j<cap*2):(w.cell? ⟨g,j,none⟩).isSome=true:=by
 obtain⟨⟨a,b,c,e⟩,_⟩:=h
 simp[World.cell?,b,c,d]
theorem a7.frozen(h:a7 w g cap xs)(j:Nat):w.frozen? ⟨g,j,none⟩=false:=by
 obtain⟨⟨a,b,_⟩,_⟩:=h
 simp[World.frozen?,b]
theorem a7.ens(h:a7 w g cap xs):jw w g 0 xs:=⟨h.lt,fun j u a=>by rw[Nat.zero_add];exact h.cells j u a,fun x b=>(h.2.2.2 x b).pl⟩
theorem a7.ensV(h:a7 w g cap xs):bU w (some ⟨g,0,none⟩) cap xs:=⟨h.2.1,by have:=h.2.2.1;unfold maxLen at this;omega,Or.inr ⟨g,0,rfl,h.ens⟩⟩
theorem a7.later(h:a7 w g cap xs)(c:Bl w w'):a7 w' g cap xs:=by
 have b:=h.lt;obtain⟨⟨a,d,e,f⟩,i,j,k⟩:=h;exact⟨⟨a,(c.block g b).trans d,e,f⟩,i,j,fun x l=>(k x l).later c⟩
theorem a7.own(h:a7 w g cap xs){base:Nat}(i:base<=g):w.ownsRow base 45 2 (.slice (some ⟨g,0,none⟩) xs.length cap) xs.length (cellsE xs):=by
 obtain⟨⟨a,b,c,d⟩,e,f,j⟩:=h;exact⟨cellsE_len xs,Or.inr ⟨g,cap,a,rfl,i,b,e,f,c,d⟩⟩
theorem u6{base:Nat}{v:Value}(h:w.ownsRow base 45 2 v xs.length (cellsE xs))(n:v≠.slice none 0 0)(m:∀x∈xs,bX w x.A x.c x.e.pl):∃g cap,v=.slice (some ⟨g,0,none⟩) xs.length cap/\base<=g/\a7 w g cap xs:=by
 rcases h.2 with⟨b,_⟩|⟨g,cap,a,rfl,k,l,i,j,d,f⟩
 ·exact absurd b n
 exact⟨g,cap,rfl,k,⟨a,l,d,f⟩,i,j,m⟩
theorem a7.lay(h:a7 w g cap xs){cs:List Value}{ys:List EnL}(j:cs.length=cap*2)(k:cs.take (ys.length*2)=cellsE ys)(f:ys.length<=cap)(i:∀y∈ys,bX w y.A y.c y.e.pl):a7 (w.setRow g cs.toArray) g cap ys:=by
 obtain⟨⟨a,b,m,n⟩,o,d,p⟩:=h;exact⟨⟨cs.toArray,setRow_heap w g a _ _ _ b,by simpa using j,by simpa using k⟩,f,d,fun y l=>(i y l).grown b (dK ..)⟩
end
theorem gi(g:Nat)(t:TypeId):∀(vs:List Value) (o:Nat) (a:Array Value) (w:World),w.heap[g]?=some (.cells a t (0,0))->o+vs.length<=a.size->w.setCells g o vs=w.setRow g (a.toList.take o++vs++a.toList.drop (o+vs.length)).toArray
 | [],o,a,w,hg,_=>by
  simp only[World.setCells,List.append_nil,List.length_nil,Nat.add_zero,List.take_append_drop,Array.toArray_toList];rw[setRow_self w g a t (0,0) hg]
 |v :: r,o,a,w,hg,hl=>by
  simp only[List.length_cons]at hl;rw[World.setCells,setCell_eq_setRow w g o a t (0,0) v hg,gi g t r (o+1) (a.setIfInBounds o v) _ (setRow_heap w g a _ t _ hg) (by simp;omega),setRow_setRow]
  have e:=list_seg_step a.toList o v r (by simp;omega)
  congr 2
  simpa [Array.toList_setIfInBounds,Nat.add_assoc]using e
variable {P:Program}
theorem jq(k:Nat)(w:World)(m sT ty d:TypeId)(g o c e:Nat)(a:Addr)(aa ab:Nat)(b:Array Value)(t:TypeId)(cs:List Value)
  (x:P.underlying m=some (.slice d)) (p:(P.info? d).map (·.size)=some k)
  (r:w.heap[g]?=some (.cells b t (0,0))) (u:cs.length=Nat.min aa c*k)
  (h:∀j v,cs[j]?=some v->w.cell? (a.add j)=some v) (f:o+cs.length<=b.size) (q:∀v∈cs,v.oneCell'=true):
  (Builtin.copy_ #[m,sT] ty #[.slice (some ⟨g,o,none⟩) c e,.slice (some a) aa ab]).run P w =
   .ok (goInt (Nat.min aa c)) (w.setRow g (b.toList.take o++cs++b.toList.drop (o+cs.length)).toArray):=by
 have n:=run_loadCells_list (P:=P) w a cs h;have l:=run_storeCells_at P g o t cs 0 b w r (by simpa using f) q
 rw[u]at n;cases hq:P.info? d with
 |none=>simp[hq]at p
 |some i =>
  have s:i.size=k:=by simpa [hq]using p
  simp[Builtin.copy_,run_underlying x,Builtin.lenOf,Builtin.firstCells,sizeOf,typeInfo,hq,s,n,l]
theorem su(w:World)(t e ty:TypeId)(z x y:Value)(m:P.underlying t=some (.slice e))(n:∀w,(zeroValue e).run P w=.ok z w)(p:z.cells=#[x,y])(r:x.oneCell'=true)(s:y.oneCell'=true)(g o c:Nat)(a:Array Value)(u:TypeId)(l:w.heap[g]?=some (.cells a u (0,0)))(b:o+2<=a.size):
  (Builtin.clear_ #[t] ty #[.slice (some ⟨g,o,none⟩) 1 c]).run P w=.ok (.tuple #[]) (w.setRow g (a.toList.take o++[x,y]++a.toList.drop (o+2)).toArray):=by
 have h:(Builtin.zeroCells z.cells 1).toList=[x,y]:=by
  rw[p];apply List.ext_getElem
  ·simp[Builtin.zeroCells]
  intro i q j;have k:i=0\/i=1:=by simp at j;omega
  rcases k with rfl|rfl<;>simp[Builtin.zeroCells]
 have d:=run_storeCells_at P g o u [x,y] 0 a w l (by simpa using b) (by intro v f;simp at f;rcases f with rfl|rfl<;>assumption)
 simp only[Nat.add_zero]at d
 simp[Builtin.clear_,run_underlying m,n,h,d]
theorem eb{α:Type}{a b:List α}{k:Nat}(h:a.length=k):(a++b).take k=a:=by subst h;simp
theorem Ez{α:Type}{a b:List α}{k:Nat}(h:a.length=k):(a++b).drop k=b:=by subst h;simp
theorem qo{C:List Value}{xs:List EnL}(a:C.take (xs.length*2)=cellsE xs){i:Nat}(b:i<=xs.length):C.take (i*2)=cellsE (xs.take i):=by
 rw[←jK,←a,List.take_take,Nat.min_eq_left ω]
theorem E2{C C1 C2:List Value}{xs:List EnL}{x:EnL}{i:Nat}(f:C.take (xs.length*2)=cellsE xs)(b:(xs.length+1)*2<=C.length)(g:i<=xs.length)
  (a:C1=C.take ((i+1)*2)++cellsE (xs.drop i)++C.drop ((i+1)*2+(cellsE (xs.drop i)).length)) (e:C2=C1.take (i*2)++cellsE [x]++C1.drop (i*2+(cellsE [x]).length)):
  C2.length=C.length/\C2.take ((xs.take i++x :: xs.drop i).length*2)=cellsE (xs.take i++x :: xs.drop i):=by
 have k:(cellsE (xs.drop i)).length=(xs.length-i)*2:=by rw[cellsE_len,List.length_drop]
 have j:(cellsE [x]).length=2:=by rw[cellsE_len];rfl
 have c:C1.take (i*2)=cellsE (xs.take i):=by
  rw[a,List.append_assoc,List.take_append_of_le_length (by rw[List.length_take];omega),List.take_take,Nat.min_eq_left ω]
  exact qo f g
 have d:C1.drop (i*2+(cellsE [x]).length)=cellsE (xs.drop i)++C.drop ((i+1)*2+(cellsE (xs.drop i)).length):=by
  rw[a,List.append_assoc,j];exact Ez (by rw[List.length_take];omega)
 rw[e,c,d];refine⟨?_,?_⟩
 ·simp only[List.length_append,cellsE_len,List.length_take,List.length_drop,List.length_cons,List.length_nil]
  omega
 have h:(xs.take i++x :: xs.drop i).length=xs.length+1:=by simp;omega
 rw[h,←List.append_assoc];rw[show cellsE (xs.take i++x :: xs.drop i)=cellsE (xs.take i)++cellsE [x]++cellsE (xs.drop i) by rw[show x :: xs.drop i=[x]++xs.drop i from rfl,cellsE_append,cellsE_append,List.append_assoc]]
 exact eb (by simp only[List.length_append,cellsE_len,List.length_take,List.length_drop,List.length_cons,List.length_nil];omega)
theorem Aj{C C1 C2:List Value}{xs:List EnL}{x:EnL}{i:Nat}(c:C.take (i*2)=cellsE (xs.take i))(d:(xs.length+1)*2<=C.length)(j:i<=xs.length)
  (b:C1=C.take (i*2)++cellsE [x]++C.drop (i*2+(cellsE [x]).length)) (f:C2=C1.take ((i+1)*2)++cellsE (xs.drop i)++C1.drop ((i+1)*2+(cellsE (xs.drop i)).length)):
  C2.length=C.length/\C2.take ((xs.take i++x :: xs.drop i).length*2)=cellsE (xs.take i++x :: xs.drop i):=by
 have h:(cellsE (xs.drop i)).length=(xs.length-i)*2:=by rw[cellsE_len,List.length_drop]
 have k:(cellsE [x]).length=2:=by rw[cellsE_len];rfl
 have a:C1.length=C.length:=by
  rw[b,c];simp only[List.length_append,cellsE_len,List.length_take,List.length_drop,List.length_cons,List.length_nil]
  omega
 have e:C1.take ((i+1)*2)=cellsE (xs.take i)++cellsE [x]:=by
  rw[b,c];exact eb (by simp only[List.length_append,cellsE_len,List.length_take,List.length_cons,List.length_nil];omega)
 rw[f,e];refine⟨?_,?_⟩
 ·simp only[List.length_append,cellsE_len,List.length_take,List.length_drop,List.length_cons,List.length_nil,a]
  omega
 have g:(xs.take i++x :: xs.drop i).length=xs.length+1:=by simp;omega
 rw[g];rw[show cellsE (xs.take i++x :: xs.drop i)=cellsE (xs.take i)++cellsE [x]++cellsE (xs.drop i) by rw[show x :: xs.drop i=[x]++xs.drop i from rfl,cellsE_append,cellsE_append,List.append_assoc]]
 exact eb (by simp only[List.length_append,cellsE_len,List.length_take,List.length_drop,List.length_cons,List.length_nil];omega)
theorem Et{C C1 C2:List Value}{xs:List EnL}{h j:Value}{i:Nat}(f:C.take (xs.length*2)=cellsE xs)(c:xs.length*2<=C.length)(l:i<xs.length)
  (b:C1=C.take (i*2)++cellsE (xs.drop (i+1))++C.drop (i*2+(cellsE (xs.drop (i+1))).length)) (e:C2=C1.take ((xs.length-1)*2)++[h,j]++C1.drop ((xs.length-1)*2+2)):
  C2.length=C.length/\C2.take ((xs.take i++xs.drop (i+1)).length*2)=cellsE (xs.take i++xs.drop (i+1)):=by
 have k:(cellsE (xs.drop (i+1))).length=(xs.length-(i+1))*2:=by rw[cellsE_len,List.length_drop]
 have a:C1.length=C.length:=by
  rw[b];simp only[List.length_append,cellsE_len,List.length_take,List.length_drop]
  omega
 have d:C1.take ((xs.length-1)*2)=cellsE (xs.take i)++cellsE (xs.drop (i+1)):=by
  rw[b,qo f ω]
  exact eb (by simp only[List.length_append,cellsE_len,List.length_take,List.length_drop];omega)
 have g:(xs.take i++xs.drop (i+1)).length=xs.length-1:=by simp;omega
 rw[e,g,cellsE_append,d];refine⟨?_,?_⟩
 ·simp only[List.length_append,cellsE_len,List.length_take,List.length_drop,List.length_cons,List.length_nil,a]
  omega
 rw[List.append_assoc _ _ (C1.drop _)];exact eb (by simp only[List.length_append,cellsE_len,List.length_take,List.length_drop];omega)
theorem zg{xs:List EnL}:∀ {i:Nat} (n:Int),i<xs.length->(cellsE xs).set (i*2+1) (.int .i64 n)=cellsE (xs.set i ⟨⟨(xs.getD i noL).e.pl,n⟩,(xs.getD i noL).A,(xs.getD i noL).c⟩):=by
 induction xs with
 |nil=>intro i n h;cases h
 |cons x r ih =>
  intro i n h;cases i with
  |zero=>simp[cellsE]
  |succ i =>
   rw[show(i+1)*2+1=(i*2+1)+1+1 by omega]
   simp only[cellsE,List.set_cons_succ,List.getD_cons_succ];rw[ih n (by simpa using h)]
theorem a7.setN{w:World}{g cap:Nat}{xs:List EnL}(h:a7 w g cap xs){i:Nat}(j:i<xs.length)(n:Int):a7 (w.setCell ⟨g,i*2+1,none⟩ (.int .i64 n)) g cap (xs.set i ⟨⟨(xs.getD i noL).e.pl,n⟩,(xs.getD i noL).A,(xs.getD i noL).c⟩)/\w.grownBy (w.setCell ⟨g,i*2+1,none⟩ (.int .i64 n)) (some g):=by
 obtain⟨⟨a,b,k,l⟩,m,o,f⟩:=h;rw[setCell_eq_setRow w g (i*2+1) a _ (0,0) _ b];refine⟨?_,dK ..⟩;refine⟨⟨_,setRow_heap w g a _ _ _ b,by simpa using k,?_⟩,by simpa using m,o,fun y d=>?_⟩
 ·rw[Array.toList_setIfInBounds,List.length_set,←zg n j,←l,List.take_set]
 refine bX.grown (g:=g) ?_ b (dK ..)
 rcases List.mem_or_eq_of_mem_set d with d|rfl
 ·exact f y d
 exact f (xs.getD i noL) (cJ j)
theorem m7(a b:List EnL):lE (a++b)=lE a++lE b:=by simp[lE]
theorem lE_take(a:List EnL)(k:Nat):lE (a.take k)=(lE a).take k:=by simp[lE]
theorem LD(a:List EnL)(k:Nat):lE (a.drop k)=(lE a).drop k:=by simp[lE]
theorem Ny(xs:List EnL)(x:EnL)(i:Nat):lE (xs.take i++x :: xs.drop i)=(lE xs).take i++x.e :: (lE xs).drop i:=by simp[lE]
theorem Mx{l:List En}{p:List Int}(h:hasE l p=false)(n:Int):setL l p n=l.take (cntE l p)++⟨p,n⟩:: l.drop (cntE l p):=by unfold setL;rw[h];rfl
theorem vg{l:List En}{p:List Int}(h:hasE l p=true)(n:Int):setL l p n=l.set (cntE l p) ⟨(l.getD (cntE l p) noEn).pl,n⟩/\cntE l p<l.length/\(l.getD (cntE l p) noEn).pl=p:=by
 have c:cntE l p<l.length:=by
  rcases Nat.lt_or_ge (cntE l p) l.length with h1|h1
  ·exact h1
  rw[(Dg rfl h1).1]at h;cases h
 have a:=Df rfl c;rw[h]at a;have d:(l.getD (cntE l p) noEn).pl=p:=by
  rcases cmpL_three (l.getD (cntE l p) noEn).pl p with⟨b,_⟩|⟨_,_,e⟩|⟨b,_⟩
  ·rw[b]at a;cases a
  ·exact e
  rw[b]at a;cases a
 refine⟨?_,c,d⟩;unfold setL;rw[h,d,if_pos rfl,List.set_eq_take_append_cons_drop,if_pos c]
theorem IJ(xs:List EnL)(i:Nat)(y:EnL):lE (xs.set i y)=(lE xs).set i y.e:=by simp[lE,List.map_set]
theorem tr(x:Int)(w:World):Calls prog 148 #[.int .i64 x] w fun e w'=>e=.returned (.bool false)/\w'=w:=by
 go_enter func148,ntmps148
 go_wp2_with fail;go_ret;exact⟨rfl,rfl⟩
def mR(x y:Int):Int:=if x<y then -1 else if y<x then 1 else 0
theorem wl(x y:Int)(w:World):Calls prog 103 #[.int .i64 x,.int .i64 y] w fun e w'=>e=.returned (.int .i64 (mR x y))/\w'=w:=by
 have c:=tr x;have d:=tr y
 by_cases a:x<y
 ·have HV:Hid (mR x y = -1):=by show _=_;unfold mR;rw[if_pos a]
  go_enter func103,ntmps103
  go_wp2_with fail;refine(c _).mono ?_;rintro e w1⟨rfl,rfl⟩;go_wp2_with fail;refine(d _).mono ?_;rintro e w2⟨rfl,rfl⟩;go_wp2_with fail;go_ret;rw[HV.o];exact⟨rfl,rfl⟩
 by_cases b:y<x
 ·have HV:Hid (mR x y=1):=by show _=_;unfold mR;rw[if_neg a,if_pos b]
  go_enter func103,ntmps103
  go_wp2_with fail;refine(c _).mono ?_;rintro e w1⟨rfl,rfl⟩;go_wp2_with fail;refine(d _).mono ?_;rintro e w2⟨rfl,rfl⟩;go_wp2_with fail;go_ret;rw[HV.o];exact⟨rfl,rfl⟩
 have HV:Hid (mR x y=0):=by show _=_;unfold mR;rw[if_neg a,if_neg b]
 have e:x=y:=ω;subst e
 go_enter func103,ntmps103
 go_wp2_with fail;refine(c _).mono ?_;rintro e w1⟨rfl,rfl⟩;go_wp2_with fail;refine(d _).mono ?_;rintro e w2⟨rfl,rfl⟩;go_wp2_with fail;go_ret;rw[HV.o];exact⟨rfl,rfl⟩
theorem va(A B:Option Addr)(J K:Nat)(a b:List Int)(w:World)(R:a.length<=4)(T:b.length<=4)(L:de w A J a)(M:de w B K b):Calls prog 61 #[.slice A a.length J,.slice B b.length K] w fun e w'=>e=.returned (.int .i64 (cmpL a b))/\w'=w:=by
 have P:=aa L;have Q:=aa M;have F:Hid (∀k,k<a.length->k<b.length->cmpL (a.drop k) (b.drop k)=if a.getD k 0<b.getD k 0 then -1 else if b.getD k 0<a.getD k 0 then 1 else cmpL (a.drop (k+1)) (b.drop (k+1))):=fun k r s=>K6 r s
 have E:Hid (∀k,k<a.length->b.length<=k->cmpL (a.drop k) (b.drop k)=1):=fun k r s=>Em r s
 have G:Hid (∀k,a.length<=k->k<b.length->cmpL (a.drop k) (b.drop k) = -1):=fun k r s=>zn r s
 have D:Hid (∀k,a.length<=k->b.length<=k->cmpL (a.drop k) (b.drop k)=0):=fun k r s=>Hf r s
 obtain⟨na,m⟩:=ar a.length;obtain⟨nb,n⟩:=ar b.length;have z:=aa m;have C:=aa n;rw[m]at F E G D R;rw[n]at F E G D T;rw[m,n];have S:(na:Int)<=4:=ω;have U:(nb:Int)<=4:=ω;clear L M m n
 go_enter func61,ntmps61
 go_wp2_with fail
 go_loopg [11] na (fun g ab wr =>∃(k:Nat),k<=na/\k<=nb/\g=na-k/\ab=.int .i64 k/\Hid (cmpL (a.drop k) (b.drop k)=cmpL a b)/\wr=w)
 case atStart=>exact⟨0,zU,zU,rfl,rfl,(rfl:cmpL (a.drop 0) (b.drop 0)=cmpL a b),rfl⟩
 case round =>
  obtain⟨k,hk,X,rfl,rfl,v,Z⟩:=hrel;subst Z
  by_cases u:k<na
  ·obtain⟨hc,H|⟨g1,o1,rfl,V,f⟩⟩:=P.o
   ·have:=z.o;rw[H]at this;simp at this;omega
   have O:=f k (by rw[z.o];exact u)
   have Y:(k:Int)<(na:Int):=ω;by_cases l:k<nb
   ·obtain⟨W,H|⟨g2,o2,rfl,N,h⟩⟩:=Q.o
    ·have:=C.o;rw[H]at this;simp at this;omega
    have x2:=h k (by rw[C.o];exact l)
    have t:(k:Int)<(nb:Int):=ω;have o:=F.o k u l;have c:=wl (a.getD k 0) (b.getD k 0) wr;generalize a.getD k 0=x at O o c;generalize b.getD k 0=y at x2 o c;have q:=aa o;clear f h o
    by_cases d:x<y
    ·have p:mR x y = -1:=by unfold mR;rw[if_pos d]
     rw[p]at c;have j:Hid (cmpL a b = -1):=by show _=_;rw[←v.o,q.o,if_pos d]
     clear p d;go_wp2_with fail;refine c.mono ?_;rintro e w1⟨rfl,rfl⟩;go_wp2_with fail;go_ret;rw[j.o];exact⟨rfl,rfl⟩
    by_cases i:y<x
    ·have p:mR x y=1:=by unfold mR;rw[if_neg d,if_pos i]
     rw[p]at c;have j:Hid (cmpL a b=1):=by show _=_;rw[←v.o,q.o,if_neg d,if_pos i]
     clear p d i;go_wp2_with fail;refine c.mono ?_;rintro e w1⟨rfl,rfl⟩;go_wp2_with fail;go_ret;rw[j.o];exact⟨rfl,rfl⟩
    have p:mR x y=0:=by unfold mR;rw[if_neg d,if_neg i]
    rw[p]at c;have j:Hid (cmpL (a.drop (k+1)) (b.drop (k+1))=cmpL a b):=by show _=_;rw[←v.o,q.o,if_neg d,if_neg i]
    clear p d i;go_wp2_with fail;refine c.mono ?_;rintro e w1⟨rfl,rfl⟩;go_wp2_with fail
    go_roundg (na-(k+1))
    case measure=>omega
    case rel=>exact⟨k+1,ω,ω,rfl,by go_num,j,rfl⟩
   have j:Hid (cmpL a b=1):=by show _=_;rw[←v.o,E.o k u ω]
   have t:(nb:Int)<=(k:Int):=ω;clear f;generalize a.getD k 0=x at O;go_wp2_with fail;go_ret;rw[j.o];exact⟨rfl,rfl⟩
  have I:k=na:=ω;subst I
  by_cases l:k<nb
  ·have j:Hid (cmpL a b = -1):=by show _=_;rw[←v.o,G.o k zT l]
   have t:(k:Int)<(nb:Int):=ω;go_wp2_with fail;go_ret;rw[j.o];exact⟨rfl,rfl⟩
  have j:Hid (cmpL a b=0):=by show _=_;rw[←v.o,D.o k zT ω]
  have t:(nb:Int)<=(k:Int):=ω;go_wp2_with fail;go_ret;rw[j.o];exact⟨rfl,rfl⟩
theorem tD(A B:Option Addr)(f g:Nat)(a b:List Int)(N:Int)(w:World)(k:a.length<=4)(l:b.length<=4)(i:de w A f a)(j:de w B g b):Rt 25 #[.agg #[.slice A a.length f,.int .i64 N],.slice B b.length g] w (.int .i64 (cmpL a b)):=by
 have h:∀w',Bl w w'->Calls prog 61 #[.slice A a.length f,.slice B b.length g] w' fun e ab=>e=.returned (.int .i64 (cmpL a b))/\ab=w':=fun w' d=>va A B f g a b w' k l (i.later d) (j.later d)
 have H:=aa h;generalize cmpL a b=c at H;generalize a.length=na at H;generalize b.length=nb at H;clear i j h k l
 go_enter func25,ntmps25
 go_wp2_with fail;refine(H.o _ γ).mono ?_
 rintro e w1⟨rfl,rfl⟩;go_wp2_with fail;go_ret;exact⟨rfl,by go_grown⟩
theorem Jo:bo 25:=fun args w=>by simp[callFunc,func25];rfl
def GK(xs:List EnL)(p:List Int):Prop:=(∀k,k<xs.length->(xs.getD k noL).e.pl.length<=4)/\p.length<=4
theorem K4(b o cap:Nat)(xs:List EnL)(Ap:Option Addr)(O:Nat)(p:List Int)(w:World)(hn:xs.length<=3000)(P:jw w b o xs)(hr:(lE xs).Pairwise fun a b=>az a.pl b.pl=true)(Q:GK xs p)(Z:de w Ap O p):
  Rt 219 #[.slice (some ⟨b,o,none⟩) xs.length cap,.slice Ap p.length O,.func (.func 25) #[] #[]] w (.tuple #[.int .i64 (cntE (lE xs) p:Nat),.bool (hasE (lE xs) p)]):=by
 have he:=Jo;unfold bo at he;have J:Hid (∀k wr,k<xs.length->Bl w wr->Rt 25 #[.agg #[.slice (xs.getD k noL).A (xs.getD k noL).e.pl.length (xs.getD k noL).c,.int .i64 (xs.getD k noL).e.n],.slice Ap p.length O] wr (.int .i64 (cmpL (xs.getD k noL).e.pl p))):=fun k wr L Y=>tD _ _ _ _ _ _ _ wr (Q.1 k L) Q.2 ((P.pl L).later Y) (Z.later Y)
 have T:=aa P;have N:Hid (∀j k,j<=k->k<xs.length->cmpL (xs.getD k noL).e.pl p<0->cmpL (xs.getD j noL).e.pl p<0):=fun j k R L h=>by
  have q:az ((lE xs).getD k noEn).pl p=true:=by rw[lE_at,←lC];exact decide_eq_true h
  have m:=Fb hr R (by rw[aR];exact L) q
  rw[lE_at,←lC]at m;exact of_decide_eq_true m
 have M:Hid (∀i,i<=xs.length->(∀t,t<i->cmpL (xs.getD t noL).e.pl p<0)->(i<xs.length->¬cmpL (xs.getD i noL).e.pl p<0)->cntE (lE xs) p=i):=fun i d q m=>Hh _ _ i (by rw[aR];exact d) (fun t C=>by rw[lE_at,←lC];exact decide_eq_true (q t C)) (fun K=>by rw[aR]at K;rw[lE_at,←lC];exact decide_eq_false (m K))
 have I:Hid (∀i,cntE (lE xs) p=i->i<xs.length->hasE (lE xs) p=decide (cmpL (xs.getD i noL).e.pl p=0)):=fun i q m=>by rw[←lE_at];exact(Df q (by rw[aR];exact m)).symm
 have u:Hid (∀i,cntE (lE xs) p=i->xs.length<=i->hasE (lE xs) p=false):=fun i q m=>(Dg q (by rw[aR];exact m)).1
 obtain⟨n,B⟩:=ar xs.length;obtain⟨np,H⟩:=ar p.length;have V:=aa B;rw[B]at hn J N M I u|-;rw[H]at J|-;generalize cntE (lE xs) p=cnt at M I u;generalize hasE (lE xs) p=has at I u;have af:(n:Int)<=3000:=ω;clear P hr Q Z B H
 go_enter func219,ntmps219
 go_wp2_with fail
 go_loopg [9,10] n (fun g s9 ab wr =>∃(lo d:Nat),lo<=d/\d<=n/\g=d-lo/\s9=.int .i64 lo/\ab=.int .i64 d/\Hid (∀t,t<lo->cmpL (xs.getD t noL).e.pl p<0)/\Hid (∀t,d<=t->t<n->¬cmpL (xs.getD t noL).e.pl p<0)/\Bl w wr)
 case atStart=>exact⟨0,n,zU,zT,rfl,rfl,rfl,fun t C=>absurd C (Nat.not_lt_zero _),fun t q m=>absurd m (Nat.not_lt.2 q),zS⟩
 case round =>
  obtain⟨lo,d,ac,E,rfl,rfl,rfl,U,W,f⟩:=hrel;have x:=aa f;have PT:(d:Int)<=(n:Int):=ω;by_cases ae:lo<d
  ·obtain⟨c1,c2⟩:=(T.o.later f).at (k:=(lo+d) / 2) (by rw[V.o];omega)
   have l:=J.o ((lo+d) / 2) wr ω f
   have PU:(lo:Int)<(d:Int):=ω;obtain⟨c,y⟩:=ar (cmpL (xs.getD ((lo+d) / 2) noL).e.pl p);have D:=aa y;rw[y]at l;generalize (xs.getD ((lo+d) / 2) noL).A=A1 at c1 l;generalize (xs.getD ((lo+d) / 2) noL).c=k1 at c1 l;generalize (xs.getD ((lo+d) / 2) noL).e.pl.length=m1 at c1 l;generalize (xs.getD ((lo+d) / 2) noL).e.n=n1 at c2 l;clear y f
   by_cases G:c<0
   ·go_wp2_with fail
    refine l.mono ?_;rintro e w1⟨rfl,r⟩;go_wp2_with fail
    go_roundg (d-((lo+d) / 2+1))
    case measure=>omega
    case rel=>exact⟨(lo+d) / 2+1,d,ω,E,rfl,by congr 1,rfl,fun t C=>N.o t ((lo+d) / 2) ω ω (by rw[D.o];exact G),W,ad x.o r⟩
   go_wp2_with fail;refine l.mono ?_;rintro e w1⟨rfl,r⟩;go_wp2_with fail
   go_roundg ((lo+d) / 2-lo)
   case measure=>omega
   case rel=>exact⟨lo,(lo+d) / 2,ω,ω,rfl,rfl,by congr 1,U,fun t q m=>Int.not_lt.1 fun K=>by have X:=N.o ((lo+d) / 2) t q m K;rw[D.o]at X;omega,ad x.o r⟩
  have S:d=lo:=ω;subst S;have s:Hid (cnt=d):=M.o d E (fun t C=>U.o t C) (fun h=>by have X:=W.o d zT h;omega)
  by_cases z:d<n
  ·obtain⟨c1,c2⟩:=(T.o.later f).at (k:=d) (by rw[V.o];exact z)
   have l:=J.o d wr z f;have v:=aa (I.o d s.o z);generalize cmpL (xs.getD d noL).e.pl p=c at l v;generalize (xs.getD d noL).A=A1 at c1 l;generalize (xs.getD d noL).c=k1 at c1 l;generalize (xs.getD d noL).e.pl.length=m1 at c1 l;generalize (xs.getD d noL).e.n=n1 at c2 l;have F:(d:Int)<(n:Int):=ω;clear f;go_wp2_with fail;refine l.mono ?_;rintro e w1⟨rfl,r⟩;go_wp2_with fail
   go_ret2
   rw[s.o,v.o];exact⟨rfl,ad x.o r⟩
  have v:Hid (has=false):=u.o d s.o ω
  have F:(n:Int)<=(d:Int):=ω;go_wp2_with fail
  go_ret2
  rw[s.o,v.o];exact⟨rfl,f⟩
theorem G3(A:Option Addr)(cap:Nat)(Ap:Option Addr)(a np:Nat)(w:World):Rt 219 #[.slice A 0 cap,.slice Ap np a,.func (.func 25) #[] #[]] w (.tuple #[.int .i64 0,.bool false]):=by
 go_enter func219,ntmps219
 go_wp2_with fail;refine wp_loop_rounds 1 ?_;rw[rounds_succ];go_wp2_with fail
 go_ret2
 exact⟨rfl,zS⟩
theorem tj(A:Option Addr)(cap:Nat)(xs:List EnL)(Ap:Option Addr)(c:Nat)(p:List Int)(w:World)(j:xs.length<=3000)(f:bU w A cap xs)(k:(lE xs).Pairwise fun a b=>az a.pl b.pl=true)(i:GK xs p)(g:de w Ap c p):
  Rt 161 #[.slice A xs.length cap,.slice Ap p.length c] w (.tuple #[.int .i64 (cntE (lE xs) p:Nat),.bool (hasE (lE xs) p)]):=by
 have h:Rt 219 #[.slice A xs.length cap,.slice Ap p.length c,.func (.func 25) #[] #[]] w (.tuple #[.int .i64 (cntE (lE xs) p:Nat),.bool (hasE (lE xs) p)]):=by
  obtain⟨-,-,rfl|⟨b,o,rfl,l⟩⟩:=f
  ·exact G3 A cap Ap c p.length w
  exact K4 b o cap xs Ap c p w j l k i g
 generalize cntE (lE xs) p=cnt at h;generalize hasE (lE xs) p=has at h;generalize xs.length=n at h;generalize p.length=np at h;clear f k i g j
 go_enter func161,ntmps161
 go_wp2_with fail;refine h.mono ?_;rintro e w1⟨rfl,d⟩;go_wp2_with fail
 go_ret2
 exact⟨rfl,d⟩
def fP(w:World)(A:Option Addr)(m c:Nat)(N:Int)(T:Nat):World:=w.alloc (.cells #[.slice A m c,.int .i64 N] T)
theorem jl(w:World)(A:Option Addr)(m c:Nat)(N:Int)(T:Nat):(fP w A m c N T).heap.size=w.heap.size+1:=by unfold fP;simp
theorem eK(w:World)(A:Option Addr)(m c:Nat)(N:Int)(T:Nat):Bl w (fP w A m c N T):=by unfold fP;go_grown
theorem pz(w:World)(A:Option Addr)(m c:Nat)(N:Int)(T:Nat):(fP w A m c N T).cell? ⟨w.heap.size,0,none⟩=some (.slice A m c):=by unfold fP;simp
theorem uR(w:World)(A:Option Addr)(m c:Nat)(N:Int)(T:Nat):(fP w A m c N T).cell? ⟨w.heap.size,1,none⟩=some (.int .i64 N):=by unfold fP;simp
def mh(w:World)(A0:Option Addr)(n cap:Nat)(A:Option Addr)(m c:Nat)(N:Int):World:=fP (aE w A0 n cap 24) A m c N 45
theorem qX(w:World)(A0:Option Addr)(n cap:Nat)(A:Option Addr)(m c:Nat)(N:Int):(mh w A0 n cap A m c N).heap.size=w.heap.size+2:=by unfold mh;rw[jl,aB]
theorem oE(w:World)(A0:Option Addr)(n cap:Nat)(A:Option Addr)(m c:Nat)(N:Int):Bl w (mh w A0 n cap A m c N):=ad (ay ..) (eK ..)
theorem Mc(w:World)(A0:Option Addr)(n cap:Nat)(A:Option Addr)(m c:Nat)(N:Int):(mh w A0 n cap A m c N).cell? ⟨w.heap.size+1,0,none⟩=some (.slice A m c):=by
 have h:=pz (aE w A0 n cap 24) A m c N 45;rw[aB]at h;exact h
theorem DA(w:World)(A0:Option Addr)(n cap:Nat)(A:Option Addr)(m c:Nat)(N:Int):(mh w A0 n cap A m c N).cell? ⟨w.heap.size+1,1,none⟩=some (.int .i64 N):=by
 have h:=uR (aE w A0 n cap 24) A m c N 45;rw[aB]at h;exact h
theorem od(A0:Option Addr)(cap n:Nat)(D:Nat->Dm)(A:Nat->Option Addr)(C:Nat->Nat)(Ae:Option Addr)(ce:Nat)(e:En)(w:World)(q:(ag D n).2.2=0)(s:aL w A0 cap n D A C)(t:de w Ae ce e.pl):
  Rt 24 #[.agg #[.slice A0 n cap],.agg #[.slice Ae e.pl.length ce,.int .i64 e.n]] w (errV (entOne D n e)):=by
 have i:=oE w A0 n cap Ae e.pl.length ce e.n;have h:=FF A0 cap n D A C Ae ce e.pl (mh w A0 n cap Ae e.pl.length ce e.n) (s.later i) (t.later i);have b:=aa i;have f:Hid (w.heap.size+1<(mh w A0 n cap Ae e.pl.length ce e.n).heap.size):=by show _<_;rw[qX];omega
 have d:Hid ((mh w A0 n cap Ae e.pl.length ce e.n).cell? ⟨w.heap.size+1,1,none⟩=some (.int .i64 e.n)):=DA ..;clear s t i
 by_cases g:placeErr D n e.pl=0
 ·by_cases o:leafV D n e.pl=true
  ·have l:=L6 q g o
   rw[g,o,errV_zero]at h;clear g o
   by_cases k:e.n < -1000000
   ·have HV:Hid (errV (entOne D n e)=.iface 71 (.int .i64 1)):=by
     show _=_
     rw[l,if_pos (by simp[dE];omega)];rfl
    generalize e.pl.length=m at h b f d;generalize e.n=N at h b f d k;clear l
    go_enter func24,ntmps24
    go_wp2_with fail;refine h.mono ?_;rintro r w1⟨rfl,a⟩;have c1:=aM a f.o d.o;have c:=aa (ad b.o a);clear a;go_wp2_with fail;go_ret;rw[HV.o];exact⟨rfl,c.o⟩
   by_cases p:1000000<e.n
   ·have HV:Hid (errV (entOne D n e)=.iface 71 (.int .i64 1)):=by
     show _=_
     rw[l,if_pos (by simp[dE];omega)];rfl
    generalize e.pl.length=m at h b f d;generalize e.n=N at h b f d k p;clear l
    go_enter func24,ntmps24
    go_wp2_with fail;refine h.mono ?_;rintro r w1⟨rfl,a⟩;have c1:=aM a f.o d.o;have c:=aa (ad b.o a);clear a;go_wp2_with fail;go_ret;rw[HV.o];exact⟨rfl,c.o⟩
   have HV:Hid (errV (entOne D n e)=.nilIface):=by
    show _=_
    rw[l,if_neg (by simp[dE];omega)];rfl
   generalize e.pl.length=m at h b f d;generalize e.n=N at h b f d k p;clear l
   go_enter func24,ntmps24
   go_wp2_with fail;refine h.mono ?_;rintro r w1⟨rfl,a⟩;have c1:=aM a f.o d.o;have c:=aa (ad b.o a);clear a;go_wp2_with fail;go_ret;rw[HV.o];exact⟨rfl,c.o⟩
  have j:leafV D n e.pl=false:=by simpa using o
  have HV:Hid (errV (entOne D n e)=.iface 71 (.int .i64 6)):=by show _=_;rw[Je q g j];rfl
  rw[g,j,errV_zero]at h;generalize e.pl.length=m at h b;generalize e.n=N at h b;clear g o j f d
  go_enter func24,ntmps24
  go_wp2_with fail;refine h.mono ?_;rintro r w1⟨rfl,a⟩;have c:=aa (ad b.o a);clear a;go_wp2_with fail;go_ret;rw[HV.o];exact⟨rfl,c.o⟩
 have HV:Hid (errV (entOne D n e)=.iface 71 (.int .i64 (placeErr D n e.pl))):=by show _=_;rw[Ft q g,ac g]
 rw[ac g]at h;generalize placeErr D n e.pl=E at h HV;generalize leafV D n e.pl=lf at h;generalize e.pl.length=m at h b;generalize e.n=N at h b;clear g f d
 go_enter func24,ntmps24
 go_wp2_with fail;refine h.mono ?_;rintro r w1⟨rfl,a⟩;have c:=aa (ad b.o a);clear a;go_wp2_with fail;go_ret;rw[HV.o];exact⟨rfl,c.o⟩
def cntN(l:List Nd)(k j:Nat):Nat:=usedTo l k j+(if j+1=l.length then 1 else 0)
def dB(l:List Nd)(k:Nat):List Int:=(List.range l.length).map fun j=>(cntN l k j:Int)
section
variable {l:List Nd} {k j a b:Nat}
theorem fL:(dB l k).length=l.length:=by simp[dB]
theorem o5(h:j<l.length):(dB l k).getD j 0=(cntN l k j:Int):=by simp[dB,List.getD,h]
theorem Kt(l:List Nd)(k j:Nat):usedTo l k j<=2*k:=by
 induction k with
 |zero=>exact zT
 |succ k ih =>
  have:uses (l.getD k bT) j<=2:=by unfold uses;split<;>(try split) <;>(try split) <;>omega
  show usedTo l k j+uses (l.getD k bT) j<=_
  omega
theorem C8(l:List Nd)(k j:Nat):cntN l k j<=2*k+1:=by
 have:=Kt l k j;unfold cntN
 split<;>omega
theorem Ep(h:0<l.length):dB l 0=(List.replicate l.length (0:Int)).set (l.length-1) 1:=by
 apply List.ext_getElem (by simp[dB])
 intro j a b;rw[List.getElem_set];simp only[dB,cntN,usedTo,List.getElem_map,List.getElem_range,List.getElem_replicate]
 by_cases e:l.length-1=j
 ·rw[if_pos ω,if_pos e];rfl
 rw[if_neg ω,if_neg e];rfl
theorem Eo(h:(l.getD k bT).op<=2):dB l (k+1)=dB l k:=by
 have e:∀j,cntN l (k+1) j=cntN l k j:=fun j=>by
  show usedTo l k j+uses (l.getD k bT) j+_=usedTo l k j+_
  rw[uses,if_neg ω]
  rfl
 unfold dB;simp only[e]
theorem Hg(h:2<(l.getD k bT).op)(p:(l.getD k bT).left=(a:Int))(q:(l.getD k bT).right=(b:Int))(g:a<l.length)(i:b<l.length):
  ((dB l k).set a ((cntN l k a:Int)+1)).set b ((((dB l k).set a ((cntN l k a:Int)+1)).getD b 0)+1)=dB l (k+1):=by
 apply List.ext_getElem (by simp[dB])
 intro j r o;have s:j<l.length:=by simpa [dB]using o
 have e:(dB l (k+1))[j]=((usedTo l k j+uses (l.getD k bT) j+(if j+1=l.length then 1 else 0):Nat):Int):=by simp only[dB,cntN,usedTo,List.getElem_map,List.getElem_range]
 have m:∀h,(dB l k)[j]'h=(cntN l k j:Int):=fun h=>by simp only[dB,List.getElem_map,List.getElem_range]
 have n:((dB l k).set a ((cntN l k a:Int)+1)).getD b 0=if a=b then(cntN l k a:Int)+1 else(cntN l k b:Int):=by
  rw[zZ,List.getElem?_set]
  by_cases e:a=b
  ·subst e;simp[fL,g]
  rw[if_neg e,if_neg e,←zZ,o5 i]
 rw[e,uses,if_pos h,p,q,List.getElem_set,List.getElem_set,m,n];unfold cntN
 by_cases c:b=j
 ·subst c
  by_cases d:a=b
  ·subst d
   simp
   omega
  have :¬(a:Int)=(b:Int):=ω;simp[d,this]
  omega
 have h3 :¬(b:Int)=(j:Int):=ω;by_cases f:a=j
 ·subst f
  simp[c,h3]
  omega
 have h4 :¬(a:Int)=(j:Int):=ω;simp[c,h3,f,h4]
theorem e8{x:Nd}{i:Nat}(h:ndErr x i=0)(a:2<x.op):0<=x.left/\x.left<i/\0<=x.right/\x.right<i:=by
 unfold ndErr at h
 split at h
 ·cases h
 rw[if_neg ω,if_neg ω]at h
 split at h
 ·cases h
 omega
theorem tV(a:∀j,j<l.length->ndErr (l.getD j bT) j=0):∀k,k<=l.length->usedTo l k (l.length-1)=0
 | 0,_=>rfl
 |k+1,hk=>by
  have b:=tV a k ω
  show usedTo l k (l.length-1)+uses (l.getD k bT) (l.length-1)=0
  rw[b];unfold uses
  split
  ·rename_i h
   have:=e8 (a k ω) h
   rw[if_neg ω,if_neg ω]
  rfl
end
theorem pJ.nd{w:World}{b o:Nat}{l:List Nd}{k:Nat}(h:pJ w b o l)(a:k<l.length):w.cell? ⟨b,o+k*5,none⟩=some (.int .i64 (l.getD k bT).op)/\w.cell? ⟨b,o+k*5+1,none⟩=some (.int .i64 (l.getD k bT).n)/\w.cell? ⟨b,o+k*5+2,none⟩=some (.string (l.getD k bT).name)/\w.cell? ⟨b,o+k*5+3,none⟩=some (.int .i64 (l.getD k bT).left)/\w.cell? ⟨b,o+k*5+4,none⟩=some (.int .i64 (l.getD k bT).right):=h.2 k a
theorem Ku(b o cap:Nat)(l:List Nd)(w:World)(h0:0<l.length)(ah:l.length<=30)(hN:pJ w b o l)(hg:∀j,j<l.length->ndErr (l.getD j bT) j=0):
  Calls prog 209 #[.slice (some ⟨b,o,none⟩) l.length cap] w fun e w'=>(∃A c,e=.returned (.slice A (dB l l.length).length c)/\dG w' A c (dB l l.length))/\Bl w w':=by
 have HG:=aa hg;have Y:=aa hN;have q:Hid ((dB l l.length).length=l.length):=fL;have D:=run_make_row' (P:=prog) 42 3 (.int .i64 0) 8 underlying42 infoIntP rfl .i64 .i64 l.length ω ω
 have R:=Ep h0;obtain⟨n,hn⟩:∃n,l.length=n+1:=⟨l.length-1,ω⟩
 rw[hn]at D q R|-;have aq:(n:Int)<=29:=ω;have HZ:=aa R;have z:el (w.alloc (.cells (madeCells #[.int .i64 0] (n+1)) 3)) w.heap.size (List.replicate (n+1) 0):=el.made w (n+1);have y0:=z.cell (j:=n) σ
 have yf:=z.frozen n;have N:(List.replicate (n+1) (0:Int)).getD n 0=0:=by simp[List.getD]
 rw[N]at y0;have U:Hid (el (w.alloc (.cells ((madeCells #[.int .i64 0] (n+1)).setIfInBounds n (.int .i64 1)) 3)) w.heap.size (dB l 0)):=by
  show el _ _ _
  unfold el;rw[R,heap_alloc_new,ts,List.setIfInBounds_toArray,List.map_set]
  rfl
 have ac:∀w:World,(Instr.makeSlice 42 (.int .i64 ((n:Int)+1)) (.int .i64 ((n:Int)+1))).run prog w=.ok (.slice (some ⟨w.heap.size,0,none⟩) (n+1) (n+1)) (w.alloc (.cells (madeCells #[.int .i64 0] (n+1)) 3)):=D;clear R hg hN z N D
 go_enter func209,ntmps209
 go_wp2_with fail
 go_loopg [19] (n+1) (fun g ae wr =>∃(k:Nat),k<=n+1/\g=n+1-k/\ae=.int .i64 k/\el wr w.heap.size (dB l k)/\Bl w wr)
 case atStart=>exact⟨0,zU,rfl,rfl,U.o,by go_grown⟩
 case round =>
  obtain⟨k,hk,rfl,rfl,Z,J⟩:=hrel;have F:=aa Z;have H:=aa J;clear Z J
  by_cases ao:k<n+1
  ·have am:(k:Int)<(n:Int)+1:=ω;obtain⟨x0,x1,x2,x3,x4⟩:=(Y.o.later H.o).nd (k:=k) ω
   have h:=E6 (l.getD k bT).op;have ak:b<w.heap.size:=Y.o.1;have au:=H.o.size;have ai:=F.o.lt;obtain⟨x,X⟩:=ar (l.getD k bT);have I:=aa X;rw[X]at x0 x1 x2 x3 x4 h;clear X;have m:Hid (Bl wr (wr.alloc (.cells #[.int .i64 x.op,.int .i64 x.n,.string x.name,.int .i64 x.left,.int .i64 x.right] 223))):=(zS).alloc zT _;have f:=HG.o k ω
   rw[I.o]at f
   by_cases E:x.op≠1/\x.op≠2
   ·have M:2<x.op:=by
     unfold ndErr at f
     split at f
     ·cases f
     omega
    obtain⟨l0,l1,r0,r1⟩:=e8 f M;obtain⟨a,O⟩:∃a:Nat,x.left=a:=⟨x.left.toNat,ω⟩
    obtain⟨c,t⟩:∃c:Nat,x.right=c:=⟨x.right.toNat,ω⟩
    have s:a<l.length:=ω;have C:c<l.length:=ω;have G:Hid (((dB l k).set a ((cntN l k a:Int)+1)).set c ((((dB l k).set a ((cntN l k a:Int)+1)).getD c 0)+1)=dB l (k+1)):=Hg (by rw[I.o];exact M) (by rw[I.o];exact O) (by rw[I.o];exact t) s C
    have an:=C8 l k a;obtain⟨u,B⟩:∃u:Nat,cntN l k a=u:=⟨_,rfl⟩;rw[decide_eq_true E]at h;rw[O]at x3;rw[t]at x4;rw[O,t]at m;have L:∀e:Int,((dB l k).set a ((u:Int)+1)).getD c 0=e->0<=e/\e<=200:=by
     intro e Q;rw[zZ,List.getElem?_set]at Q
     by_cases K:a=c
     ·rw[if_pos K,if_pos (by rw[fL];exact s)]at Q
      simp at Q;omega
     rw[if_neg K,←zZ,o5 C]at Q;have:=C8 l k c
     omega
    rw[B]at G;obtain⟨V,i⟩:∃V:Int,((dB l k).set a ((u:Int)+1)).getD c 0=V:=⟨_,rfl⟩;obtain⟨af,ag⟩:=L V i;have T:=aa i;rw[i]at G;have aj:(a:Int)<(n:Int)+1:=ω;have al:(c:Int)<(n:Int)+1:=ω;have ab:(u:Int)<=200:=ω;have S:=aa B;clear f E l0 l1 r0 r1 L i B;go_wp2_with fail;refine(h _).mono ?_;rintro e w1⟨rfl,d⟩;have v:=aa (ad H.o (ad m.o d));have p:=aa (F.o.later (ad m.o d));have r:w1.heap[wr.heap.size]?=some (.cells #[.int .i64 x.op,.int .i64 x.n,.string x.name,.int .i64 a,.int .i64 c] 223 (0,0)):=by
     rw[d.block wr.heap.size σ]
     have:=heap_alloc_new wr (.cells #[.int .i64 x.op,.int .i64 x.n,.string x.name,.int .i64 a,.int .i64 c] 223)
     simpa [O,t]using this
    have z3:w1.cell? ⟨wr.heap.size,3,none⟩=some (.int .i64 a):=by simp[World.cell?,r]
    have z4:w1.cell? ⟨wr.heap.size,4,none⟩=some (.int .i64 c):=by simp[World.cell?,r]
    have i1:=p.o.cell (j:=a) (by rw[fL];exact s)
    rw[o5 s,S.o]at i1;have i2:=p.o.frozen a;have y:Hid (el (w1.setCell ⟨w.heap.size,a,none⟩ (.int .i64 ((u:Int)+1))) w.heap.size ((dB l k).set a ((u:Int)+1))):=p.o.set a _;have i3:=y.o.cell (j:=c) (by rw[List.length_set,fL];exact C)
    rw[T.o]at i3;have i4:=y.o.frozen c;have ap:wr.heap.size≠w.heap.size:=ω;have av:(w1.setCell ⟨w.heap.size,a,none⟩ (.int .i64 ((u:Int)+1))).cell? ⟨wr.heap.size,4,none⟩=some (.int .i64 c):=by
     rw[World.cell?_setCell_other _ _ _ _ (by first|(simp;done)|(simp;omega))];exact z4
    clear d r h;go_wp2_with fail
    go_roundg (n+1-(k+1))
    case measure=>omega
    case rel=>exact⟨k+1,ω,rfl,by go_num,by rw[←G.o];exact y.o.set c _,(v.o.setCell zT _).setCell zT _⟩
   rw[decide_eq_false E]at h;have G:Hid (dB l (k+1)=dB l k):=Eo (by rw[I.o];omega)
   clear f E;go_wp2_with fail;refine(h _).mono ?_;rintro e w1⟨rfl,d⟩;have v:=aa (ad H.o (ad m.o d));have p:=aa (F.o.later (ad m.o d));clear d h;go_wp2_with fail
   go_roundg (n+1-(k+1))
   case measure=>omega
   case rel=>exact⟨k+1,ω,rfl,by go_num,by rw[G.o];exact p.o,v.o⟩
  have W:k=n+1:=ω;subst W;go_wp2_with fail;go_ret;refine⟨⟨some ⟨w.heap.size,0,none⟩,n+1,by rw[q.o];rfl,?_⟩,H.o⟩
  refine⟨by rw[q.o];exact zT,Or.inr ⟨_,rfl,F.o.lt,fun j E=>F.o.cell E⟩⟩
theorem KY{l:List Nd}(p:0<l.length)(n:∀j,j<l.length->ndErr (l.getD j bT) j=0):mJ (fun x=>decide (x≠1)) (dB l l.length)=decide (∃j,j<l.length-1/\ma l j=true):=by
 have o:=tV n l.length zT;have k:∀j,j<l.length->(dB l l.length).getD j 0=(cntN l l.length j:Int):=fun j h=>o5 h
 cases hx:decide (∃j,j<l.length-1/\ma l j=true)
 ·unfold mJ
  rw[List.any_eq_false];intro x g;obtain⟨i,d,rfl⟩:=List.getElem_of_mem g;have f:i<l.length:=by rw[fL]at d;exact d
  have e:(dB l l.length)[i]=(cntN l l.length i:Int):=by rw[←k i f,List.getD,zX d];rfl
  rw[e];have m:cntN l l.length i=1:=by
   unfold cntN
   by_cases a:i+1=l.length
   ·rw[if_pos a,show i=l.length-1 by omega,o]
   rw[if_neg a];have:=(decide_eq_false_iff_not.1 hx)
   by_cases c:ma l i=true
   ·exact absurd ⟨i,ω,c⟩ this
   simpa [ma]using c
  rw[m]
  decide
 obtain⟨j,h,c⟩:=of_decide_eq_true hx;unfold mJ;rw[List.any_eq_true];have b:j<(dB l l.length).length:=by rw[fL];omega
 refine⟨(dB l l.length)[j],List.getElem_mem b,?_⟩;have e:(dB l l.length)[j]=(cntN l l.length j:Int):=by rw[←k j ω,List.getD,zX b];rfl
 rw[e];unfold cntN;rw[if_neg ω]
 have:usedTo l l.length j≠1:=of_decide_eq_true c
 simp
 omega
theorem jO(A:Option Addr)(cap:Nat)(l:List Nd)(w:World)(I:kx w A cap l):Rt 154 #[.slice A l.length cap] w (errV (ax l)):=by
 obtain⟨hc,X,V|⟨b,o,rfl,I⟩⟩:=I
 ·subst V
  rw[mX rfl,ac (by decide)]
  simp only[List.length_nil]
  go_enter func154,ntmps154
  go_wp2_with fail;go_ret;exact⟨rfl,zS⟩
 by_cases p:l.length=0
 ·rw[mX p,ac (by decide),p]
  go_enter func154,ntmps154
  go_wp2_with fail;go_ret;exact⟨rfl,zS⟩
 have G:0<(l.length:Int):=ω;have Q:((l.length:Int) == 0)=false:=by simpa using p
 by_cases N:30<l.length
 ·have t:30<(l.length:Int):=ω;rw[tb N,ac (by decide)]
  go_enter func154,ntmps154
  go_wp2_with fail;go_ret;exact⟨rfl,zS⟩
 have t:(l.length:Int)<=30:=ω;have K:=aa I;obtain⟨n,T⟩:=ar l.length;have C:=aa T;rw[T]at Q G t|-;clear I
 go_enter func154,ntmps154
 go_wp2_with fail
 go_loopg [16] n (fun g ab wr =>∃(k:Nat),k<=n/\g=n-k/\ab=.int .i64 k/\(∀j,j<k->ig l j=false)/\Bl w wr)
 case atStart=>exact⟨0,zU,rfl,rfl,fun j B=>absurd B (Nat.not_lt_zero j),zS⟩
 case round =>
  obtain⟨k,hk,rfl,rfl,F,v⟩:=hrel;have q:=aa F;have E:=aa v;have W:b<w.heap.size:=K.o.1;have PT:=v.size;clear F v
  by_cases Z:k<n
  ·have Y:(k:Int)<(n:Int):=ω;obtain⟨x0,x1,x2,x3,x4⟩:=(K.o.later E.o).nd (k:=k) ω
   have d:=I6 (l.getD k bT) k;obtain⟨x,S⟩:=ar (l.getD k bT);have M:=aa S;rw[S]at x0 x1 x2 x3 x4 d;rw[ga]at d;clear S
   by_cases y:ndErr x k=0
   ·rw[y,errV_zero]at d
    have J:Hid (ig l k=false):=by show ig l k=false;unfold ig;rw[M.o,y];rfl
    clear y;go_wp2_with fail;refine(d _).mono ?_;rintro e w1⟨rfl,c⟩;have f:Hid (Bl w w1):=ad E.o (ad γ c)
    clear c d;go_wp2_with fail
    go_roundg (n-(k+1))
    case measure=>omega
    case rel=>exact⟨k+1,ω,rfl,by go_num,fun j B=>by rcases Nat.lt_succ_iff_lt_or_eq.1 B with h|h;exact q.o j h;rw[h];exact J.o,f.o⟩
   have D:Hid (ax l=ndErr x k):=by
    have h:=wQ (l:=l) (i:=k) ω ω (by unfold ig;rw[M.o];simpa using y) q.o
    rw[M.o]at h;exact h
   rw[ac y]at d;have U:Hid (errV (ax l)=.iface 71 (.int .i64 (ndErr x k))):=by show _=_;rw[D.o,ac y]
   generalize ndErr x k=ec at *;clear y;go_wp2_with fail;refine(d _).mono ?_;rintro e w1⟨rfl,c⟩;have f:Hid (Bl w w1):=ad E.o (ad γ c)
   clear c d;go_wp2_with fail;go_ret;exact⟨by rw[U.o];rfl,f.o⟩
  have P:k=n:=ω;subst P;have O:∀j,j<l.length->ndErr (l.getD j bT) j=0:=fun j B=>by
   have h:=q.o j (by have:=C.o;omega)
   simpa [ig]using h
  have r:=Ku b o cap l wr ω ω (K.o.later E.o) O
  rw[C.o]at r;have L:=aa (KY (l:=l) ω O)
  have s:Hid (∀j,j<l.length->ig l j=false):=fun j B=>q.o j (by have:=C.o;omega)
  clear O;go_wp2_with fail;refine r.mono ?_;rintro e w1⟨⟨A1,c1,rfl,z⟩,c⟩;have f:=aa (ad E.o c);have a:=sF 210 #[] (fun x=>decide (x≠1)) zI A1 c1 (dB l k) w1 (by rw[fL];omega) z (fun x w' _=>wM x w')
  have H:=L.o;rw[C.o]at H;rw[H]at a;cases hd:decide (∃j,j<k-1/\ma l j=true)
  ·have D:Hid (ax l=0):=by
    refine td p ω s.o fun j B=>?_
    have:=of_decide_eq_false hd;cases R:ma l j
    ·rfl
    exact absurd ⟨j,by have:=C.o;omega,R⟩ this
   rw[hd]at a;clear z c r hd H;go_wp2_with fail;refine a.mono ?_;rintro e w2⟨rfl,m⟩;have u:=aa (ad f.o m);clear m a;go_wp2_with fail;go_ret;exact⟨by rw[D.o];rfl,u.o⟩
  have D:Hid (ax l=3):=by
   obtain⟨j,B,R⟩:=of_decide_eq_true hd;exact wR p ω s.o (i:=j) (by have:=C.o;omega) R
  rw[hd]at a;clear z c r hd H;go_wp2_with fail;refine a.mono ?_;rintro e w2⟨rfl,m⟩;have u:=aa (ad f.o m);clear m a;go_wp2_with fail;go_ret;exact⟨by rw[D.o];rfl,u.o⟩
def PS:Unit->ByteArray->Unit:=fun _ _=>()
def Ip(s:ByteArray):Rd Unit×Bool:=iz s PS ⟨0,0,()⟩
def eZ(s:ByteArray):Rd Bld×Bool:=iz s takeB ⟨0,0,noB⟩
def fU(s:ByteArray):List Nd:=(settleB 0 (eZ s).1.st).nodes
def prsE(s:ByteArray):Int:=if 100<s.size then(if(Ip s).2=true then 4 else 2)else if(eZ s).2=true then ax (fU s)else 2
def mo(s:ByteArray):Nat:=if 100<s.size then(if(Ip s).2=true then 0 else(Ip s).1.at')else if(eZ s).2=true then 0 else(eZ s).1.at'
def bK(s:ByteArray):List Nd:=if prsE s=0 then fU s else[]
theorem Bm{w:World}{N:Nat}{A:Option Addr}{c:Nat}{l:List Nd}(h:w.ownsRow N 223 5 (.slice A l.length c) l.length (bV l)):kx w A c l:=by
 rcases h.2 with⟨d,i⟩|⟨g,cap,f,d,r,n,m,p,s,t⟩
 ·simp only[Value.slice.injEq]at d
  obtain⟨rfl,-,rfl⟩:=d;exact⟨ω,ω,Or.inl (List.eq_nil_of_length_eq_zero i)⟩
 cases d;refine⟨m,by unfold maxLen at p;omega,Or.inr ⟨g,0,rfl,(zY n).1,fun k o=>?_⟩⟩
 have a:∀j u,(bV l)[j]?=some u->w.cell? ⟨g,j,none⟩=some u:=fun j u q=>by
  have e:=h.cells (g:=g) rfl j u q;have b:(⟨g,0,none⟩:Addr).add j=⟨g,j,none⟩:=by unfold Addr.add;split<;>simp_all
  rw[b]at e;exact e
 obtain⟨a0,a1,a2,a3,a4⟩:=mL l k o;simp only[Nat.zero_add];exact⟨a _ _ a0,a _ _ a1,a _ _ a2,a _ _ a3,a _ _ a4⟩
def ld(w:World):World:=w.alloc (.cells #[.slice none 0 0,.slice none 0 0,.slice none 0 0] 265)
theorem Dt(w:World):dh (w.heap.size+4) w.heap.size noB (ld w):=by
 refine⟨none,0,none,0,none,0,ω,heap_alloc_new w _,World.ownsRow_nil _ _ _ _,World.ownsRow_nil _ _ _ _,World.ownsRow_nil _ _ _ _,?_⟩
 intro g a;cases a
theorem gu(w:World):(ld w).heap.size=w.heap.size+1:=by unfold ld;simp
theorem qI(w:World):Bl w (ld w):=by unfold ld;go_grown
theorem fI{w w1 w2:World}{p:Nat}(h:Bl w w1)(a:Kept w1.heap.size (fun k=>k=p) w1 w2)(c:w.heap.size<=p):Bl w w2 :=
 ⟨a.os.trans h.os,a.tape.trans h.tape,a.output.trans h.output,zV h.size a.size,fun k b=>by
  rw[a.block k (zW b h.size) ω]
  exact h.block k b⟩
theorem Dd:FitB 0 0 false noB:=⟨rfl,by decide,zT,zT,zT⟩
theorem qS{S:Type}{s:ByteArray}{tk:S->ByteArray->S}:∀(f:Nat) (r:Rd S),r.at'<=s.size->(opensR s tk f r).at'<=s.size
 | 0,r,h=>h
 |f+1,r,h=>by
  rw[opensR]
  split
  ·rename_i h40
   exact qS f _ (iL (o:=0) h h40).1
  exact h
theorem mP{S:Type}{s:ByteArray}{tk:S->ByteArray->S}:∀(f:Nat) (r:Rd S),r.at'<=s.size->(aX s tk f r).at'<=s.size
 | 0,r,h=>h
 |f+1,r,h=>by
  rw[aX]
  split
  ·rename_i h41
   exact mP f _ (gB (o:=0) h h41.2).1
  exact h
theorem eB{S:Type}{s:ByteArray}{tk:S->ByteArray->S}(r:Rd S)(h:r.at'<=s.size):(aw s tk r).1.at'<=s.size:=by
 have a:(bA s tk r).at'<=s.size:=qS _ r h;unfold aw
 split
 ·rename_i hd
  exact mP _ _ (pZ (o:=0) a hd).1
 split
 ·rename_i hl
  exact mP _ _ (qz (o:=0) a hl).1
 exact a
theorem uv{S:Type}{s:ByteArray}{tk:S->ByteArray->S}:∀(f:Nat) (r:Rd S),r.at'<=s.size->(dv s tk f r).1.at'<=s.size
 | 0,r,h=>h
 |f+1,r,h=>by
  have a:(cS s tk r).1.at'<=s.size:=by
   unfold cS
   split
   ·exact h
   rename_i hs
   exact(DM (o:=0) h hs).1
  rw[dv]
  split
  ·split
   ·split
    ·exact uv f _ (eB _ a)
    exact eB _ a
   exact a
  exact h
theorem GP{S:Type}{s:ByteArray}{tk:S->ByteArray->S}(r:Rd S)(h:r.at'<=s.size):(iz s tk r).1.at'<=s.size:=by
 unfold iz
 split
 ·split
  ·exact uv _ _ (eB _ h)
  exact uv _ _ (eB _ h)
 exact eB _ h
theorem x7{w:World}{q:Nat}{x y a b:Value}{T:Nat}(h:w.heap[q]?=some (.cells #[x,y] T)):((w.setCell ⟨q,0,none⟩ a).setCell ⟨q,1,none⟩ b).heap[q]?=some (.cells #[a,b] T):=by
 simp[World.setCell,Array.getElem?_modify,h]
theorem qZ{w w':World}{q:Nat}{a b:Value}(h:w.grownBy w' (some q)):w.grownBy ((w'.setCell ⟨q,0,none⟩ a).setCell ⟨q,1,none⟩ b) (some q):=
 ⟨h.os,h.tape,h.output,by simpa [World.setCell]using h.size,fun i d c=>(Below.heap_setCell _ ⟨q,1,none⟩ b i fun e=>c (by rw[e])).trans ((Below.heap_setCell w' ⟨q,0,none⟩ a i fun e=>c (by rw[e])).trans (h.block i d c))⟩
theorem k8{w w1 w2:World}{r:Option Nat}(h:w.grownBy w1 r)(k:Bl w1 w2):w.grownBy w2 r :=
 ⟨k.os.trans h.os,k.tape.trans h.tape,k.output.trans h.output,zV h.size k.size,fun i a b=>(k.block i (zW a h.size)).trans (h.block i a b)⟩
theorem ff{w:World}{q:Nat}{x y:Value}{T:Nat}(h:w.heap[q]?=some (.cells #[x,y] T)):w.cell? ⟨q,0,none⟩=some x/\w.cell? ⟨q,1,none⟩=some y/\w.frozen? ⟨q,0,none⟩=false/\w.frozen? ⟨q,1,none⟩=false :=
 ⟨by rw[Lib.cell_of_heap h];rfl,by rw[Lib.cell_of_heap h];rfl,Lib.frozen_of_heap h 0,Lib.frozen_of_heap h 1⟩
theorem Gl{M:Nat->Mem}{at':Int->Int×Int}{P:List Int}{k:Nat}(h:k<P.length):(P.take (k+1)).foldl (bE M at') (0,0)=bE M at' ((P.take k).foldl (bE M at') (0,0)) (P.getD k 0):=by
 rw[List.take_succ_eq_append_getElem h,List.foldl_append,zZ,zX h]
 rfl
def rX(w:World)(q:Nat)(v:Value):Prop:=q<w.heap.size/\w.cell? ⟨q,0,none⟩=some v
theorem rX.same{w w':World}{q:Nat}{v:Value}(h:rX w q v)(c:w.heap.size<=w'.heap.size)(b:w'.heap[q]?=w.heap[q]?):rX w' q v :=
 ⟨zW h.1 c,(World.cell?_of_block (a:=⟨q,0,none⟩) b).trans h.2⟩
theorem rX.later{w w':World}{q:Nat}{v:Value}(h:rX w q v)(a:Bl w w'):rX w' q v:=h.same a.size (a.block q h.1)
theorem Ef{w w':World}{g i j:Nat}{a b:Value}(h:w.grownBy w' (some g)):w.grownBy ((w'.setCell ⟨g,i,none⟩ a).setCell ⟨g,j,none⟩ b) (some g):=
 ⟨h.os,h.tape,h.output,by simpa [World.setCell]using h.size,fun k d c=>(Below.heap_setCell _ ⟨g,j,none⟩ b k fun e=>c (by rw[e])).trans ((Below.heap_setCell w' ⟨g,i,none⟩ a k fun e=>c (by rw[e])).trans (h.block k d c))⟩
theorem za{w w':World}{q g:Nat}{v:Value}(h:rX w q v)(a:q≠g)(b:w.grownBy w' (some g)):rX w' q v:=h.same b.size (b.block q h.1 fun e=>a (by simpa using e))
theorem JY{l:List En}{p:List Int}(h:∀e∈l,az e.pl p=true)(x:Int):setL l p x=l++[⟨p,x⟩]:=by
 have c:l.takeWhile (fun e=>az e.pl p)=l:=by
  induction l with
  |nil=>rfl
  |cons e r ih=>rw[List.takeWhile_cons,if_pos (h e (List.mem_cons_self ..)),ih fun y d=>h y (List.mem_cons_of_mem _ d)]
 have a:cntE l p=l.length:=by unfold cntE;rw[c]
 have b:hasE l p=false:=by unfold hasE;rw[a,List.drop_length]
 unfold setL;rw[b,a]
 simp
end Go.Proofs.YtjfampgnhccodaaGreatDoor
