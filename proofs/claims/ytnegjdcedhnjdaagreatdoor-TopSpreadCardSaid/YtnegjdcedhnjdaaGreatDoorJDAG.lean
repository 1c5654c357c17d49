/-
  One that goes to its place; the insertion sort; blocks in order, two by two: plain facts.
-/
import Derived.Deep.Slices
import Derived.Deep.Strs
import Derived.Deep.Fields
import Derived.BigQuiet
import Derived.Shelf.Small.Strs
import Derived.SizedLaws
import Derived.Test.YtnegjdcedhnjdaaGreatDoorJDAF
namespace Go.Proofs.YtnegjdcedhnjdaaGreatDoor
open Go.Sort
set_option linter.unusedSectionVars false
variable {α:Type} [Inhabited α] {lt tot:α→α→Bool} {ix:α→Nat}
theorem mvr_spec:∀ (n a:Nat) (d:Array α),a+n<d.size→Rot a (a+1) (a+1+n) d (swr a (a+1) n d):=by
 intro n
 induction n with
 | zero=>exact fun a d h=>⟨rfl,fun k ka kb=>by omega,fun k ka kb=>by show d[k]! = _;congr 1;omega,fun k hk=>rfl,permIn_refl d _ _⟩
 | succ n ih =>
  intro a d h
  have hs:(swp d a (a+1)).size=d.size:=size_swp d _ _
  obtain ⟨r1,r2,r3,r4,r5⟩:=ih (a+1) (swp d a (a+1)) (by omega)
  have p1:=swp_permIn d a (a+1+(n+1)) a (a+1) (by omega) (by omega) (by omega) (by omega) (by omega)
  refine ⟨r1.trans hs,fun k ka kb=>?_,fun k ka kb=>?_,fun k hk=>?_,permIn_trans d _ _ _ _ p1 (permIn_mono _ _ (a+1) (a+1+1+n) a _ (by omega) (by omega) (by omega) r5)⟩
  ·by_cases e:k=a
   ·subst e
    show (swr (k+1) (k+1+1) n (swp d k (k+1)))[k]! = _
    rw [r4 k (by omega),swp_left d k (k+1) (by omega) (by omega)];congr 1;omega
   ·show (swr (a+1) (a+1+1) n (swp d a (a+1)))[k]! = _
    rw [r2 k (by omega) (by omega),swp_other d a (a+1) _ (by omega) (by omega)];congr 1;omega
  ·show (swr (a+1) (a+1+1) n (swp d a (a+1)))[k]! = _
   rw [r3 k (by omega) (by omega),show k-(a+1+1+n-(a+1+1))=a+1 by omega,swp_right d a (a+1) (by omega)];congr 1;omega
  ·show (swr (a+1) (a+1+1) n (swp d a (a+1)))[k]! = _
   rw [r4 k (by omega),swp_other d a (a+1) k (by omega) (by omega)]
def mvl:Nat→Nat→Array α→Array α
 | 0,_,d=>d
 | n+1,m,d=>mvl n (m-1) (swp d m (m-1))
theorem mvl_spec:∀ (n m:Nat) (d:Array α),n≤m→m<d.size→Rot (m-n) m (m+1) d (mvl n m d):=by
 intro n
 induction n with
 | zero=>exact fun m d _ h=>⟨rfl,fun k ka kb=>by show d[k]! = _;congr 1;omega,fun k ka kb=>by omega,fun k hk=>rfl,permIn_refl d _ _⟩
 | succ n ih =>
  intro m d hn h
  have hs:(swp d m (m-1)).size=d.size:=size_swp d _ _
  obtain ⟨r1,r2,r3,r4,r5⟩:=ih (m-1) (swp d m (m-1)) (by omega) (by omega)
  have p1:=swp_permIn d (m-(n+1)) (m+1) m (m-1) (by omega) (by omega) (by omega) (by omega) (by omega)
  refine ⟨r1.trans hs,fun k ka kb=>?_,fun k ka kb=>?_,fun k hk=>?_,permIn_trans d _ _ _ _ p1 (permIn_mono _ _ (m-1-n) (m-1+1) _ _ (by omega) (by omega) (by omega) r5)⟩
  ·show (mvl n (m-1) (swp d m (m-1)))[k]! = _
   rw [r2 k (by omega) (by omega),show k-(m-1-n)+(m-1)=m-1 by omega,swp_right d m (m-1) (by omega)];congr 1;omega
  ·by_cases e:k=m
   ·subst e
    show (mvl n (k-1) (swp d k (k-1)))[k]! = _
    rw [r4 k (by omega),swp_left d k (k-1) (by omega) (by omega)];congr 1;omega
   ·show (mvl n (m-1) (swp d m (m-1)))[k]! = _
    rw [r3 k (by omega) (by omega),swp_other d m (m-1) _ (by omega) (by omega)];congr 1;omega
  ·show (mvl n (m-1) (swp d m (m-1)))[k]! = _
   rw [r4 k (by omega),swp_other d m (m-1) k (by omega) (by omega)]
theorem one_right (T:Tie lt tot ix) {a b i:Nat} {d d':Array α} (W:TwoP tot ix a (a+1) b d) (hi:a+1≤i) (hib:i≤b) (hb:b≤d.size)
  (hl:i=a+1∨tot d[i-1]! d[a]! = true) (hr:i=b∨tot d[i]! d[a]! = false) (R:Rot a (a+1) i d d'):SortedIn tot a b d'∧PermIn a b d d':=by
 obtain ⟨r1,r2,r3,r4,r5⟩:=R
 have rle:∀ i j,a+1≤i→i≤j→j<b→tot d[j]! d[i]! = false:=fun i j hi hij hj=>by
  rcases Nat.lt_or_eq_of_le hij with h | rfl
  ·exact W.r i j hi h hj
  ·exact T.S.irrefl _
 refine ⟨fun p q hp hpq hq=>?_,permIn_mono d d' a i a b (Nat.le_refl _) hib hb r5⟩
 have last:d'[i-1]! = d[a]! := by rw [r3 (i-1) (by omega) (by omega)];congr 1;omega
 by_cases c1:q<i-1
 ·rw [r2 p (by omega) (by omega),r2 q (by omega) (by omega)];exact rle _ _ (by omega) (by omega) (by omega)
 ·by_cases c2:q=i-1
  ·rw [c2,last,r2 p (by omega) (by omega)]
   rcases hl with h | h
   ·omega
   ·exact le_trans' T (rle _ (i-1) (by omega) (by omega) (by omega)) (T.asym h)
  ·rw [r4 q (by omega)]
   by_cases c3:p<i-1
   ·rw [r2 p (by omega) (by omega)];exact rle _ _ (by omega) (by omega) (by omega)
   ·by_cases c4:p=i-1
    ·rw [c4,last]
     rcases hr with h | h
     ·omega
     ·exact le_trans' T h (rle i q (by omega) (by omega) (by omega))
    ·rw [r4 p (by omega)];exact rle _ _ (by omega) (by omega) (by omega)
theorem one_left (T:Tie lt tot ix) {a m i:Nat} {d d':Array α} (W:TwoP tot ix a m (m+1) d) (hi:a≤i) (him:i≤m) (hb:m+1≤d.size)
  (hl:i=a∨tot d[m]! d[i-1]! = false) (hr:i=m∨tot d[m]! d[i]! = true) (R:Rot i m (m+1) d d'):SortedIn tot a (m+1) d'∧PermIn a (m+1) d d':=by
 obtain ⟨r1,r2,r3,r4,r5⟩:=R
 have lle:∀ i j,a≤i→i≤j→j<m→tot d[j]! d[i]! = false:=fun i j hi hij hj=>by
  rcases Nat.lt_or_eq_of_le hij with h | rfl
  ·exact W.l i j hi h hj
  ·exact T.S.irrefl _
 refine ⟨fun p q hp hpq hq=>?_,permIn_mono d d' i (m+1) a (m+1) hi (Nat.le_refl _) hb r5⟩
 have first:d'[i]! = d[m]! := by rw [r2 i (by omega) (by omega)];congr 1;omega
 by_cases c1:q<i
 ·rw [r4 p (by omega),r4 q (by omega)];exact lle _ _ hp (by omega) (by omega)
 ·by_cases c2:q=i
  ·rw [c2,first,r4 p (by omega)]
   rcases hl with h | h
   ·omega
   ·exact le_trans' T (lle p (i-1) hp (by omega) (by omega)) h
  ·rw [r3 q (by omega) (by omega)]
   by_cases c3:p<i
   ·rw [r4 p (by omega)];exact lle _ _ hp (by omega) (by omega)
   ·by_cases c4:p=i
    ·rw [c4,first]
     rcases hr with h | h
     ·omega
     ·exact le_trans' T (T.asym h) (lle i _ (by omega) (by omega) (by omega))
    ·rw [r3 p (by omega) (by omega)];exact lle _ _ (by omega) (by omega) (by omega)
theorem insInner_tie (T:Tie lt tot ix) (a:Nat):∀ (j:Nat) (d:Array α),j<d.size→(∀ k,a≤k→k<j→ix d[k]! < ix d[j]!)→insInner lt a j d=insInner tot a j d:=by
 intro j
 induction j with
 | zero=>exact fun d _ _=>rfl
 | succ j ih =>
  intro d hj h
  unfold insInner
  by_cases hja:j+1 > a
  ·have e:lt d[j+1]! d[j]! = tot d[j+1]! d[j]! := T.on _ _ (h j (by omega) (by omega))
   rw [e]
   by_cases ht:tot d[j+1]! d[j]! = true
   ·simp only [hja,decide_true,ht,Bool.and_self,if_true]
    refine ih _ (by rw [size_swp];omega) (fun k ka kb=>?_)
    rw [swp_other d (j+1) j k (by omega) (by omega),swp_right d (j+1) j (by omega)]
    exact h k ka (by omega)
   ·simp only [Bool.not_eq_true] at ht
    simp [ht]
  ·simp [hja]
theorem insInner_perm (tot:α→α→Bool) (a b:Nat):∀ (j:Nat) (d:Array α),j<b→b≤d.size→PermIn a b d (insInner tot a j d):=by
 intro j
 induction j with
 | zero=>exact fun d _ _=>permIn_refl d _ _
 | succ j ih =>
  intro d hj hb
  unfold insInner
  split
  ·rename_i h
   have hja:j+1 > a:=by simp at h;omega
   have hs:(swp d (j+1) j).size=d.size:=size_swp d _ _
   exact permIn_trans d _ _ _ _ (swp_permIn d a b (j+1) j (by omega) hj (by omega) (by omega) hb) (ih _ (by omega) (by omega))
  ·exact permIn_refl d _ _
theorem insOuter_tie (T:Tie lt tot ix) (a b:Nat):∀ (n i:Nat) (d:Array α),b-i≤n→a<i→b≤d.size→(∀ q,i≤q→q<b→∀ p,a≤p→p<q→ix d[p]! < ix d[q]!)→insOuter lt a b i d=insOuter tot a b i d:=by
 intro n
 induction n with
 | zero=>exact fun i d h1 _ _ _=>by rw [insOuter_stop _ a b i d (by omega),insOuter_stop _ a b i d (by omega)]
 | succ n ih =>
  intro i d h1 hai hb h
  by_cases hi:i<b
  ·rw [insOuter_go _ a b i d hi,insOuter_go _ a b i d hi,insInner_tie T a i d (by omega) (h i (Nat.le_refl _) hi)]
   have P:=insInner_perm tot a (i+1) i d (by omega) (by omega)
   refine ih (i+1) _ (by omega) (by omega) (by rw [P.1];exact hb) (fun q hq hqb p hp hpq=>?_)
   rw [P.2.1 q (by omega)]
   by_cases c:p<i+1
   ·exact permIn_all d _ a (i+1) (fun x=>ix x<ix d[q]!) (by omega) P (fun r hr hr2=>h q (by omega) hqb r hr (by omega)) p hp c
   ·rw [P.2.1 p (by omega)];exact h q (by omega) hqb p hp hpq
  ·rw [insOuter_stop _ a b i d hi,insOuter_stop _ a b i d hi]
theorem ins_tie (T:Tie lt tot ix) {a b:Nat} {d:Array α} (hab:a≤b) (hb:b≤d.size) (h:∀ i,a≤i→i<b→ix d[i]! = i) :
  SortedIn tot a b (Go.Sort.insertionSort lt d a b)∧PermIn a b d (Go.Sort.insertionSort lt d a b):=by
 have e:Go.Sort.insertionSort lt d a b=Go.Sort.insertionSort tot d a b:=insOuter_tie T a b (b-(a+1)) (a+1) d (Nat.le_refl _) (by omega) hb (fun q hq hqb p hp hpq=>by rw [h p hp (by omega),h q (by omega) hqb];exact hpq)
 rw [e]
 have:=insertionSort_holds (lt:=tot) T.S d a b hab hb
 exact ⟨this.2,this.1⟩
/-! ### the blocks -/
def AllB (tot:α→α→Bool) (ix:α→Nat) (n s:Nat) (d:Array α):Prop := ∀ e,e*s<n→Run tot ix (e*s) (min (e*s+s) n) (e*s) (min (e*s+s) n) d
structure InsB (tot:α→α→Bool) (ix:α→Nat) (n s c:Nat) (d:Array α):Prop where
 l:∀ e,e<c→Run tot ix (e*s) (e*s+s) (e*s) (e*s+s) d
 r:∀ i,c*s≤i→i<n→ix d[i]! = i
structure Half (tot:α→α→Bool) (ix:α→Nat) (n s c:Nat) (d:Array α):Prop where
 l:∀ e,e<c→Run tot ix (e*(2*s)) (e*(2*s)+2*s) (e*(2*s)) (e*(2*s)+2*s) d
 r:∀ e,c*(2*s)≤e*s→e*s<n→Run tot ix (e*s) (min (e*s+s) n) (e*s) (min (e*s+s) n) d
theorem mul_blk {e c s:Nat} (h:e<c):e*s+s≤c*s:=by
 have:=Nat.mul_le_mul_right s (show e+1≤c from h)
 rwa [Nat.succ_mul] at this
theorem run_of {a b:Nat} {d d':Array α} (_hab:a≤b) (hb:b≤d.size) (h:∀ i,a≤i→i<b→a≤ix d[i]!∧ix d[i]! < b) (S:SortedIn tot a b d') (P:PermIn a b d d'):Run tot ix a b a b d' :=
 ⟨S,permIn_all d d' a b (fun x=>a≤ix x∧ix x<b) hb P h⟩
theorem insB_step (T:Tie lt tot ix) {n s c:Nat} {d:Array α} (hn:d.size=n) (I:InsB tot ix n s c d) (h:c*s+s≤n) :
  InsB tot ix n s (c+1) (Go.Sort.insertionSort lt d (c*s) (c*s+s))∧PermIn (c*s) (c*s+s) d (Go.Sort.insertionSort lt d (c*s) (c*s+s)):=by
 have I2:=I.r
 have hr:∀ i,c*s≤i→i<c*s+s→ix d[i]! = i:=fun i hi hi2=>I2 i hi (by omega)
 obtain ⟨S,P⟩:=ins_tie T (a:=c*s) (b:=c*s+s) (by omega) (by omega) hr
 refine ⟨⟨fun e he=>?_,fun i hi hi2=>?_⟩,P⟩
 ·by_cases hec:e=c
  ·subst hec;exact run_of (by omega) (by omega) (fun i hi hi2=>by rw [hr i hi hi2];exact ⟨hi,hi2⟩) S P
  ·exact (I.l e (by omega)).perm P (Or.inl (mul_blk (by omega)))
 ·rw [Nat.succ_mul] at hi
  rw [P.2.1 i (Or.inr hi)];exact I2 i (by omega) hi2
theorem insB_end (T:Tie lt tot ix) {n s c:Nat} {d:Array α} (_hs:0<s) (hn:d.size=n) (I:InsB tot ix n s c d) (h:n<c*s+s) (hc:c*s≤n) :
  AllB tot ix n s (Go.Sort.insertionSort lt d (c*s) n)∧PermIn (c*s) n d (Go.Sort.insertionSort lt d (c*s) n):=by
 obtain ⟨S,P⟩:=ins_tie T (a:=c*s) (b:=n) hc (by omega) (fun i hi hi2=>I.r i hi hi2)
 refine ⟨fun e he=>?_,P⟩
 rcases Nat.lt_trichotomy e c with k | k | k
 ·have:=mul_blk (s:=s) k
  rw [Nat.min_eq_left (by omega)]
  exact (I.l e k).perm P (Or.inl this)
 ·subst k
  rw [Nat.min_eq_right (by omega)]
  exact run_of hc (by omega) (fun i hi hi2=>by rw [I.r i hi hi2];exact ⟨hi,hi2⟩) S P
 ·have:=mul_blk (s:=s) k
  omega
theorem half_start {n s:Nat} {d:Array α} (A:AllB tot ix n s d):Half tot ix n s 0 d:=⟨fun _ he=>absurd he (Nat.not_lt_zero _),fun e _ he=>A e he⟩
theorem two_of {a m b:Nat} {d:Array α} (R1:Run tot ix a m a m d) (R2:Run tot ix m b m b d):TwoP tot ix a m b d :=
 ⟨R1.so,R2.so,fun i j hi hi2 hj hj2=>Nat.lt_of_lt_of_le (R1.lo i hi hi2).2 (R2.lo j hj hj2).1⟩
theorem half_two {n s c:Nat} {d:Array α} (hs:0<s) (H:Half tot ix n s c d) (h:c*(2*s)+s<n):TwoP tot ix (c*(2*s)) (c*(2*s)+s) (min (c*(2*s)+2*s) n) d
  ∧ (∀ i,c*(2*s)≤i→i<min (c*(2*s)+2*s) n→c*(2*s)≤ix d[i]!∧ix d[i]! < min (c*(2*s)+2*s) n):=by
 have e1:(2*c)*s=c*(2*s):=by rw [Nat.mul_comm 2 c,Nat.mul_assoc]
 have e2:(2*c+1)*s=c*(2*s)+s:=by rw [Nat.succ_mul,e1]
 have r1:=H.r (2*c) (by omega) (by omega)
 have r2:=H.r (2*c+1) (by omega) (by omega)
 rw [e1,Nat.min_eq_left (by omega)] at r1
 rw [e2,show c*(2*s)+s+s=c*(2*s)+2*s by omega] at r2
 refine ⟨two_of r1 r2,fun i hi hi2=>?_⟩
 by_cases k:i<c*(2*s)+s
 ·have:=r1.lo i hi k;omega
 ·have:=r2.lo i (by omega) hi2;omega
theorem half_step {n s c:Nat} {d d':Array α} (hs:0<s) (hn:d.size=n) (H:Half tot ix n s c d) (h:c*(2*s)+2*s≤n)
  (S:SortedIn tot (c*(2*s)) (c*(2*s)+2*s) d') (P:PermIn (c*(2*s)) (c*(2*s)+2*s) d d'):Half tot ix n s (c+1) d':=by
 have L:=(half_two hs H (by omega)).2
 rw [Nat.min_eq_left h] at L
 refine ⟨fun e he=>?_,fun e h1 h2=>?_⟩
 ·by_cases hec:e=c
  ·subst hec;exact run_of (by omega) (by omega) L S P
  ·exact (H.l e (by omega)).perm P (Or.inl (mul_blk (by omega)))
 ·rw [Nat.succ_mul] at h1
  exact (H.r e (by omega) h2).perm P (Or.inr h1)
theorem half_end {n s c:Nat} {d d':Array α} (hs:0<s) (hn:d.size=n) (H:Half tot ix n s c d) (h:n<c*(2*s)+2*s) (h2:c*(2*s)+s<n)
  (S:SortedIn tot (c*(2*s)) n d') (P:PermIn (c*(2*s)) n d d'):AllB tot ix n (2*s) d':=by
 have L:=(half_two hs H h2).2
 rw [Nat.min_eq_right (by omega)] at L
 intro e he
 rcases Nat.lt_trichotomy e c with k | k | k
 ·have:=mul_blk (s:=2*s) k
  rw [Nat.min_eq_left (by omega)]
  exact (H.l e k).perm P (Or.inl this)
 ·subst k
  rw [Nat.min_eq_right (by omega)]
  exact run_of (by omega) (by omega) L S P
 ·have:=mul_blk (s:=2*s) k
  omega
theorem half_end0 {n s c:Nat} {d:Array α} (hs:0<s) (H:Half tot ix n s c d) (h2:n≤c*(2*s)+s) (h0:c*(2*s)≤n):AllB tot ix n (2*s) d:=by
 intro e he
 rcases Nat.lt_trichotomy e c with k | k | k
 ·have:=mul_blk (s:=2*s) k
  rw [Nat.min_eq_left (by omega)]
  exact H.l e k
 ·subst k
  have e1:(2*e)*s=e*(2*s):=by rw [Nat.mul_comm 2 e,Nat.mul_assoc]
  have:=H.r (2*e) (by omega) (by omega)
  rw [e1,Nat.min_eq_right (by omega)] at this
  rw [Nat.min_eq_right (by omega)];exact this
 ·have:=mul_blk (s:=2*s) k
  omega
theorem allB_sorted {n s:Nat} {d:Array α} (A:AllB tot ix n s d) (h:n≤s):SortedIn tot 0 n d:=by
 intro i j hi hij hj
 have:=A 0 (by omega)
 rw [Nat.zero_mul,Nat.min_eq_right (by omega)] at this
 exact this.so i j hi hij hj
end Go.Proofs.YtnegjdcedhnjdaaGreatDoor
namespace Go.Proofs.YtnegjdcedhnjdaaGreatDoor
open Go.Sort
def lkR (n:Int) (W:List Int) (i:Nat):Int:=n*W.getD i 0 % W.sum
def lkQ (n:Int) (W:List Int) (i:Nat):Int:=n*W.getD i 0 / W.sum
def prec (n:Int) (W:List Int) (i j:Nat):Bool:=decide (lkR n W j<lkR n W i∨(lkR n W i=lkR n W j∧i<j))
def PickOk (k:Nat) (pr:Nat→Nat→Bool) (P:Nat→Bool) (t:Nat):Prop:=((List.range k).filter P).length=t∧∀ i j,i<k→j<k→P i=true→P j=false→pr i j=true
def lkO (n:Int) (W:List Int) (P:Nat→Bool):List Int:=(List.range W.length).map fun i=>lkQ n W i+if P i then 1 else 0
def lkL (n:Int) (W:List Int):Int:=n-((List.range W.length).map (lkQ n W)).sum
theorem sum_getD (W:List Int):((List.range W.length).map fun i=>W.getD i 0).sum=W.sum:=by
 have:(List.range W.length).map (fun i=>W.getD i 0)=W:=List.ext_getElem (by simp) fun i h1 h2=>by simp [List.getD_eq_getElem?_getD,List.getElem?_eq_getElem h2]
 rw [this]
theorem sum_add (f g:Nat→Int):∀ l:List Nat,(l.map fun i=>f i+g i).sum=(l.map f).sum+(l.map g).sum
 | []=>by simp
 | a :: l=>by simp only [List.map_cons,List.sum_cons,sum_add f g l];omega
theorem sum_mul (c:Int) (f:Nat→Int):∀ l:List Nat,(l.map fun i=>c*f i).sum=c*(l.map f).sum
 | []=>by simp
 | a :: l=>by simp only [List.map_cons,List.sum_cons,sum_mul c f l,Int.mul_add]
theorem sum_le {f g:Nat→Int}:∀ l:List Nat,(∀ i∈l,f i≤g i)→(l.map f).sum≤(l.map g).sum
 | [],_=>by simp
 | a :: l,h=>by
  have h1:=sum_le l fun i hi=>h i (List.mem_cons_of_mem _ hi)
  have h2:=h a (List.mem_cons_self ..)
  simp only [List.map_cons,List.sum_cons];omega
theorem sum_pick (P:Nat→Bool):∀ l:List Nat,(l.map fun i=>if P i then (1:Int) else 0).sum=((l.filter P).length:Nat)
 | []=>by simp
 | a :: l=>by
  have:=sum_pick P l
  simp only [List.map_cons,List.sum_cons,List.filter_cons,this]
  cases P a <;> simp <;> omega
theorem sum_const (c:Int):∀ l:List Nat,(l.map fun _=>c).sum=(l.length:Int)*c
 | []=>by simp
 | a :: l=>by simp only [List.map_cons,List.sum_cons,sum_const c l,List.length_cons];rw [show ((l.length+1:Nat):Int)=(l.length:Int)+1 by omega,Int.add_mul];omega
theorem lk_rest (n:Int) (W:List Int):W.sum*lkL n W=((List.range W.length).map (lkR n W)).sum:=by
 have h1:((List.range W.length).map fun i=>n*W.getD i 0).sum=n*W.sum:=by rw [sum_mul,sum_getD]
 have h2:((List.range W.length).map fun i=>n*W.getD i 0).sum=W.sum*((List.range W.length).map (lkQ n W)).sum+((List.range W.length).map (lkR n W)).sum:=by
  rw [←sum_mul,←sum_add]
  congr 1
  refine List.map_congr_left fun i _=>?_
  exact (Int.mul_ediv_add_emod (n*W.getD i 0) W.sum).symm
 unfold lkL
 rw [Int.mul_sub]
 have h3:W.sum*n=n*W.sum:=Int.mul_comm _ _
 omega
theorem lkR_pos {n:Int} {W:List Int} (hs:0<W.sum) (i:Nat):0≤lkR n W i∧lkR n W i<W.sum:=⟨Int.emod_nonneg _ (by omega),Int.emod_lt_of_pos _ hs⟩
theorem lkL_ge {n:Int} {W:List Int} (hs:0<W.sum):0≤lkL n W:=by
 have h:=lk_rest n W
 have h2:0≤((List.range W.length).map (lkR n W)).sum:=by
  have:=sum_le (f:=fun _=>0) (g:=lkR n W) (List.range W.length) fun i _=>(lkR_pos hs i).1
  rw [sum_const] at this;omega
 rw [←h] at h2
 exact Int.le_of_mul_le_mul_left (a:=W.sum) (by rw [Int.mul_zero];exact h2) hs
theorem lkL_lt {n:Int} {W:List Int} (hs:0<W.sum) (hk:0<W.length):lkL n W<W.length:=by
 have h:=lk_rest n W
 have h2:((List.range W.length).map (lkR n W)).sum≤(W.length:Int)*(W.sum-1):=by
  have:=sum_le (f:=lkR n W) (g:=fun _=>W.sum-1) (List.range W.length) fun i _=>by have:=(lkR_pos (n:=n) hs i).2;omega
  rw [sum_const,List.length_range] at this;exact this
 refine Int.lt_of_mul_lt_mul_left (a:=W.sum) ?_ (by omega)
 rw [h,Int.mul_comm W.sum]
 rw [Int.mul_sub] at h2
 have:0<(W.length:Int):=by omega
 omega
theorem lkO_sum {n:Int} {W:List Int} {P:Nat→Bool} (hs:0<W.sum) (hP:PickOk W.length (prec n W) P (lkL n W).toNat):(lkO n W P).sum=n:=by
 unfold lkO
 rw [sum_add,sum_pick,hP.1]
 have:=lkL_ge (n:=n) hs
 unfold lkL at *
 omega
theorem pick_rest {n:Int} {W:List Int} {P:Nat→Bool} (hs:0<W.sum) (hP:PickOk W.length (prec n W) P (lkL n W).toNat) {i:Nat} (hi:i<W.length) (hp:P i=true):0<lkR n W i:=by
 have h0:=(lkR_pos (n:=n) hs i).1
 rcases Int.lt_or_eq_of_le h0 with h | h
 ·exact h
 ·exfalso
  have hz:∀ j,j<W.length→lkR n W j≤(if P j then (1:Int) else 0)*(W.sum-1):=fun j hj=>by
   cases hj2:P j with
   | true=>have:=(lkR_pos (n:=n) hs j).2;simp;omega
   | false =>
    have:=hP.2 i j hi hj hp hj2
    unfold prec at this
    simp only [decide_eq_true_eq] at this
    have:=(lkR_pos (n:=n) hs j).1
    simp;omega
  have h1:((List.range W.length).map (lkR n W)).sum≤(((List.range W.length).map fun j=>(if P j then (1:Int) else 0)*(W.sum-1))).sum:=sum_le _ fun j hj=>hz j (List.mem_range.1 hj)
  have h2:(((List.range W.length).map fun j=>(if P j then (1:Int) else 0)*(W.sum-1))).sum=(W.sum-1)*lkL n W:=by
   rw [show (fun j=>(if P j=true then (1:Int) else 0)*(W.sum-1))=fun j=>(W.sum-1)*(if P j=true then (1:Int) else 0) from funext fun j=>Int.mul_comm _ _,sum_mul,sum_pick,hP.1]
   have:=lkL_ge (n:=n) hs
   congr 1;omega
  rw [h2,←lk_rest,Int.sub_mul] at h1
  have h3:0<lkL n W:=by
   have:0<((List.range W.length).filter P).length:=List.length_pos_of_mem (List.mem_filter.2 ⟨List.mem_range.2 hi,hp⟩)
   rw [hP.1] at this;omega
  omega
theorem sum_mem_le:∀ (W:List Int),(∀ x∈W,0≤x)→∀ x∈W,x≤W.sum
 | [],_,x,hx=>absurd hx (by simp)
 | a :: W,h,x,hx=>by
  have hW:0≤W.sum:=by
   have:∀ W:List Int,(∀ x∈W,0≤x)→0≤W.sum:=by
    intro W
    induction W with
    | nil=>simp
    | cons a W ih=>intro h;have:=h a (List.mem_cons_self ..);have:=ih fun x hx=>h x (List.mem_cons_of_mem _ hx);simp only [List.sum_cons];omega
   exact this W fun x hx=>h x (List.mem_cons_of_mem _ hx)
  have ha:=h a (List.mem_cons_self ..)
  rw [List.sum_cons]
  rcases List.mem_cons.1 hx with rfl | hx
  ·omega
  ·have:=sum_mem_le W (fun x hx=>h x (List.mem_cons_of_mem _ hx)) x hx;omega
theorem getD_nonneg {W:List Int} (h:∀ x∈W,0≤x) (i:Nat):0≤W.getD i 0:=by
 rw [List.getD_eq_getElem?_getD]
 cases e:W[i]? with
 | none=>simp
 | some x=>exact h x (List.mem_of_getElem? e)
theorem getD_le {W:List Int} (h:∀ x∈W,0≤x) (hs:0≤W.sum) (i:Nat):W.getD i 0≤W.sum:=by
 rw [List.getD_eq_getElem?_getD]
 cases e:W[i]? with
 | none=>simpa using hs
 | some x=>exact sum_mem_le W h x (List.mem_of_getElem? e)
theorem lkQ_ge {n:Int} {W:List Int} (hn:0≤n) (h:∀ x∈W,0≤x) (hs:0<W.sum) (i:Nat):0≤lkQ n W i:=Int.ediv_nonneg (Int.mul_nonneg hn (getD_nonneg h i)) (by omega)
theorem lkQ_le {n:Int} {W:List Int} (hn:0≤n) (h:∀ x∈W,0≤x) (hs:0<W.sum) (i:Nat):lkQ n W i≤n∧(0<lkR n W i→lkQ n W i<n):=by
 have h1:=Int.mul_ediv_add_emod (n*W.getD i 0) W.sum
 have h2:n*W.getD i 0≤n*W.sum:=Int.mul_le_mul_of_nonneg_left (getD_le h (by omega) i) hn
 have h0:=(lkR_pos (n:=n) hs i).1
 have e:W.sum*n=n*W.sum:=Int.mul_comm _ _
 change W.sum*lkQ n W i+lkR n W i=_ at h1
 refine ⟨Int.le_of_mul_le_mul_left (a:=W.sum) (by omega) hs,fun hr=>Int.lt_of_mul_lt_mul_left (a:=W.sum) (by omega) (by omega)⟩
end Go.Proofs.YtnegjdcedhnjdaaGreatDoor
namespace Go.Proofs.YtnegjdcedhnjdaaGreatDoor
open Go Go.ChangeShapes Go.WideShapes Go.ChangeAt Go.RowKit Go.Deep
set_option maxRecDepth 100000
section
variable {H:Type} {enc:TypeId×Value→H} {w:World} {held:Bool}
theorem trod_one {P:Program} {base:Nat} {sp:Nat→Bool} {t:TypeId} {fs:Array Field} {fuel:Nat} {cs:List Value} {x:DataW H×List MemPlace} (ht:P.underlying t=some (.struct fs)) (hone:oneCellFields P fs=true) (h:DataW.trod enc P w base sp held fuel t cs=some x) :
  cs.length=P.cellsOf t∧∃ n,∀ (i:Nat) (f:Field) (v:Value),fs[i]?=some f→cs[i]?=some v→∃ y,DataW.trod enc P w base sp held n f.type [v]=some y:=by
 obtain ⟨xs,n,_,_,hl,hxs,hf⟩:=DataW.trod_struct ht h
 refine ⟨hl,n,fun i f v hi hv=>?_⟩
 obtain ⟨ho,hc⟩:=hone_of hone i f hi
 have hlt:i<fs.size:=(Array.getElem?_eq_some_iff.1 hi).1
 have e:=hf i f hi
 rw [ho,hc] at e
 obtain ⟨hi',hv'⟩:=List.getElem?_eq_some_iff.1 hv
 have ed:(cs.drop i).take 1=[v]:=by rw [List.drop_eq_getElem_cons hi',hv'];rfl
 rw [ed,List.getElem?_eq_getElem (by omega)] at e
 exact ⟨_,e⟩
theorem cellsM:Tryz.prog.cellsOf 33=4:=by kernel_rfl
theorem cellsD:Tryz.prog.cellsOf 31=3:=by kernel_rfl
theorem cellsO:Tryz.prog.cellsOf 24=1:=by kernel_rfl
theorem open_member {base:Nat} {sp:Nat→Bool} {fuel:Nat} {cs:List Value} {x:DataW H×List MemPlace} (h:DataW.trod enc Tryz.prog w base sp held fuel 33 cs=some x) :
  ∃ m:Mem,cs=[.string m.name,.int .i64 m.parent,.int .i64 m.sign,.string m.formula]:=by
 obtain ⟨hl,n,hf⟩:=trod_one Tryz.underlying33 (by kernel_rfl) h
 rw [cellsM] at hl
 match cs,hl with
 | [v0,v1,v2,v3],_ =>
  obtain ⟨y0,h0⟩:=hf 0 _ v0 rfl rfl
  obtain ⟨y1,h1⟩:=hf 1 _ v1 rfl rfl
  obtain ⟨y2,h2⟩:=hf 2 _ v2 rfl rfl
  obtain ⟨y3,h3⟩:=hf 3 _ v3 rfl rfl
  obtain ⟨s0,e0,-,-⟩:=DataW.trod_string Tryz.underlying9 h0
  obtain ⟨n1,e1,-,-⟩:=DataW.trod_int Tryz.underlying3 h1
  obtain ⟨n2,e2,-,-⟩:=DataW.trod_int Tryz.underlying3 h2
  obtain ⟨s3,e3,-,-⟩:=DataW.trod_string Tryz.underlying9 h3
  simp at e0 e1 e2 e3
  exact ⟨⟨s0,n1,n2,s3⟩,by rw [e0,e1,e2,e3]⟩
theorem addr_plain {a:Addr} {k:Nat} {v:Value} (h:w.cell? (a.add k)=some v) (hk:k=0):a=⟨a.block,a.off,none⟩:=by
 subst hk
 have e:(a.add 0)=a:=by simp [Addr.add]
 rw [e] at h
 have:=World.cell?_spot h
 cases a
 simp_all
theorem plain_add (b o k:Nat):(⟨b,o,none⟩:Addr).add k=⟨b,o+k,none⟩:=by
 unfold Addr.add
 by_cases hk:k=0
 ·subst hk;simp
 ·rw [if_neg hk]
theorem open_members {fuel:Nat} {cs:List Value} {x:DataW H×List MemPlace} (h:DataW.trod enc Tryz.prog w 0 (fun _=>true) held fuel 29 cs=some x) :
  ∃ (A:Option Addr) (cap n:Nat) (M:Nat→Mem),cs=[.slice A n cap]∧MemsV w A cap n M:=by
 rcases open_slice Tryz.underlying29 h with ⟨rfl,-⟩ | ⟨a,len,cap,m,n,D,Pl,rfl,-,hl,-,hm,-,hx⟩
 ·exact ⟨none,0,0,fun _=>⟨default,0,0,default⟩,rfl,Nat.le_refl _,Or.inl rfl⟩
 rw [cellsM] at hx
 simp at hm
 subst hm
 haveI:Inhabited Mem:=⟨⟨default,0,0,default⟩⟩
 have each:∀ i,i<len→∃ y:Mem,w.cells? 0 (a.add (i*4)) 4=some [.string y.name,.int .i64 y.parent,.int .i64 y.sign,.string y.formula]:=fun i hi=>by
  obtain ⟨cs',h1,h2⟩:=hx i (by omega)
  obtain ⟨y,rfl⟩:=open_member h2
  exact ⟨y,h1⟩
 obtain ⟨M,hM⟩:=choose_lt each
 refine ⟨some a,_,len,M,rfl,hl,?_⟩
 rcases Nat.eq_zero_or_pos len with h0 | h0
 ·exact Or.inl h0
 right
 have c0:=(World.cells?_some (hM 0 h0)).2.2 0 (by omega)
 rw [add_add] at c0
 have hp:=addr_plain c0 (by omega)
 have hb:=World.block_lt_of_cell? _ _ c0
 refine ⟨a.block,a.off,by rw [←hp],by simpa [Addr.add] using hb,fun i hi=>?_⟩
 have hc:=(World.cells?_some (hM i hi)).2.2
 rw [hp] at hc
 simp only [plain_add,Nat.add_assoc] at hc
 refine ⟨?_,?_,?_,?_⟩
 ·have:=hc 0 (by omega);simpa using this
 ·have:=hc 1 (by omega);simpa [Nat.add_assoc] using this
 ·have:=hc 2 (by omega);simpa [Nat.add_assoc] using this
 ·have:=hc 3 (by omega);simpa [Nat.add_assoc] using this
theorem open_dim {fuel:Nat} {cs:List Value} {x:DataW H×List MemPlace} (h:DataW.trod enc Tryz.prog w 0 (fun _=>true) held fuel 31 cs=some x) :
  ∃ (d:Dm) (A:Option Addr) (c:Nat),cs=[.string d.name,.int .i64 d.solve,.slice A d.n c]∧MemsV w A c d.n d.mem:=by
 obtain ⟨hl,n,hf⟩:=trod_one Tryz.underlying31 (by kernel_rfl) h
 rw [cellsD] at hl
 match cs,hl with
 | [v0,v1,v2],_ =>
  obtain ⟨y0,h0⟩:=hf 0 _ v0 rfl rfl
  obtain ⟨y1,h1⟩:=hf 1 _ v1 rfl rfl
  obtain ⟨y2,h2⟩:=hf 2 _ v2 rfl rfl
  obtain ⟨s0,e0,-,-⟩:=DataW.trod_string Tryz.underlying9 h0
  obtain ⟨n1,e1,-,-⟩:=DataW.trod_int Tryz.underlying3 h1
  obtain ⟨A,cap,k,M,e2,hM⟩:=open_members h2
  simp at e0 e1 e2
  exact ⟨⟨s0,n1,k,M⟩,A,cap,by rw [e0,e1,e2],hM⟩
theorem open_dims {fuel:Nat} {cs:List Value} {x:DataW H×List MemPlace} (h:DataW.trod enc Tryz.prog w 0 (fun _=>true) held fuel 22 cs=some x) :
  ∃ (A0:Option Addr) (cap n:Nat) (D:Nat→Dm) (A:Nat→Option Addr) (C:Nat→Nat),cs=[.slice A0 n cap]∧DimsV w A0 cap n D A C:=by
 rcases open_slice Tryz.underlying22 h with ⟨rfl,-⟩ | ⟨a,len,cap,m,n,D,Pl,rfl,-,hl,-,hm,-,hx⟩
 ·exact ⟨none,0,0,fun _=>⟨default,0,0,fun _=>⟨default,0,0,default⟩⟩,fun _=>none,fun _=>0,rfl,Nat.le_refl _,Or.inl rfl⟩
 rw [cellsD] at hx
 simp at hm
 subst hm
 haveI:Inhabited Dm:=⟨⟨default,0,0,fun _=>⟨default,0,0,default⟩⟩⟩
 have each:∀ i,i<len→∃ y:Dm×Option Addr×Nat,w.cells? 0 (a.add (i*3)) 3=some [.string y.1.name,.int .i64 y.1.solve,.slice y.2.1 y.1.n y.2.2]∧MemsV w y.2.1 y.2.2 y.1.n y.1.mem:=fun i hi=>by
  obtain ⟨cs',h1,h2⟩:=hx i (by omega)
  obtain ⟨d,A,c,rfl,hm⟩:=open_dim h2
  exact ⟨(d,A,c),h1,hm⟩
 obtain ⟨Y,hY⟩:=choose_lt each
 refine ⟨some a,_,len,fun i=>(Y i).1,fun i=>(Y i).2.1,fun i=>(Y i).2.2,rfl,hl,?_⟩
 rcases Nat.eq_zero_or_pos len with h0 | h0
 ·exact Or.inl h0
 right
 have c0:=(World.cells?_some (hY 0 h0).1).2.2 0 (by omega)
 rw [add_add] at c0
 have hp:=addr_plain c0 (by omega)
 have hb:=World.block_lt_of_cell? _ _ c0
 refine ⟨a.block,a.off,by rw [←hp],by simpa [Addr.add] using hb,fun i hi=>?_⟩
 have hc:=(World.cells?_some (hY i hi).1).2.2
 rw [hp] at hc
 simp only [plain_add,Nat.add_assoc] at hc
 refine ⟨?_,?_,?_,(hY i hi).2⟩
 ·have:=hc 0 (by omega);simpa using this
 ·have:=hc 1 (by omega);simpa [Nat.add_assoc] using this
 ·have:=hc 2 (by omega);simpa [Nat.add_assoc] using this
theorem arr1 {α:Type} {a:Array α} (h:a.size=1):∃ x,a=#[x]:=by
 rcases a with ⟨l⟩
 match l,h with
 | [x],_=>exact ⟨x,rfl⟩
theorem open_outline {r:Reach} {b0:Nat} {v:Value} {d:DataW H} {p:List MemPlace} (hv:Value.okWide Tryz.prog w r b0 24 v) (h:DataW.Trod enc Tryz.prog w 0 (fun _=>true) held 24 v d p) :
  ∃ (A0:Option Addr) (cap n:Nat) (D:Nat→Dm) (A:Nat→Option Addr) (C:Nat→Nat),v=.agg #[.slice A0 n cap]∧DimsV w A0 cap n D A C:=by
 obtain ⟨cs,rfl,hsz⟩:=okWide_struct Tryz.underlying24 hv
 obtain ⟨c0,rfl⟩:=arr1 (hsz.trans cellsO)
 obtain ⟨fuel,hf⟩:=h
 obtain ⟨-,n,hy⟩:=trod_one Tryz.underlying24 (by kernel_rfl) hf
 obtain ⟨y0,h0⟩:=hy 0 _ c0 rfl rfl
 obtain ⟨A0,cap,k,D,A,C,e,hD⟩:=open_dims h0
 simp at e
 exact ⟨A0,cap,k,D,A,C,by rw [e],hD⟩
end
def NdsAt (w:World) (b o:Nat) (l:List Nd):Prop:=b<w.heap.size∧∀ k,k<l.length→w.cell? ⟨b,o+k*5,none⟩=some (.int .i64 (l.getD k noN).op)∧w.cell? ⟨b,o+k*5+1,none⟩=some (.int .i64 (l.getD k noN).n)∧w.cell? ⟨b,o+k*5+2,none⟩=some (.string (l.getD k noN).name)∧w.cell? ⟨b,o+k*5+3,none⟩=some (.int .i64 (l.getD k noN).left)∧w.cell? ⟨b,o+k*5+4,none⟩=some (.int .i64 (l.getD k noN).right)
theorem NdsAt.later {w w':World} {b o:Nat} {l:List Nd} (h:NdsAt w b o l) (hB:Below w.heap.size w w'):NdsAt w' b o l:=by
 refine ⟨Nat.lt_of_lt_of_le h.1 hB.size,fun k hk=>?_⟩
 obtain ⟨h1,h2,h3,h4,h5⟩:=h.2 k hk
 exact ⟨(hB.cell (p:=⟨b,o+k*5,none⟩) h.1).trans h1,(hB.cell (p:=⟨b,o+k*5+1,none⟩) h.1).trans h2,(hB.cell (p:=⟨b,o+k*5+2,none⟩) h.1).trans h3,(hB.cell (p:=⟨b,o+k*5+3,none⟩) h.1).trans h4,(hB.cell (p:=⟨b,o+k*5+4,none⟩) h.1).trans h5⟩
def NdsV (w:World) (A:Option Addr) (cap:Nat) (l:List Nd):Prop:=l.length≤cap∧cap≤9223372036854775807∧(l=[]∨∃ b o,A=some ⟨b,o,none⟩∧NdsAt w b o l)
theorem NdsV.later {w w':World} {A:Option Addr} {cap:Nat} {l:List Nd} (h:NdsV w A cap l) (hB:Below w.heap.size w w'):NdsV w' A cap l:=by
 obtain ⟨h1,h0,h2 | ⟨b,o,h2,h3⟩⟩:=h
 ·exact ⟨h1,h0,Or.inl h2⟩
 ·exact ⟨h1,h0,Or.inr ⟨b,o,h2,h3.later hB⟩⟩
theorem NdsV.nil (w:World) (A:Option Addr) (cap:Nat) (h:cap≤9223372036854775807):NdsV w A cap []:=⟨Nat.zero_le _,h,Or.inl rfl⟩
end Go.Proofs.YtnegjdcedhnjdaaGreatDoor
namespace Go.Proofs.YtnegjdcedhnjdaaGreatDoor
open Go.ChangeShapes Go.WideShapes Go.ChangeAt Go.RowKit
set_option maxRecDepth 20000
theorem isdig_any (c:Int) (w:World):Calls Tryz.prog 238 #[.int .u8 c] w fun e w'=>e=.returned (.bool (digB c))∧Below w.heap.size w w':=by
 unfold digB
 by_cases h1:48≤c
 ·go_enter Tryz.func238,Tryz.ntmps238
  go_wp2
  go_ret
  exact ⟨by simp <;> omega,by go_grown⟩
 ·go_enter Tryz.func238,Tryz.ntmps238
  go_wp2
  go_ret
  exact ⟨by simp <;> omega,by go_grown⟩
theorem islet_any (c:Int) (w:World):Calls Tryz.prog 216 #[.int .u8 c] w fun e w'=>e=.returned (.bool (letB c))∧Below w.heap.size w w':=by
 unfold letB
 by_cases h1:97≤c
 ·go_enter Tryz.func216,Tryz.ntmps216
  go_wp2
  go_ret
  exact ⟨by simp <;> omega,by go_grown⟩
 ·go_enter Tryz.func216,Tryz.ntmps216
  go_wp2
  go_ret
  exact ⟨by simp <;> omega,by go_grown⟩
theorem binds_any (op:Int) (w:World):Calls Tryz.prog 197 #[.int .i64 op] w fun e w'=>e=.returned (.int .i64 (bindN op))∧Below w.heap.size w w':=by
 unfold bindN
 by_cases h3:op=3
 ·subst h3
  go_enter Tryz.func197,Tryz.ntmps197
  go_wp2
  go_ret
  exact ⟨by simp,by go_grown⟩
 by_cases h4:op=4
 ·subst h4
  go_enter Tryz.func197,Tryz.ntmps197
  go_wp2
  go_ret
  exact ⟨by simp,by go_grown⟩
 by_cases h5:op=5
 ·subst h5
  go_enter Tryz.func197,Tryz.ntmps197
  go_wp2
  go_ret
  exact ⟨by simp,by go_grown⟩
 by_cases h6:op=6
 ·subst h6
  go_enter Tryz.func197,Tryz.ntmps197
  go_wp2
  go_ret
  exact ⟨by simp,by go_grown⟩
 rw [if_neg (by omega),if_neg (by omega)]
 go_enter Tryz.func197,Tryz.ntmps197
 go_wp2
 go_ret
 exact ⟨rfl,by go_grown⟩
theorem joins_any (op:Int) (w:World):Calls Tryz.prog 185 #[.int .i64 op] w fun e w'=>e=.returned (.bool (decide (op≠1∧op≠2)))∧Below w.heap.size w w':=by
 by_cases h1:op=1
 ·subst h1
  go_enter Tryz.func185,Tryz.ntmps185
  go_wp2
  go_ret
  exact ⟨by simp,by go_grown⟩
 by_cases h2:op=2
 ·subst h2
  go_enter Tryz.func185,Tryz.ntmps185
  go_wp2
  go_ret
  exact ⟨by simp,by go_grown⟩
 go_enter Tryz.func185,Tryz.ntmps185
 go_wp2
 go_ret
 exact ⟨by simp [h1,h2],by go_grown⟩
theorem byteN_get (s:ByteArray) (k:Nat) (h:k<s.size):((s[k]'h).toNat:Int)=byteN s k:=by
 unfold byteN
 rw [List.getD,List.getElem?_eq_getElem (by simpa using h)]
 rfl
theorem lead_miss {p:Int→Bool} {t:ByteArray} {f i:Nat} (h:p (byteN t i)=false):leadTo p t (f+1) i=i:=by simp [leadTo,h]
theorem lead_hit {p:Int→Bool} {t:ByteArray} {f i:Nat} (h:p (byteN t i)=true):leadTo p t (f+1) i=leadTo p t f (i+1):=by simp [leadTo,h]
set_option maxHeartbeats 1000000 in
theorem lead_any (p:Int→Bool) (F:Nat) (hent:∀ (args:Array Value) (w:World),(callFunc F args).run Tryz.prog w=.ok (.enter F args) w) (hF:∀ (c:Int) (w:World),Calls Tryz.prog F #[.int .u8 c] w fun e w'=>e=.returned (.bool (p c))∧Below w.heap.size w w') (t:ByteArray) (w:World) (hs:t.size≤4611686018427387904):Calls Tryz.prog 240 #[.string t,.func (.func F) #[] #[]] w fun e w'=>e=.returned (.int .i64 (leadN p t))∧Below w.heap.size w w':=by
 have HF:Hid (∀ (c:Int) (w:World),Calls Tryz.prog F #[.int .u8 c] w fun e w'=>e=.returned (.bool (p c))∧Below w.heap.size w w'):=hF
 unfold leadN
 clear hF
 go_enter Tryz.func240,Tryz.ntmps240
 go_wp2_with fail
 go_loopg [8] t.size (fun g s8 wr => ∃ (k:Nat),k≤t.size∧g=t.size-k∧s8=.int .i64 k∧leadTo p t (t.size-k) k=leadTo p t t.size 0∧Below w.heap.size w wr)
 case atStart=>exact ⟨0,Nat.zero_le _,rfl,rfl,rfl,Below.refl _ _⟩
 case round =>
  obtain ⟨k,hk,rfl,rfl,hf,hBw⟩:=hrel
  have HQ:Hid (leadTo p t (t.size-k) k=leadTo p t t.size 0):=hf
  have HW:Hid (Below w.heap.size w wr):=hBw
  clear hf hBw
  by_cases hlt:k<t.size
  ·have hki:(k:Int)<(t.size:Int):=by omega
   have hs':(t.size:Int)≤4611686018427387904:=by omega
   have HSK:Hid (t.size-k=(t.size-(k+1))+1):=by show _=_;omega
   have hbd:=HF.out (byteN t k)
   have hby:=byteN_get t k hlt
   cases hb:p (byteN t k)
   ·rw [hb] at hbd
    have HK:Hid (p (byteN t k)=false):=hb
    clear hb
    generalize byteN t k=c at hbd hby
    go_wp2_with fail
    refine (hbd _).mono ?_
    rintro e w1 ⟨rfl,hb1⟩
    go_wp2_with fail
    go_ret
    exact ⟨by rw [←HQ.out,HSK.out,lead_miss HK.out];rfl,onB HW.out hb1⟩
   ·rw [hb] at hbd
    have HK:Hid (p (byteN t k)=true):=hb
    clear hb
    generalize byteN t k=c at hbd hby
    go_wp2_with fail
    refine (hbd _).mono ?_
    rintro e w1 ⟨rfl,hb1⟩
    go_wp2_with fail
    go_roundg (t.size-(k+1))
    case measure=>omega
    case rel=>exact ⟨k+1,by omega,rfl,by go_num,by rw [←HQ.out,HSK.out,lead_hit HK.out],onB HW.out hb1⟩
  ·have hke:k=t.size:=by omega
   subst hke
   go_wp2_with fail
   go_ret
   exact ⟨by rw [←HQ.out,Nat.sub_self];rfl,HW.out⟩
theorem ent_dig (args:Array Value) (w:World):(callFunc 238 args).run Tryz.prog w=.ok (.enter 238 args) w:=by simp [go_sem]
theorem ent_let (args:Array Value) (w:World):(callFunc 216 args).run Tryz.prog w=.ok (.enter 216 args) w:=by simp [go_sem]
theorem leadd_any (t:ByteArray) (w:World) (hs:t.size≤4611686018427387904):Calls Tryz.prog 240 #[.string t,.func (.func 238) #[] #[]] w fun e w'=>e=.returned (.int .i64 (leadN digB t))∧Below w.heap.size w w':=lead_any digB 238 ent_dig isdig_any t w hs
theorem leadl_any (t:ByteArray) (w:World) (hs:t.size≤4611686018427387904):Calls Tryz.prog 240 #[.string t,.func (.func 216) #[] #[]] w fun e w'=>e=.returned (.int .i64 (leadN letB t))∧Below w.heap.size w w':=lead_any letB 216 ent_let islet_any t w hs
end Go.Proofs.YtnegjdcedhnjdaaGreatDoor
namespace Go.Proofs.YtnegjdcedhnjdaaGreatDoor
def rowN (N:List (List Int)) (i:Int):List Int:=N.getD i.toNat []
def Inn (N:List (List Int)):Prop := ∀ (i:Nat),i<N.length→∀ x∈N.getD i [],0≤x∧x<(N.length:Int)
theorem Inn.at {N:List (List Int)} (h:Inn N) {a:Int} (h0:0≤a) (h1:a<(N.length:Int)) {x:Int} (hx:x∈rowN N a):0≤x∧x<(N.length:Int):=h a.toNat (by omega) x hx
inductive Rch (N:List (List Int)):Int→Int→Prop
 | one {a b:Int}:b∈rowN N a→Rch N a b
 | more {a b c:Int}:b∈rowN N a→Rch N b c→Rch N a c
theorem Rch.trans {N:List (List Int)} {a b c:Int} (h:Rch N a b) (k:Rch N b c):Rch N a c:=by
 induction h with
 | one h=>exact .more h k
 | more h _ ih=>exact .more h (ih k)
theorem Rch.snoc {N:List (List Int)} {a b c:Int} (h:Rch N a b) (k:c∈rowN N b):Rch N a c:=h.trans (.one k)
theorem Rch.inn {N:List (List Int)} (hN:Inn N) {a b:Int} (h:Rch N a b):0≤a→a<(N.length:Int)→0≤b∧b<(N.length:Int):=by
 induction h with
 | one h=>exact fun h0 h1=>hN.at h0 h1 h
 | more h _ ih=>exact fun h0 h1=>let ⟨x,y⟩:=hN.at h0 h1 h;ih x y
theorem Rch.closed {N:List (List Int)} {S:Int→Prop} {a b:Int} (h:Rch N a b):(∀ x∈rowN N a,S x)→(∀ x,S x→∀ y∈rowN N x,S y)→S b:=by
 induction h with
 | one h=>exact fun h1 _=>h1 _ h
 | more h _ ih=>exact fun h1 h2=>ih (fun x hx=>h2 _ (h1 _ h) x hx) h2
noncomputable def cycB (N:List (List Int)) (i:Nat):Bool := @decide (Rch N i i) (Classical.propDecidable _)
theorem cyc_iff {N:List (List Int)} {i:Nat}:cycB N i=true↔Rch N i i:=by
 unfold cycB
 exact @decide_eq_true_iff _ (Classical.propDecidable _)
theorem cyc_not {N:List (List Int)} {i:Nat}:cycB N i=false↔¬ Rch N i i:=by
 rw [←cyc_iff]
 cases cycB N i <;> simp
theorem few (n:Nat):∀ (L:List Int),L.Nodup→(∀ x∈L,0≤x∧x<(n:Int))→L.length≤n:=by
 induction n with
 | zero =>
  intro L _ h
  cases L with
  | nil=>exact Nat.le_refl _
  | cons x r=>have:=h x (by simp);omega
 | succ n ih =>
  intro L hL h
  have h1:=ih (L.erase (n:Int)) (hL.erase _) fun x hx=>by
   have h2:=(hL.mem_erase_iff.1 hx)
   have:=h x h2.2
   have:=h2.1
   omega
  have h3:L.length≤(L.erase (n:Int)).length+1:=by
   by_cases hm:(n:Int)∈L
   ·rw [List.length_erase_of_mem hm];omega
   ·rw [List.erase_of_not_mem hm];omega
  omega
def okN (N:List (List Int)) (out:List Int) (i:Nat):Bool := !(out.contains (i:Int)) && (N.getD i []).all fun x=>out.contains x
def nextO (N:List (List Int)) (out:List Int):Int:=findFrom (okN N out) N.length 0
def ordTo (N:List (List Int)):Nat→List Int
 | 0=>[]
 | k+1=>ordTo N k ++ (if 0≤nextO N (ordTo N k) then [nextO N (ordTo N k)] else [])
theorem next_some {N:List (List Int)} {out:List Int} (h:0≤nextO N out):∃ k:Nat,nextO N out=(k:Int)∧k<N.length∧okN N out k=true∧∀ j,j<k→okN N out j=false:=by
 unfold nextO at *
 rcases findFrom_cases (okN N out) N.length 0 with ⟨h1,_⟩ | ⟨k,h1,_,h3,h4,h5⟩
 ·omega
 ·exact ⟨k,h1,by omega,h4,fun j hj=>h5 j (Nat.zero_le _) hj⟩
theorem ok_out {N:List (List Int)} {out:List Int} {k:Nat} (h:okN N out k=true):(k:Int)∉out∧∀ x∈N.getD k [],x∈out:=by
 unfold okN at h
 simp only [Bool.and_eq_true,Bool.not_eq_true',List.all_eq_true] at h
 refine ⟨fun hm=>?_,fun x hx=>?_⟩
 ·have:=h.1
  rw [←Bool.not_eq_true,List.contains_iff_mem] at this
  exact this hm
 ·exact List.contains_iff_mem.1 (h.2 x hx)
theorem ok_of {N:List (List Int)} {out:List Int} {k:Nat} (h1:(k:Int)∉out) (h2:∀ x∈N.getD k [],x∈out):okN N out k=true:=by
 unfold okN
 simp only [Bool.and_eq_true,Bool.not_eq_true',List.all_eq_true]
 refine ⟨?_,fun x hx=>List.contains_iff_mem.2 (h2 x hx)⟩
 rw [←Bool.not_eq_true,List.contains_iff_mem]
 exact h1
theorem ord_in (N:List (List Int)) (k:Nat):(ordTo N k).Nodup∧(∀ x∈ordTo N k,0≤x∧x<(N.length:Int)):=by
 induction k with
 | zero=>exact ⟨List.nodup_nil,fun x hx=>by cases hx⟩
 | succ k ih =>
  rw [ordTo]
  split
  ·rename_i h
   obtain ⟨m,h1,h2,h3,-⟩:=next_some h
   rw [h1]
   refine ⟨?_,fun x hx=>?_⟩
   ·rw [List.nodup_append]
    refine ⟨ih.1,by simp,fun a ha b hb=>?_⟩
    rw [List.mem_singleton.1 hb]
    intro e
    exact (ok_out h3).1 (e ▸ ha)
   ·rcases List.mem_append.1 hx with hx | hx
    ·exact ih.2 x hx
    ·rw [List.mem_singleton.1 hx];omega
  ·rw [List.append_nil];exact ih
theorem way {N:List (List Int)} {out:List Int} (hN:Inn N) (hno:∀ i:Nat,i<N.length→okN N out i=false) {a:Nat} (ha:a<N.length) (hao:(a:Int)∉out) (k:Nat) :
  (∃ i:Nat,i<N.length∧Rch N i i)∨∃ (P:List Int) (x:Int),x∈P∧P.length=k+1∧P.Nodup∧(∀ y∈P,0≤y∧y<(N.length:Int)∧y∉out)∧∀ y∈P,y=x∨Rch N y x:=by
 induction k with
 | zero=>exact Or.inr ⟨[(a:Int)],a,by simp,rfl,by simp,fun y hy=>by rw [List.mem_singleton.1 hy];exact ⟨by omega,by omega,hao⟩,fun y hy=>Or.inl (List.mem_singleton.1 hy)⟩
 | succ k ih =>
  rcases ih with h | ⟨P,x,hxP,hlen,hnd,hin,hto⟩
  ·exact Or.inl h
  ·obtain ⟨hx0,hx1,hx2⟩:=hin x hxP
   obtain ⟨m,rfl⟩:∃ m:Nat,x=m:=⟨x.toNat,by omega⟩
   have hmf:=hno m (by omega)
   obtain ⟨y,hy,hyo⟩:∃ y∈N.getD m [],y∉out:=by
    refine Classical.byContradiction fun hc=>?_
    rw [ok_of hx2 fun x hx=>Classical.byContradiction fun h=>hc ⟨x,hx,h⟩] at hmf
    cases hmf
   have hr:y∈rowN N (m:Int):=by unfold rowN;simpa using hy
   have hyi:=hN.at hx0 hx1 hr
   by_cases hyP:y∈P
   ·refine Or.inl ⟨m,by omega,?_⟩
    rcases hto y hyP with e | e
    ·exact .one (e ▸ hr)
    ·exact .more hr e
   ·refine Or.inr ⟨y :: P,y,by simp,by simp [hlen],List.nodup_cons.2 ⟨hyP,hnd⟩,fun z hz=>?_,fun z hz=>?_⟩
    ·rcases List.mem_cons.1 hz with rfl | hz
     ·exact ⟨hyi.1,hyi.2,hyo⟩
     ·exact hin z hz
    ·rcases List.mem_cons.1 hz with rfl | hz
     ·exact Or.inl rfl
     ·rcases hto z hz with e | e
      ·exact Or.inr (.one (e ▸ hr))
      ·exact Or.inr (e.snoc hr)
theorem next_there {N:List (List Int)} (hN:Inn N) (hc:∀ i:Nat,i<N.length→cycB N i=false) {k:Nat} (hk:k<N.length) (hl:(ordTo N k).length=k):0≤nextO N (ordTo N k):=by
 unfold nextO
 rcases findFrom_cases (okN N (ordTo N k)) N.length 0 with ⟨_,h2⟩ | ⟨m,h1,_⟩
 ·exfalso
  have hno:∀ i:Nat,i<N.length→okN N (ordTo N k) i=false:=fun i hi=>h2 i (Nat.zero_le _) (by omega)
  obtain ⟨a,ha,hao⟩:∃ a:Nat,a<N.length∧(a:Int)∉ordTo N k:=by
   refine Classical.byContradiction fun hn=>?_
   have hall:∀ a:Nat,a<N.length→(a:Int)∈ordTo N k:=fun a ha=>Classical.byContradiction fun h=>hn ⟨a,ha,h⟩
   have hmap:(List.range N.length).map (fun a:Nat=>(a:Int)) ⊆ ordTo N k:=fun x hx=>by
    obtain ⟨a,ha,rfl⟩:=List.mem_map.1 hx
    exact hall a (List.mem_range.1 ha)
   have hlen:∀ (X Y:List Int),X.Nodup→X ⊆ Y→X.length≤Y.length:=by
    intro X
    induction X with
    | nil=>intro Y _ _;exact Nat.zero_le _
    | cons x r ih =>
     intro Y hX hs
     have hx:=List.nodup_cons.1 hX
     have hxY:x∈Y:=hs (by simp)
     have:=ih (Y.erase x) hx.2 fun z hz=>(List.mem_erase_of_ne (fun e:z=x=>hx.1 (by rw [←e];exact hz))).2 (hs (List.mem_cons_of_mem _ hz))
     rw [List.length_erase_of_mem hxY] at this
     have:=List.length_pos_of_mem hxY
     simp only [List.length_cons]
     omega
   have hrn:(List.range N.length).Pairwise (fun a b=>a≠b):=List.nodup_range
   have:=hlen _ _ (show List.Pairwise (fun a b=>a≠b) _ from List.pairwise_map.2 (hrn.imp fun {a b:Nat} (h:a≠b) (e:(a:Int)=(b:Int))=>h (by omega))) hmap
   rw [List.length_map,List.length_range] at this
   omega
  rcases way hN hno ha hao N.length with ⟨i,hi,hr⟩ | ⟨P,x,_,hP,hnd,hin,_⟩
  ·exact (cyc_not.1 (hc i hi)) hr
  ·have:=few N.length P hnd fun y hy=>⟨(hin y hy).1,(hin y hy).2.1⟩
   omega
 ·omega
theorem ord_len {N:List (List Int)} (hN:Inn N) (hc:∀ i:Nat,i<N.length→cycB N i=false) (k:Nat) (hk:k≤N.length):(ordTo N k).length=k:=by
 induction k with
 | zero=>rfl
 | succ k ih =>
  have h:=ih (by omega)
  rw [ordTo,if_pos (next_there hN hc (by omega) h),List.length_append,h]
  rfl
theorem ord_snoc {N:List (List Int)} (hN:Inn N) (hc:∀ i:Nat,i<N.length→cycB N i=false) {k:Nat} (hk:k<N.length):∃ m:Nat,nextO N (ordTo N k)=(m:Int)∧m<N.length∧okN N (ordTo N k) m=true∧(∀ j,j<m→okN N (ordTo N k) j=false)∧ordTo N (k+1)=ordTo N k ++ [(m:Int)]:=by
 have h:=next_there hN hc hk (ord_len hN hc k (by omega))
 obtain ⟨m,h1,h2,h3,h4⟩:=next_some h
 exact ⟨m,h1,h2,h3,h4,by rw [ordTo,if_pos h,h1]⟩
theorem ord_take {N:List (List Int)} (hN:Inn N) (hc:∀ i:Nat,i<N.length→cycB N i=false) {k:Nat} (n:Nat) (hk:k≤n) (hn:n≤N.length):(ordTo N n).take k=ordTo N k:=by
 induction n with
 | zero =>
  have:k=0:=by omega
  subst this
  rfl
 | succ n ih =>
  by_cases e:k=n+1
  ·subst e
   exact List.take_of_length_le (by rw [ord_len hN hc _ hn];exact Nat.le_refl _)
  ·obtain ⟨m,_,_,_,_,h5⟩:=ord_snoc hN hc (k:=n) (by omega)
   rw [h5,List.take_append_of_le_length (by rw [ord_len hN hc n (by omega)];omega)]
   exact ih (by omega) (by omega)
theorem ord_at {N:List (List Int)} (hN:Inn N) (hc:∀ i:Nat,i<N.length→cycB N i=false) {k:Nat} (hk:k<N.length):∃ m:Nat,(ordTo N N.length).getD k 0=(m:Int)∧m<N.length∧(m:Int)∉(ordTo N N.length).take k∧(∀ x∈N.getD m [],x∈(ordTo N N.length).take k)∧(ordTo N N.length).take (k+1)=(ordTo N N.length).take k ++ [(m:Int)]:=by
 obtain ⟨m,_,h2,h3,_,h5⟩:=ord_snoc hN hc hk
 have e1:=ord_take hN hc (k:=k) N.length (by omega) (Nat.le_refl _)
 have e2:=ord_take hN hc (k:=k+1) N.length (by omega) (Nat.le_refl _)
 refine ⟨m,?_,h2,by rw [e1];exact (ok_out h3).1,by rw [e1];exact (ok_out h3).2,by rw [e1,e2,h5]⟩
 have hl:=ord_len hN hc N.length (Nat.le_refl _)
 have:((ordTo N N.length).take (k+1)).getD k 0=(m:Int):=by
  rw [e2,h5,List.getD_eq_getElem?_getD,List.getElem?_append_right (by rw [ord_len hN hc k (by omega)];exact Nat.le_refl _),ord_len hN hc k (by omega)]
  simp
 rw [List.getD_eq_getElem?_getD,List.getElem?_take_of_lt (by omega)] at this
 rw [List.getD_eq_getElem?_getD]
 exact this
theorem rise_eq:∀ (L K:List Int),L.Pairwise (· < ·)→K.Pairwise (· < ·)→(∀ x,x∈L↔x∈K)→L=K
 | [],[],_,_,_=>rfl
 | [],y :: K,_,_,h=>by have:=(h y).2 (by simp);cases this
 | x :: L,[],_,_,h=>by have:=(h x).1 (by simp);cases this
 | x :: L,y :: K,hL,hK,h=>by
  have hL1:=List.pairwise_cons.1 hL
  have hK1:=List.pairwise_cons.1 hK
  have e:x=y:=by
   rcases List.mem_cons.1 ((h x).1 (by simp)) with e | e
   ·exact e
   ·rcases List.mem_cons.1 ((h y).2 (by simp)) with e2 | e2
    ·exact e2.symm
    ·have:=hL1.1 _ e2
     have:=hK1.1 _ e
     omega
  subst e
  congr 1
  refine rise_eq L K hL1.2 hK1.2 fun z=>⟨fun hz=>?_,fun hz=>?_⟩
  ·rcases List.mem_cons.1 ((h z).1 (List.mem_cons_of_mem _ hz)) with e | e
   ·have:=hL1.1 z hz;omega
   ·exact e
  ·rcases List.mem_cons.1 ((h z).2 (List.mem_cons_of_mem _ hz)) with e | e
   ·have:=hK1.1 z hz;omega
   ·exact e
theorem sel_rise (p:Nat→Bool) (k:Nat):(selTo p k).Pairwise (· < ·):=by
 induction k with
 | zero=>exact List.Pairwise.nil
 | succ k ih =>
  rw [selTo,List.pairwise_append]
  refine ⟨ih,?_,fun a ha b hb=>?_⟩
  ·split <;> simp
  ·obtain ⟨m,h1,h2,-⟩:=selTo_mem a ha
   split at hb
   ·rw [List.mem_singleton.1 hb];omega
   ·cases hb
theorem sel_has {p:Nat→Bool} {k m:Nat} (h:m<k) (hp:p m=true):(m:Int)∈selTo p k:=by
 induction k with
 | zero=>omega
 | succ k ih =>
  rw [selTo,List.mem_append]
  by_cases e:m=k
  ·subst e;exact Or.inr (by rw [if_pos hp];simp)
  ·exact Or.inl (ih (by omega))
theorem selru_filter (p q:Nat→Bool) (f:Int→Bool) (k:Nat) (h:∀ j,j<k→(q j=true↔p j=true∧f (j:Int)=true)):(selTo p k).filter f=selTo q k:=by
 induction k with
 | zero=>rfl
 | succ k ih =>
  rw [selTo,selTo,List.filter_append,ih fun j hj=>h j (by omega)]
  congr 1
  have hk:=h k (by omega)
  by_cases h1:p k=true
  ·by_cases h2:f (k:Int)=true
   ·rw [if_pos h1,if_pos (hk.2 ⟨h1,h2⟩)];simp [h2]
   ·rw [if_pos h1,if_neg fun e=>h2 (hk.1 e).2];simp [h2]
  ·rw [if_neg h1,if_neg fun e=>h1 (hk.1 e).1];rfl
theorem rise_nodup {L:List Int} (h:L.Pairwise (· < ·)):L.Nodup:=h.imp fun h e=>by omega
end Go.Proofs.YtnegjdcedhnjdaaGreatDoor
namespace Go.Proofs
open Go.Shelf
def Tryz.lays137_ren:Go.Shelf.Ren:=⟨fun | 137=>196 | 217=>215 | 266=>233 | n=>n,fun | 9=>9 | 5=>5 | 3=>3 | n=>n,fun | n=>n⟩
theorem Tryz.lays137:Go.Proofs.Lays.n137 Tryz.prog Tryz.lays137_ren:={
 mixed:=by kernel_rfl
 f137:=Tryz.func196.trans (congrArg some (by kernel_rfl))
 f217:=Tryz.func215.trans (congrArg some (by kernel_rfl))
 f266:=Tryz.func233.trans (congrArg some (by kernel_rfl))
 t3:=Tryz.underlying3
 a3:=Tryz.isAgg3
 z3:=Tryz.sizeOf3
 v3:=Tryz.zeroValue3
 t5:=Tryz.underlying5
 a5:=Tryz.isAgg5
 z5:=Tryz.sizeOf5
 v5:=Tryz.zeroValue5
 t9:=Tryz.underlying9
 a9:=Tryz.isAgg9
 z9:=Tryz.sizeOf9
 v9:=Tryz.zeroValue9 }
namespace YtnegjdcedhnjdaaGreatDoor
open Go.ChangeShapes Go.WideShapes Go.ChangeAt Go.RowKit
theorem signI_fin:∀ c:Fin 256,Lib.indexByte [43,45,42,47] c.val.toUInt8=signI (c.val:Int):=by decide +kernel
theorem signI_eq (c:Int) (h0:0≤c) (h1:c<256):Lib.indexByte [43,45,42,47] c.toNat.toUInt8=signI c:=by
 have h:=signI_fin ⟨c.toNat,by omega⟩
 simp only at h
 rw [h,show ((c.toNat:Nat):Int)=c by omega]
theorem signix_any (c:Int) (h0:0≤c) (h1:c<256) (w:World):Calls Tryz.prog 196 #[.string ⟨#[43,45,42,47]⟩,.int .u8 c] w fun e w'=>e=.returned (.int .i64 (signI c))∧Below w.heap.size w w' :=
 (Any.strings_IndexByte Tryz.lays137 ⟨#[43,45,42,47]⟩ c w).mono fun e w' ⟨he,hw⟩=>⟨by rw [he,signI_eq c h0 h1],by rw [hw];exact Below.refl _ _⟩
theorem byteN_range (s:ByteArray) (i:Nat):0≤byteN s i∧byteN s i<256:=by
 unfold byteN
 have:=(s.data.toList.getD i 0).toNat_lt
 omega
theorem nextB_range (s:ByteArray) (i:Nat):0≤nextB s i∧nextB s i<256:=by
 unfold nextB
 split
 ·omega
 ·exact byteN_range s i
end YtnegjdcedhnjdaaGreatDoor
end Go.Proofs
namespace Go.Proofs.YtnegjdcedhnjdaaGreatDoor
open Go Go.ChangeShapes Go.WideShapes Go.ChangeAt Go.RowKit Go.Deep
set_option maxRecDepth 100000
section
variable {H:Type} {enc:TypeId×Value→H} {w:World} {held:Bool}
def LowW (t:Nat) (d:DataW H):Prop := ∀ k∈d.weights Tryz.prog t,k≤reachBytes
theorem weights_all {P:Program} {e:TypeId} {n:Nat}:∀ {l:List (DataW H)} {d:DataW H},d∈l→n∈d.weights P e→n∈DataW.weightsAll P e l
 | x :: r,d,h,hn=>by
  rw [DataW.weightsAll,List.mem_append]
  rcases List.mem_cons.1 h with rfl | h
  ·exact Or.inl hn
  ·exact Or.inr (weights_all h hn)
theorem bytesM:Tryz.prog.bytesOf 33=48:=by kernel_rfl
theorem members_z {fuel:Nat} {A:Option Addr} {n cap:Nat} {x:DataW H×List MemPlace} (h:DataW.trod enc Tryz.prog w 0 (fun _=>true) held fuel 29 [.slice A n cap]=some x) (hz:LowW 29 x.1):n*48≤reachBytes:=by
 rcases open_slice Tryz.underlying29 h with ⟨h1,-⟩ | ⟨a,len,cap,m,k,D,Pl,h1,-,hl,-,hm,rfl,-⟩
 ·simp at h1
  rw [h1.2.1]
  exact Nat.zero_le _
 ·simp at h1
  have h2:=hz ((((List.range len).map D).length+((List.range (m-len)).map fun j=>D (len+j)).length)*Tryz.prog.bytesOf 33) (by simp [DataW.weights,Tryz.underlying29])
  rw [bytesM] at h2
  simp at h2
  rw [h1.2.1]
  omega
theorem dim_z {fuel:Nat} {d:Dm} {A:Option Addr} {c:Nat} {x:DataW H×List MemPlace} (h:DataW.trod enc Tryz.prog w 0 (fun _=>true) held fuel 31 [.string d.name,.int .i64 d.solve,.slice A d.n c]=some x) (hz:LowW 31 x.1):d.n*48≤reachBytes:=by
 obtain ⟨y0,y1,y2,n,rfl,-,-,-,h2⟩:=trod_struct3 Tryz.underlying31 h
 refine members_z (A:=A) (cap:=c) (x:=y2) (fuel:=n) h2 fun k hk=>hz k ?_
 simp only [DataW.weights,Tryz.underlying31]
 exact DataW.weights_mem_each (j:=2) rfl rfl k hk
theorem dims_z {fuel:Nat} {A0:Option Addr} {n cap:Nat} {D:Nat→Dm} {A:Nat→Option Addr} {C:Nat→Nat} {x:DataW H×List MemPlace} (h:DataW.trod enc Tryz.prog w 0 (fun _=>true) held fuel 22 [.slice A0 n cap]=some x) (hD:DimsV w A0 cap n D A C) (hz:LowW 22 x.1):∀ i,i<n→(D i).n*48≤reachBytes:=by
 intro i hi
 rcases open_slice Tryz.underlying22 h with ⟨h1,-⟩ | ⟨a,len,cap',m,k,E,Pl,h1,-,hl,-,hm,rfl,hx⟩
 ·simp at h1
  omega
 ·simp at h1
  obtain ⟨rfl,rfl,rfl⟩:=h1
  obtain ⟨cs',c1,c2⟩:=hx i (by simp at hm;omega)
  rw [cellsD] at c1
  obtain ⟨-,h0 | ⟨b,o,hb,hMs⟩⟩:=hD
  ·omega
  simp at hb
  subst hb
  obtain ⟨d0,d1,d2,-⟩:=hMs.2 i hi
  have hc:=(World.cells?_some c1)
  have e:cs'=[.string (D i).name,.int .i64 (D i).solve,.slice (A i) (D i).n (C i)]:=by
   have hl3:=hc.2.1
   have g:∀ j,j<3→w.cell? ⟨b,o+i*3+j,none⟩=cs'[j]?:=fun j hj=>by
    have:=hc.2.2 j hj
    rw [plain_add,plain_add] at this
    exact this
   match cs',hl3,g with
   | [v0,v1,v2],_,g =>
    have e0:=(g 0 (by omega)).symm.trans d0
    have e1:=(g 1 (by omega)).symm.trans d1
    have e2:=(g 2 (by omega)).symm.trans d2
    simp at e0 e1 e2
    rw [e0,e1,e2]
  rw [e] at c2
  refine dim_z c2 fun q hq=>hz q ?_
  simp only [DataW.weights,Tryz.underlying22]
  refine List.mem_cons_of_mem _ (List.mem_append.2 (Or.inl (weights_all (d:=E i) (List.mem_map.2 ⟨i,List.mem_range.2 hi,rfl⟩) hq)))
theorem outline_z {d:DataW H} {p:List MemPlace} {A0:Option Addr} {n cap:Nat} {D:Nat→Dm} {A:Nat→Option Addr} {C:Nat→Nat} (h:DataW.Trod enc Tryz.prog w 0 (fun _=>true) held 24 (.agg #[.slice A0 n cap]) d p) (hD:DimsV w A0 cap n D A C) (hz:LowW 24 d):∀ i,i<n→(D i).n*48≤reachBytes:=by
 obtain ⟨fuel,hf⟩:=h
 obtain ⟨xs,k,_,hx,hl,hlen,hfs⟩:=DataW.trod_struct Tryz.underlying24 hf
 match xs,hlen with
 | [y],_ =>
  have h0:=hfs 0 _ rfl
  have h1:DataW.trod enc Tryz.prog w 0 (fun _=>true) held k 22 [.slice A0 n cap]=some y:=h0
  have hd:d=.agg [y.1]:=by
   have:=congrArg Prod.fst hx
   exact this
  refine dims_z h1 hD fun q hq=>hz q ?_
  rw [hd]
  simp only [DataW.weights,Tryz.underlying24]
  exact DataW.weights_mem_each (j:=0) rfl rfl q hq
end
end Go.Proofs.YtnegjdcedhnjdaaGreatDoor
