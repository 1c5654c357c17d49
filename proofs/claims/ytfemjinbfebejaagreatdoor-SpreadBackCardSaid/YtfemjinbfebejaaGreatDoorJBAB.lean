/-
  One that goes to its place; the insertion sort; blocks in order, two by two: plain facts.
-/
import Derived.Test.YtfemjinbfebejaaGreatDoorJBAA
namespace Go.Proofs.YtfemjinbfebejaaGreatDoor
open Go.Sort
set_option linter.unusedSectionVars false
variable {α:Type} [Inhabited α] {lt tot:α→α→Bool} {ix:α→Nat}
theorem mvr_spec:∀ (n a:Nat) (d:Array α),a+n<d.size→Rot a (a+1) (a+1+n) d (swr a (a+1) n d):=by
 intro n
 induction n with
 | zero=>exact fun a d h=>⟨rfl,fun k ka kb=>by omega,fun k ka kb=>by show d[k]! = _;congr 1;omega,fun k hk=>rfl,permIn_refl d _ _⟩
 | succ n ih =>
  intro a d h
  have hs:(swp d a (a+1)).size=d.size:=size_swp d _ _
  obtain ⟨r1,r2,r3,r4,r5⟩:=ih (a+1) (swp d a (a+1)) (by omega)
  have p1:=swp_permIn d a (a+1+(n+1)) a (a+1) (by omega) (by omega) (by omega) (by omega) (by omega)
  refine ⟨r1.trans hs,fun k ka kb=>?_,fun k ka kb=>?_,fun k hk=>?_,permIn_trans d _ _ _ _ p1 (permIn_mono _ _ (a+1) (a+1+1+n) a _ (by omega) (by omega) (by omega) r5)⟩
  ·by_cases e:k=a
   ·subst e
    show (swr (k+1) (k+1+1) n (swp d k (k+1)))[k]! = _
    rw [r4 k (by omega),swp_left d k (k+1) (by omega) (by omega)];congr 1;omega
   ·show (swr (a+1) (a+1+1) n (swp d a (a+1)))[k]! = _
    rw [r2 k (by omega) (by omega),swp_other d a (a+1) _ (by omega) (by omega)];congr 1;omega
  ·show (swr (a+1) (a+1+1) n (swp d a (a+1)))[k]! = _
   rw [r3 k (by omega) (by omega),show k-(a+1+1+n-(a+1+1))=a+1 by omega,swp_right d a (a+1) (by omega)];congr 1;omega
  ·show (swr (a+1) (a+1+1) n (swp d a (a+1)))[k]! = _
   rw [r4 k (by omega),swp_other d a (a+1) k (by omega) (by omega)]
def mvl:Nat→Nat→Array α→Array α
 | 0,_,d=>d
 | n+1,m,d=>mvl n (m-1) (swp d m (m-1))
theorem mvl_spec:∀ (n m:Nat) (d:Array α),n≤m→m<d.size→Rot (m-n) m (m+1) d (mvl n m d):=by
 intro n
 induction n with
 | zero=>exact fun m d _ h=>⟨rfl,fun k ka kb=>by show d[k]! = _;congr 1;omega,fun k ka kb=>by omega,fun k hk=>rfl,permIn_refl d _ _⟩
 | succ n ih =>
  intro m d hn h
  have hs:(swp d m (m-1)).size=d.size:=size_swp d _ _
  obtain ⟨r1,r2,r3,r4,r5⟩:=ih (m-1) (swp d m (m-1)) (by omega) (by omega)
  have p1:=swp_permIn d (m-(n+1)) (m+1) m (m-1) (by omega) (by omega) (by omega) (by omega) (by omega)
  refine ⟨r1.trans hs,fun k ka kb=>?_,fun k ka kb=>?_,fun k hk=>?_,permIn_trans d _ _ _ _ p1 (permIn_mono _ _ (m-1-n) (m-1+1) _ _ (by omega) (by omega) (by omega) r5)⟩
  ·show (mvl n (m-1) (swp d m (m-1)))[k]! = _
   rw [r2 k (by omega) (by omega),show k-(m-1-n)+(m-1)=m-1 by omega,swp_right d m (m-1) (by omega)];congr 1;omega
  ·by_cases e:k=m
   ·subst e
    show (mvl n (k-1) (swp d k (k-1)))[k]! = _
    rw [r4 k (by omega),swp_left d k (k-1) (by omega) (by omega)];congr 1;omega
   ·show (mvl n (m-1) (swp d m (m-1)))[k]! = _
    rw [r3 k (by omega) (by omega),swp_other d m (m-1) _ (by omega) (by omega)];congr 1;omega
  ·show (mvl n (m-1) (swp d m (m-1)))[k]! = _
   rw [r4 k (by omega),swp_other d m (m-1) k (by omega) (by omega)]
theorem one_right (T:Tie lt tot ix) {a b i:Nat} {d d':Array α} (W:TwoP tot ix a (a+1) b d) (hi:a+1≤i) (hib:i≤b) (hb:b≤d.size)
  (hl:i=a+1∨tot d[i-1]! d[a]! = true) (hr:i=b∨tot d[i]! d[a]! = false) (R:Rot a (a+1) i d d'):SortedIn tot a b d'∧PermIn a b d d':=by
 obtain ⟨r1,r2,r3,r4,r5⟩:=R
 have rle:∀ i j,a+1≤i→i≤j→j<b→tot d[j]! d[i]! = false:=fun i j hi hij hj=>by
  rcases Nat.lt_or_eq_of_le hij with h | rfl
  ·exact W.r i j hi h hj
  ·exact T.S.irrefl _
 refine ⟨fun p q hp hpq hq=>?_,permIn_mono d d' a i a b (Nat.le_refl _) hib hb r5⟩
 have last:d'[i-1]! = d[a]! := by rw [r3 (i-1) (by omega) (by omega)];congr 1;omega
 by_cases c1:q<i-1
 ·rw [r2 p (by omega) (by omega),r2 q (by omega) (by omega)];exact rle _ _ (by omega) (by omega) (by omega)
 ·by_cases c2:q=i-1
  ·rw [c2,last,r2 p (by omega) (by omega)]
   rcases hl with h | h
   ·omega
   ·exact le_trans' T (rle _ (i-1) (by omega) (by omega) (by omega)) (T.asym h)
  ·rw [r4 q (by omega)]
   by_cases c3:p<i-1
   ·rw [r2 p (by omega) (by omega)];exact rle _ _ (by omega) (by omega) (by omega)
   ·by_cases c4:p=i-1
    ·rw [c4,last]
     rcases hr with h | h
     ·omega
     ·exact le_trans' T h (rle i q (by omega) (by omega) (by omega))
    ·rw [r4 p (by omega)];exact rle _ _ (by omega) (by omega) (by omega)
theorem one_left (T:Tie lt tot ix) {a m i:Nat} {d d':Array α} (W:TwoP tot ix a m (m+1) d) (hi:a≤i) (him:i≤m) (hb:m+1≤d.size)
  (hl:i=a∨tot d[m]! d[i-1]! = false) (hr:i=m∨tot d[m]! d[i]! = true) (R:Rot i m (m+1) d d'):SortedIn tot a (m+1) d'∧PermIn a (m+1) d d':=by
 obtain ⟨r1,r2,r3,r4,r5⟩:=R
 have lle:∀ i j,a≤i→i≤j→j<m→tot d[j]! d[i]! = false:=fun i j hi hij hj=>by
  rcases Nat.lt_or_eq_of_le hij with h | rfl
  ·exact W.l i j hi h hj
  ·exact T.S.irrefl _
 refine ⟨fun p q hp hpq hq=>?_,permIn_mono d d' i (m+1) a (m+1) hi (Nat.le_refl _) hb r5⟩
 have first:d'[i]! = d[m]! := by rw [r2 i (by omega) (by omega)];congr 1;omega
 by_cases c1:q<i
 ·rw [r4 p (by omega),r4 q (by omega)];exact lle _ _ hp (by omega) (by omega)
 ·by_cases c2:q=i
  ·rw [c2,first,r4 p (by omega)]
   rcases hl with h | h
   ·omega
   ·exact le_trans' T (lle p (i-1) hp (by omega) (by omega)) h
  ·rw [r3 q (by omega) (by omega)]
   by_cases c3:p<i
   ·rw [r4 p (by omega)];exact lle _ _ hp (by omega) (by omega)
   ·by_cases c4:p=i
    ·rw [c4,first]
     rcases hr with h | h
     ·omega
     ·exact le_trans' T (T.asym h) (lle i _ (by omega) (by omega) (by omega))
    ·rw [r3 p (by omega) (by omega)];exact lle _ _ (by omega) (by omega) (by omega)
theorem insInner_tie (T:Tie lt tot ix) (a:Nat):∀ (j:Nat) (d:Array α),j<d.size→(∀ k,a≤k→k<j→ix d[k]! < ix d[j]!)→insInner lt a j d=insInner tot a j d:=by
 intro j
 induction j with
 | zero=>exact fun d _ _=>rfl
 | succ j ih =>
  intro d hj h
  unfold insInner
  by_cases hja:j+1 > a
  ·have e:lt d[j+1]! d[j]! = tot d[j+1]! d[j]! := T.on _ _ (h j (by omega) (by omega))
   rw [e]
   by_cases ht:tot d[j+1]! d[j]! = true
   ·simp only [hja,decide_true,ht,Bool.and_self,if_true]
    refine ih _ (by rw [size_swp];omega) (fun k ka kb=>?_)
    rw [swp_other d (j+1) j k (by omega) (by omega),swp_right d (j+1) j (by omega)]
    exact h k ka (by omega)
   ·simp only [Bool.not_eq_true] at ht
    simp [ht]
  ·simp [hja]
theorem insInner_perm (tot:α→α→Bool) (a b:Nat):∀ (j:Nat) (d:Array α),j<b→b≤d.size→PermIn a b d (insInner tot a j d):=by
 intro j
 induction j with
 | zero=>exact fun d _ _=>permIn_refl d _ _
 | succ j ih =>
  intro d hj hb
  unfold insInner
  split
  ·rename_i h
   have hja:j+1 > a:=by simp at h;omega
   have hs:(swp d (j+1) j).size=d.size:=size_swp d _ _
   exact permIn_trans d _ _ _ _ (swp_permIn d a b (j+1) j (by omega) hj (by omega) (by omega) hb) (ih _ (by omega) (by omega))
  ·exact permIn_refl d _ _
theorem insOuter_tie (T:Tie lt tot ix) (a b:Nat):∀ (n i:Nat) (d:Array α),b-i≤n→a<i→b≤d.size→(∀ q,i≤q→q<b→∀ p,a≤p→p<q→ix d[p]! < ix d[q]!)→insOuter lt a b i d=insOuter tot a b i d:=by
 intro n
 induction n with
 | zero=>exact fun i d h1 _ _ _=>by rw [insOuter_stop _ a b i d (by omega),insOuter_stop _ a b i d (by omega)]
 | succ n ih =>
  intro i d h1 hai hb h
  by_cases hi:i<b
  ·rw [insOuter_go _ a b i d hi,insOuter_go _ a b i d hi,insInner_tie T a i d (by omega) (h i (Nat.le_refl _) hi)]
   have P:=insInner_perm tot a (i+1) i d (by omega) (by omega)
   refine ih (i+1) _ (by omega) (by omega) (by rw [P.1];exact hb) (fun q hq hqb p hp hpq=>?_)
   rw [P.2.1 q (by omega)]
   by_cases c:p<i+1
   ·exact permIn_all d _ a (i+1) (fun x=>ix x<ix d[q]!) (by omega) P (fun r hr hr2=>h q (by omega) hqb r hr (by omega)) p hp c
   ·rw [P.2.1 p (by omega)];exact h q (by omega) hqb p hp hpq
  ·rw [insOuter_stop _ a b i d hi,insOuter_stop _ a b i d hi]
theorem ins_tie (T:Tie lt tot ix) {a b:Nat} {d:Array α} (hab:a≤b) (hb:b≤d.size) (h:∀ i,a≤i→i<b→ix d[i]! = i) :
  SortedIn tot a b (Go.Sort.insertionSort lt d a b)∧PermIn a b d (Go.Sort.insertionSort lt d a b):=by
 have e:Go.Sort.insertionSort lt d a b=Go.Sort.insertionSort tot d a b:=insOuter_tie T a b (b-(a+1)) (a+1) d (Nat.le_refl _) (by omega) hb (fun q hq hqb p hp hpq=>by rw [h p hp (by omega),h q (by omega) hqb];exact hpq)
 rw [e]
 have:=insertionSort_holds (lt:=tot) T.S d a b hab hb
 exact ⟨this.2,this.1⟩
/-! ### the blocks -/
def AllB (tot:α→α→Bool) (ix:α→Nat) (n s:Nat) (d:Array α):Prop := ∀ e,e*s<n→Run tot ix (e*s) (min (e*s+s) n) (e*s) (min (e*s+s) n) d
structure InsB (tot:α→α→Bool) (ix:α→Nat) (n s c:Nat) (d:Array α):Prop where
 l:∀ e,e<c→Run tot ix (e*s) (e*s+s) (e*s) (e*s+s) d
 r:∀ i,c*s≤i→i<n→ix d[i]! = i
structure Half (tot:α→α→Bool) (ix:α→Nat) (n s c:Nat) (d:Array α):Prop where
 l:∀ e,e<c→Run tot ix (e*(2*s)) (e*(2*s)+2*s) (e*(2*s)) (e*(2*s)+2*s) d
 r:∀ e,c*(2*s)≤e*s→e*s<n→Run tot ix (e*s) (min (e*s+s) n) (e*s) (min (e*s+s) n) d
theorem mul_blk {e c s:Nat} (h:e<c):e*s+s≤c*s:=by
 have:=Nat.mul_le_mul_right s (show e+1≤c from h)
 rwa [Nat.succ_mul] at this
theorem run_of {a b:Nat} {d d':Array α} (_hab:a≤b) (hb:b≤d.size) (h:∀ i,a≤i→i<b→a≤ix d[i]!∧ix d[i]! < b) (S:SortedIn tot a b d') (P:PermIn a b d d'):Run tot ix a b a b d' :=
 ⟨S,permIn_all d d' a b (fun x=>a≤ix x∧ix x<b) hb P h⟩
theorem insB_step (T:Tie lt tot ix) {n s c:Nat} {d:Array α} (hn:d.size=n) (I:InsB tot ix n s c d) (h:c*s+s≤n) :
  InsB tot ix n s (c+1) (Go.Sort.insertionSort lt d (c*s) (c*s+s))∧PermIn (c*s) (c*s+s) d (Go.Sort.insertionSort lt d (c*s) (c*s+s)):=by
 have I2:=I.r
 have hr:∀ i,c*s≤i→i<c*s+s→ix d[i]! = i:=fun i hi hi2=>I2 i hi (by omega)
 obtain ⟨S,P⟩:=ins_tie T (a:=c*s) (b:=c*s+s) (by omega) (by omega) hr
 refine ⟨⟨fun e he=>?_,fun i hi hi2=>?_⟩,P⟩
 ·by_cases hec:e=c
  ·subst hec;exact run_of (by omega) (by omega) (fun i hi hi2=>by rw [hr i hi hi2];exact ⟨hi,hi2⟩) S P
  ·exact (I.l e (by omega)).perm P (Or.inl (mul_blk (by omega)))
 ·rw [Nat.succ_mul] at hi
  rw [P.2.1 i (Or.inr hi)];exact I2 i (by omega) hi2
theorem insB_end (T:Tie lt tot ix) {n s c:Nat} {d:Array α} (_hs:0<s) (hn:d.size=n) (I:InsB tot ix n s c d) (h:n<c*s+s) (hc:c*s≤n) :
  AllB tot ix n s (Go.Sort.insertionSort lt d (c*s) n)∧PermIn (c*s) n d (Go.Sort.insertionSort lt d (c*s) n):=by
 obtain ⟨S,P⟩:=ins_tie T (a:=c*s) (b:=n) hc (by omega) (fun i hi hi2=>I.r i hi hi2)
 refine ⟨fun e he=>?_,P⟩
 rcases Nat.lt_trichotomy e c with k | k | k
 ·have:=mul_blk (s:=s) k
  rw [Nat.min_eq_left (by omega)]
  exact (I.l e k).perm P (Or.inl this)
 ·subst k
  rw [Nat.min_eq_right (by omega)]
  exact run_of hc (by omega) (fun i hi hi2=>by rw [I.r i hi hi2];exact ⟨hi,hi2⟩) S P
 ·have:=mul_blk (s:=s) k
  omega
theorem half_start {n s:Nat} {d:Array α} (A:AllB tot ix n s d):Half tot ix n s 0 d:=⟨fun _ he=>absurd he (Nat.not_lt_zero _),fun e _ he=>A e he⟩
theorem two_of {a m b:Nat} {d:Array α} (R1:Run tot ix a m a m d) (R2:Run tot ix m b m b d):TwoP tot ix a m b d :=
 ⟨R1.so,R2.so,fun i j hi hi2 hj hj2=>Nat.lt_of_lt_of_le (R1.lo i hi hi2).2 (R2.lo j hj hj2).1⟩
theorem half_two {n s c:Nat} {d:Array α} (hs:0<s) (H:Half tot ix n s c d) (h:c*(2*s)+s<n):TwoP tot ix (c*(2*s)) (c*(2*s)+s) (min (c*(2*s)+2*s) n) d
  ∧ (∀ i,c*(2*s)≤i→i<min (c*(2*s)+2*s) n→c*(2*s)≤ix d[i]!∧ix d[i]! < min (c*(2*s)+2*s) n):=by
 have e1:(2*c)*s=c*(2*s):=by rw [Nat.mul_comm 2 c,Nat.mul_assoc]
 have e2:(2*c+1)*s=c*(2*s)+s:=by rw [Nat.succ_mul,e1]
 have r1:=H.r (2*c) (by omega) (by omega)
 have r2:=H.r (2*c+1) (by omega) (by omega)
 rw [e1,Nat.min_eq_left (by omega)] at r1
 rw [e2,show c*(2*s)+s+s=c*(2*s)+2*s by omega] at r2
 refine ⟨two_of r1 r2,fun i hi hi2=>?_⟩
 by_cases k:i<c*(2*s)+s
 ·have:=r1.lo i hi k;omega
 ·have:=r2.lo i (by omega) hi2;omega
theorem half_step {n s c:Nat} {d d':Array α} (hs:0<s) (hn:d.size=n) (H:Half tot ix n s c d) (h:c*(2*s)+2*s≤n)
  (S:SortedIn tot (c*(2*s)) (c*(2*s)+2*s) d') (P:PermIn (c*(2*s)) (c*(2*s)+2*s) d d'):Half tot ix n s (c+1) d':=by
 have L:=(half_two hs H (by omega)).2
 rw [Nat.min_eq_left h] at L
 refine ⟨fun e he=>?_,fun e h1 h2=>?_⟩
 ·by_cases hec:e=c
  ·subst hec;exact run_of (by omega) (by omega) L S P
  ·exact (H.l e (by omega)).perm P (Or.inl (mul_blk (by omega)))
 ·rw [Nat.succ_mul] at h1
  exact (H.r e (by omega) h2).perm P (Or.inr h1)
theorem half_end {n s c:Nat} {d d':Array α} (hs:0<s) (hn:d.size=n) (H:Half tot ix n s c d) (h:n<c*(2*s)+2*s) (h2:c*(2*s)+s<n)
  (S:SortedIn tot (c*(2*s)) n d') (P:PermIn (c*(2*s)) n d d'):AllB tot ix n (2*s) d':=by
 have L:=(half_two hs H h2).2
 rw [Nat.min_eq_right (by omega)] at L
 intro e he
 rcases Nat.lt_trichotomy e c with k | k | k
 ·have:=mul_blk (s:=2*s) k
  rw [Nat.min_eq_left (by omega)]
  exact (H.l e k).perm P (Or.inl this)
 ·subst k
  rw [Nat.min_eq_right (by omega)]
  exact run_of (by omega) (by omega) L S P
 ·have:=mul_blk (s:=2*s) k
  omega
theorem half_end0 {n s c:Nat} {d:Array α} (hs:0<s) (H:Half tot ix n s c d) (h2:n≤c*(2*s)+s) (h0:c*(2*s)≤n):AllB tot ix n (2*s) d:=by
 intro e he
 rcases Nat.lt_trichotomy e c with k | k | k
 ·have:=mul_blk (s:=2*s) k
  rw [Nat.min_eq_left (by omega)]
  exact H.l e k
 ·subst k
  have e1:(2*e)*s=e*(2*s):=by rw [Nat.mul_comm 2 e,Nat.mul_assoc]
  have:=H.r (2*e) (by omega) (by omega)
  rw [e1,Nat.min_eq_right (by omega)] at this
  rw [Nat.min_eq_right (by omega)];exact this
 ·have:=mul_blk (s:=2*s) k
  omega
theorem allB_sorted {n s:Nat} {d:Array α} (A:AllB tot ix n s d) (h:n≤s):SortedIn tot 0 n d:=by
 intro i j hi hij hj
 have:=A 0 (by omega)
 rw [Nat.zero_mul,Nat.min_eq_right (by omega)] at this
 exact this.so i j hi hij hj
end Go.Proofs.YtfemjinbfebejaaGreatDoor
