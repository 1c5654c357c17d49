/-
  Exchanges of two parts of a row, and what comes of two parts in order that are merged at a place found by halving: plain facts.
-/
import Derived.Test.YtenlladggdcfnaaGreatDoorProg
import Derived.Sort.AssemblyPlain
import Derived.Sort.WalkA
namespace Go.Proofs.YtenlladggdcfnaaGreatDoor
open Go.Sort
set_option linter.unusedSectionVars false
variable {α:Type} [Inhabited α]
def swr:Nat→Nat→Nat→Array α→Array α
 | _,_,0,d=>d
 | a,b,n+1,d=>swr (a+1) (b+1) n (swp d a b)
theorem swr_spec:∀ (n a b:Nat) (d:Array α),a+n≤b→b+n≤d.size→(swr a b n d).size=d.size∧(∀ i,i<n→(swr a b n d)[a+i]! = d[b+i]!∧(swr a b n d)[b+i]! = d[a+i]!)
  ∧ (∀ k,(k<a∨a+n≤k)→(k<b∨b+n≤k)→(swr a b n d)[k]! = d[k]!)∧∀ x y,x≤a→b+n≤y→y≤d.size→PermIn x y d (swr a b n d):=by
 intro n
 induction n with
 | zero=>exact fun a b d _ _=>⟨rfl,fun i hi=>absurd hi (Nat.not_lt_zero _),fun _ _ _=>rfl,fun x y _ _ _=>permIn_refl d x y⟩
 | succ n ih =>
  intro a b d h1 h2
  have hs:(swp d a b).size=d.size:=size_swp d a b
  obtain ⟨i1,i2,i3,i4⟩:=ih (a+1) (b+1) (swp d a b) (by omega) (by omega)
  refine ⟨i1.trans hs,fun i hi=>?_,fun k ka kb=>?_,fun x y hx hy hyd=>?_⟩
  ·cases i with
   | zero =>
    refine ⟨?_,?_⟩
    ·show (swr (a+1) (b+1) n (swp d a b))[a]! = _
     rw [i3 a (Or.inl (by omega)) (Or.inl (by omega)),swp_left d a b (by omega) (by omega)];rfl
    ·show (swr (a+1) (b+1) n (swp d a b))[b]! = _
     rw [i3 b (Or.inr (by omega)) (Or.inl (by omega)),swp_right d a b (by omega)];rfl
   | succ i =>
    obtain ⟨j1,j2⟩:=i2 i (by omega)
    rw [show a+1+i=a+(i+1) by omega] at j1 j2
    rw [show b+1+i=b+(i+1) by omega] at j1 j2
    refine ⟨j1.trans (swp_other d a b _ (by omega) (by omega)),j2.trans (swp_other d a b _ (by omega) (by omega))⟩
  ·exact (i3 k (by omega) (by omega)).trans (swp_other d a b k (by omega) (by omega))
  ·exact permIn_trans d (swp d a b) _ x y (swp_permIn d x y a b (by omega) (by omega) (by omega) (by omega) hyd) (i4 x y (by omega) (by omega) (by omega))
def Rot (a m b:Nat) (d d':Array α):Prop :=
 d'.size=d.size∧(∀ k,a≤k→k<a+(b-m)→d'[k]! = d[k-a+m]!)∧(∀ k,a+(b-m)≤k→k<b→d'[k]! = d[k-(b-m)]!)∧(∀ k,(k<a∨b≤k)→d'[k]! = d[k]!)∧PermIn a b d d'
theorem rot_big {i j m:Nat} {d d':Array α} (h:j<i) (hi:i≤m) (hm:m+j≤d.size) (R:Rot (m-(i-j)) m (m+j) (swr (m-i) m j d) d'):Rot (m-i) m (m+j) d d':=by
 obtain ⟨s1,s2,s3,s4⟩:=swr_spec j (m-i) m d (by omega) hm
 obtain ⟨r1,r2,r3,r4,r5⟩:=R
 rw [s1] at r1
 have p1:=s4 (m-i) (m+j) (Nat.le_refl _) (Nat.le_refl _) hm
 refine ⟨r1,fun k ka kb=>?_,fun k ka kb=>?_,fun k hk=>?_,permIn_trans d _ d' _ _ p1 (permIn_mono _ d' (m-(i-j)) (m+j) (m-i) (m+j) (by omega) (by omega) (by omega) r5)⟩
 ·rw [r4 k (Or.inl (by omega))]
  have:=(s2 (k-(m-i)) (by omega)).1
  rw [show m-i+(k-(m-i))=k by omega] at this
  rw [this,show m+(k-(m-i))=k-(m-i)+m by omega]
 ·by_cases hk:k<m-(i-j)+(m+j-m)
  ·rw [r2 k (by omega) hk]
   have:=(s2 (k-(m-(i-j))) (by omega)).2
   rw [show k-(m-(i-j))+m=m+(k-(m-(i-j))) by omega,this]
   congr 1;omega
  ·rw [r3 k (by omega) (by omega),s3 _ (by omega) (by omega)]
 ·rw [r4 k (by omega)]
  exact p1.2.1 k (by omega)
theorem rot_less {i j m:Nat} {d d':Array α} (h:i<j) (hi:i≤m) (hm:m+j≤d.size) (R:Rot (m-i) m (m+(j-i)) (swr (m-i) (m+j-i) i d) d'):Rot (m-i) m (m+j) d d':=by
 obtain ⟨s1,s2,s3,s4⟩:=swr_spec i (m-i) (m+j-i) d (by omega) (by omega)
 obtain ⟨r1,r2,r3,r4,r5⟩:=R
 rw [s1] at r1
 have p1:=s4 (m-i) (m+j) (Nat.le_refl _) (by omega) hm
 refine ⟨r1,fun k ka kb=>?_,fun k ka kb=>?_,fun k hk=>?_,permIn_trans d _ d' _ _ p1 (permIn_mono _ d' (m-i) (m+(j-i)) (m-i) (m+j) (by omega) (by omega) (by omega) r5)⟩
 ·by_cases hk:k<m-i+(m+(j-i)-m)
  ·rw [r2 k (by omega) hk,s3 _ (by omega) (by omega)]
  ·rw [r3 k (by omega) (by omega)]
   have:=(s2 (k-(m+(j-i)-m)-(m-i)) (by omega)).1
   rw [show m-i+(k-(m+(j-i)-m)-(m-i))=k-(m+(j-i)-m) by omega] at this
   rw [this];congr 1;omega
 ·rw [r4 k (by omega)]
  have:=(s2 (k-(m+j-i)) (by omega)).2
  rw [show m+j-i+(k-(m+j-i))=k by omega] at this
  rw [this];congr 1;omega
 ·rw [r4 k (by omega)]
  exact p1.2.1 k (by omega)
theorem rot_end {i m:Nat} {d:Array α} (hi:i≤m) (hm:m+i≤d.size):Rot (m-i) m (m+i) d (swr (m-i) m i d):=by
 obtain ⟨s1,s2,s3,s4⟩:=swr_spec i (m-i) m d (by omega) hm
 refine ⟨s1,fun k ka kb=>?_,fun k ka kb=>?_,fun k hk=>?_,s4 _ _ (Nat.le_refl _) (Nat.le_refl _) hm⟩
 ·have:=(s2 (k-(m-i)) (by omega)).1
  rw [show m-i+(k-(m-i))=k by omega] at this
  rw [this];congr 1;omega
 ·have:=(s2 (k-m) (by omega)).2
  rw [show m+(k-m)=k by omega] at this
  rw [this];congr 1;omega
 ·exact s3 k (by omega) (by omega)
structure Tie (lt tot:α→α→Bool) (ix:α→Nat):Prop where
 S:SWO tot
 on:∀ x y,ix y<ix x→lt x y=tot x y
variable {lt tot:α→α→Bool} {ix:α→Nat}
theorem Tie.asym (T:Tie lt tot ix) {x y:α} (h:tot x y=true):tot y x=false:=by
 cases e:tot y x with
 | false=>rfl
 | true=>have:=T.S.trans x y x h e;rw [T.S.irrefl] at this;cases this
structure Run (tot:α→α→Bool) (ix:α→Nat) (x y a b:Nat) (d:Array α):Prop where
 so:SortedIn tot a b d
 lo:∀ i,a≤i→i<b→x≤ix d[i]!∧ix d[i]! < y
theorem Run.perm {x y a b:Nat} {d d':Array α} {p q:Nat} (h:Run tot ix x y a b d) (P:PermIn p q d d') (ho:b≤p∨q≤a):Run tot ix x y a b d' :=
 ⟨fun i j hi hij hj=>by rw [P.2.1 i (by omega),P.2.1 j (by omega)];exact h.so i j hi hij hj,fun i hi hj=>by rw [P.2.1 i (by omega)];exact h.lo i hi hj⟩
structure TwoP (tot:α→α→Bool) (ix:α→Nat) (a m b:Nat) (d:Array α):Prop where
 l:SortedIn tot a m d
 r:SortedIn tot m b d
 lo:∀ i j,a≤i→i<m→m≤j→j<b→ix d[i]! < ix d[j]!
theorem le_trans' (T:Tie lt tot ix) {x y z:α} (h1:tot y x=false) (h2:tot z y=false):tot z x=false:=T.S.ntrans z y x h2 h1
theorem two_step (T:Tie lt tot ix) {a m b s:Nat} {d d1:Array α} (W:TwoP tot ix a m b d) (h1:a<m) (h2:m<b) (hb:b≤d.size)
  (e:Nat) (he:s+e=(a+b) / 2+m) (hs1:a≤s) (hs2:s≤m) (hs3:m≤e) (hs4:e≤b)
  (hl:s=a∨e=b∨tot d[e]! d[s-1]! = false) (hr:s=m∨e=m∨tot d[e-1]! d[s]! = true)
  (R:(s<m∧m<e∧Rot s m e d d1)∨(¬ (s<m∧m<e)∧d1=d)) :
  TwoP tot ix a s ((a+b) / 2) d1∧TwoP tot ix ((a+b) / 2) e b d1∧(∀ i j,a≤i→i<(a+b) / 2→(a+b) / 2≤j→j<b→tot d1[j]! d1[i]! = false)∧PermIn a b d d1:=by
 generalize hg:(a+b) / 2=g at *
 have hse:e-m=g-s:=by omega
 have A1:∀ k,a≤k→k<s→d1[k]! = d[k]! := fun k ka kb=>by
  rcases R with ⟨_,_,r⟩ | ⟨_,rfl⟩
  ·exact r.2.2.2.1 k (Or.inl kb)
  ·rfl
 have A2:∀ k,e≤k→k<b→d1[k]! = d[k]! := fun k ka kb=>by
  rcases R with ⟨_,_,r⟩ | ⟨_,rfl⟩
  ·exact r.2.2.2.1 k (Or.inr ka)
  ·rfl
 have B1:∀ k,s≤k→k<g→d1[k]! = d[k-s+m]! := fun k ka kb=>by
  rcases R with ⟨_,_,r⟩ | ⟨hn,rfl⟩
  ·exact r.2.1 k ka (by omega)
  ·congr 1;omega
 have B2:∀ k,g≤k→k<e→d1[k]! = d[k-g+s]! := fun k ka kb=>by
  rcases R with ⟨_,_,r⟩ | ⟨hn,rfl⟩
  ·rw [r.2.2.1 k (by omega) kb];congr 1;omega
  ·congr 1;omega
 have P:PermIn a b d d1:=by
  rcases R with ⟨_,_,r⟩ | ⟨hn,rfl⟩
  ·exact permIn_mono d d1 s e a b hs1 hs4 hb r.2.2.2.2
  ·exact permIn_refl _ _ _
 have lle:∀ i j,a≤i→i≤j→j<m→tot d[j]! d[i]! = false:=fun i j hi hij hj=>by
  rcases Nat.lt_or_eq_of_le hij with h | rfl
  ·exact W.l i j hi h hj
  ·exact T.S.irrefl _
 have rle:∀ i j,m≤i→i≤j→j<b→tot d[j]! d[i]! = false:=fun i j hi hij hj=>by
  rcases Nat.lt_or_eq_of_le hij with h | rfl
  ·exact W.r i j hi h hj
  ·exact T.S.irrefl _
 refine ⟨⟨fun i j hi hij hj=>?_,fun i j hi hij hj=>?_,fun i j hi hi2 hj hj2=>?_⟩,⟨fun i j hi hij hj=>?_,fun i j hi hij hj=>?_,fun i j hi hi2 hj hj2=>?_⟩,fun i j hi hi2 hj hj2=>?_,P⟩
 ·rw [A1 i hi (by omega),A1 j (by omega) hj];exact lle i j hi (by omega) (by omega)
 ·rw [B1 i hi (by omega),B1 j (by omega) hj];exact rle _ _ (by omega) (by omega) (by omega)
 ·rw [A1 i hi hi2,B1 j hj hj2];exact W.lo _ _ (by omega) (by omega) (by omega) (by omega)
 ·rw [B2 i hi (by omega),B2 j (by omega) hj];exact lle _ _ (by omega) (by omega) (by omega)
 ·rw [A2 i hi (by omega),A2 j (by omega) hj];exact rle _ _ (by omega) (by omega) (by omega)
 ·rw [B2 i hi hi2,A2 j hj hj2];exact W.lo _ _ (by omega) (by omega) (by omega) (by omega)
 ·by_cases c1:i<s
  ·rw [A1 i hi c1]
   by_cases c2:j<e
   ·rw [B2 j hj c2];exact lle _ _ hi (by omega) (by omega)
   ·rw [A2 j (by omega) hj2]
    rcases hl with h | h | h
    ·omega
    ·omega
    ·exact le_trans' T (lle i (s-1) hi (by omega) (by omega)) (le_trans' T h (rle e j hs3 (by omega) hj2))
  ·rw [B1 i (by omega) hi2]
   by_cases c2:j<e
   ·rw [B2 j hj c2]
    rcases hr with h | h | h
    ·omega
    ·omega
    ·exact le_trans' T (rle (i-s+m) (e-1) (by omega) (by omega) (by omega)) (le_trans' T (T.asym h) (lle s _ hs1 (by omega) (by omega)))
   ·rw [A2 j (by omega) hj2];exact rle _ _ (by omega) (by omega) hj2
theorem two_done {a m b:Nat} {d:Array α} (W:TwoP tot ix a m b d) (h : ¬ (a<m∧m<b)) (ham:a≤m) (hmb:m≤b):SortedIn tot a b d:=by
 by_cases e:a<m
 ·have:m=b:=by omega
  subst this;exact W.l
 ·have:a=m:=by omega
  subst this;exact W.r
theorem two_perm {a m b p q:Nat} {d d':Array α} (W:TwoP tot ix a m b d) (P:PermIn p q d d') (ho:b≤p∨q≤a) (ham:a≤m) (hmb:m≤b):TwoP tot ix a m b d' :=
 ⟨fun i j hi hij hj=>by rw [P.2.1 i (by omega),P.2.1 j (by omega)];exact W.l i j hi hij hj,fun i j hi hij hj=>by rw [P.2.1 i (by omega),P.2.1 j (by omega)];exact W.r i j hi hij hj,
  fun i j hi hi2 hj hj2=>by rw [P.2.1 i (by omega),P.2.1 j (by omega)];exact W.lo i j hi hi2 hj hj2⟩
theorem two_join {a g b:Nat} {d1 d2 d3:Array α} (hag:a≤g) (hgb:g≤b) (hb:b≤d1.size) (h:∀ i j,a≤i→i<g→g≤j→j<b→tot d1[j]! d1[i]! = false)
  (P1:PermIn a g d1 d2) (S1:SortedIn tot a g d2) (P2:PermIn g b d2 d3) (S2:SortedIn tot g b d3):SortedIn tot a b d3∧PermIn a b d1 d3:=by
 have hs2:d2.size=d1.size:=P1.1
 refine ⟨fun i j hi hij hj=>?_,permIn_trans d1 d2 d3 a b (permIn_mono d1 d2 a g a b (Nat.le_refl _) hgb hb P1) (permIn_mono d2 d3 g b a b hag (Nat.le_refl _) (by omega) P2)⟩
 by_cases c1:j<g
 ·rw [P2.2.1 i (by omega),P2.2.1 j (by omega)];exact S1 i j hi hij c1
 ·by_cases c2:g≤i
  ·exact S2 i j c2 hij hj
  ·have k1:∀ y,(∀ i,a≤i→i<g→tot y d1[i]! = false)→∀ i,a≤i→i<g→tot y d2[i]! = false:=fun y hy =>
    permIn_all d1 d2 a g (fun x=>tot y x=false) (by omega) P1 hy
   have k2:∀ j,g≤j→j<b→tot d2[j]! d2[i]! = false:=fun j hj1 hj2=>by
    rw [P1.2.1 j (by omega)]
    exact k1 _ (fun i' h1 h2=>h i' j h1 h2 hj1 hj2) i hi (by omega)
   have k3:=permIn_all d2 d3 g b (fun x=>tot x d2[i]! = false) (by omega) P2 k2 j (by omega) hj
   rw [P2.2.1 i (by omega)];exact k3
variable {α:Type} [Inhabited α] {lt tot:α→α→Bool} {ix:α→Nat}
theorem mvr_spec:∀ (n a:Nat) (d:Array α),a+n<d.size→Rot a (a+1) (a+1+n) d (swr a (a+1) n d):=by
 intro n
 induction n with
 | zero=>exact fun a d h=>⟨rfl,fun k ka kb=>by omega,fun k ka kb=>by show d[k]! = _;congr 1;omega,fun k hk=>rfl,permIn_refl d _ _⟩
 | succ n ih =>
  intro a d h
  have hs:(swp d a (a+1)).size=d.size:=size_swp d _ _
  obtain ⟨r1,r2,r3,r4,r5⟩:=ih (a+1) (swp d a (a+1)) (by omega)
  have p1:=swp_permIn d a (a+1+(n+1)) a (a+1) (by omega) (by omega) (by omega) (by omega) (by omega)
  refine ⟨r1.trans hs,fun k ka kb=>?_,fun k ka kb=>?_,fun k hk=>?_,permIn_trans d _ _ _ _ p1 (permIn_mono _ _ (a+1) (a+1+1+n) a _ (by omega) (by omega) (by omega) r5)⟩
  ·by_cases e:k=a
   ·subst e
    show (swr (k+1) (k+1+1) n (swp d k (k+1)))[k]! = _
    rw [r4 k (by omega),swp_left d k (k+1) (by omega) (by omega)];congr 1;omega
   ·show (swr (a+1) (a+1+1) n (swp d a (a+1)))[k]! = _
    rw [r2 k (by omega) (by omega),swp_other d a (a+1) _ (by omega) (by omega)];congr 1;omega
  ·show (swr (a+1) (a+1+1) n (swp d a (a+1)))[k]! = _
   rw [r3 k (by omega) (by omega),show k-(a+1+1+n-(a+1+1))=a+1 by omega,swp_right d a (a+1) (by omega)];congr 1;omega
  ·show (swr (a+1) (a+1+1) n (swp d a (a+1)))[k]! = _
   rw [r4 k (by omega),swp_other d a (a+1) k (by omega) (by omega)]
def mvl:Nat→Nat→Array α→Array α
 | 0,_,d=>d
 | n+1,m,d=>mvl n (m-1) (swp d m (m-1))
theorem mvl_spec:∀ (n m:Nat) (d:Array α),n≤m→m<d.size→Rot (m-n) m (m+1) d (mvl n m d):=by
 intro n
 induction n with
 | zero=>exact fun m d _ h=>⟨rfl,fun k ka kb=>by show d[k]! = _;congr 1;omega,fun k ka kb=>by omega,fun k hk=>rfl,permIn_refl d _ _⟩
 | succ n ih =>
  intro m d hn h
  have hs:(swp d m (m-1)).size=d.size:=size_swp d _ _
  obtain ⟨r1,r2,r3,r4,r5⟩:=ih (m-1) (swp d m (m-1)) (by omega) (by omega)
  have p1:=swp_permIn d (m-(n+1)) (m+1) m (m-1) (by omega) (by omega) (by omega) (by omega) (by omega)
  refine ⟨r1.trans hs,fun k ka kb=>?_,fun k ka kb=>?_,fun k hk=>?_,permIn_trans d _ _ _ _ p1 (permIn_mono _ _ (m-1-n) (m-1+1) _ _ (by omega) (by omega) (by omega) r5)⟩
  ·show (mvl n (m-1) (swp d m (m-1)))[k]! = _
   rw [r2 k (by omega) (by omega),show k-(m-1-n)+(m-1)=m-1 by omega,swp_right d m (m-1) (by omega)];congr 1;omega
  ·by_cases e:k=m
   ·subst e
    show (mvl n (k-1) (swp d k (k-1)))[k]! = _
    rw [r4 k (by omega),swp_left d k (k-1) (by omega) (by omega)];congr 1;omega
   ·show (mvl n (m-1) (swp d m (m-1)))[k]! = _
    rw [r3 k (by omega) (by omega),swp_other d m (m-1) _ (by omega) (by omega)];congr 1;omega
  ·show (mvl n (m-1) (swp d m (m-1)))[k]! = _
   rw [r4 k (by omega),swp_other d m (m-1) k (by omega) (by omega)]
theorem one_right (T:Tie lt tot ix) {a b i:Nat} {d d':Array α} (W:TwoP tot ix a (a+1) b d) (hi:a+1≤i) (hib:i≤b) (hb:b≤d.size)
  (hl:i=a+1∨tot d[i-1]! d[a]! = true) (hr:i=b∨tot d[i]! d[a]! = false) (R:Rot a (a+1) i d d'):SortedIn tot a b d'∧PermIn a b d d':=by
 obtain ⟨r1,r2,r3,r4,r5⟩:=R
 have rle:∀ i j,a+1≤i→i≤j→j<b→tot d[j]! d[i]! = false:=fun i j hi hij hj=>by
  rcases Nat.lt_or_eq_of_le hij with h | rfl
  ·exact W.r i j hi h hj
  ·exact T.S.irrefl _
 refine ⟨fun p q hp hpq hq=>?_,permIn_mono d d' a i a b (Nat.le_refl _) hib hb r5⟩
 have last:d'[i-1]! = d[a]! := by rw [r3 (i-1) (by omega) (by omega)];congr 1;omega
 by_cases c1:q<i-1
 ·rw [r2 p (by omega) (by omega),r2 q (by omega) (by omega)];exact rle _ _ (by omega) (by omega) (by omega)
 ·by_cases c2:q=i-1
  ·rw [c2,last,r2 p (by omega) (by omega)]
   rcases hl with h | h
   ·omega
   ·exact le_trans' T (rle _ (i-1) (by omega) (by omega) (by omega)) (T.asym h)
  ·rw [r4 q (by omega)]
   by_cases c3:p<i-1
   ·rw [r2 p (by omega) (by omega)];exact rle _ _ (by omega) (by omega) (by omega)
   ·by_cases c4:p=i-1
    ·rw [c4,last]
     rcases hr with h | h
     ·omega
     ·exact le_trans' T h (rle i q (by omega) (by omega) (by omega))
    ·rw [r4 p (by omega)];exact rle _ _ (by omega) (by omega) (by omega)
theorem one_left (T:Tie lt tot ix) {a m i:Nat} {d d':Array α} (W:TwoP tot ix a m (m+1) d) (hi:a≤i) (him:i≤m) (hb:m+1≤d.size)
  (hl:i=a∨tot d[m]! d[i-1]! = false) (hr:i=m∨tot d[m]! d[i]! = true) (R:Rot i m (m+1) d d'):SortedIn tot a (m+1) d'∧PermIn a (m+1) d d':=by
 obtain ⟨r1,r2,r3,r4,r5⟩:=R
 have lle:∀ i j,a≤i→i≤j→j<m→tot d[j]! d[i]! = false:=fun i j hi hij hj=>by
  rcases Nat.lt_or_eq_of_le hij with h | rfl
  ·exact W.l i j hi h hj
  ·exact T.S.irrefl _
 refine ⟨fun p q hp hpq hq=>?_,permIn_mono d d' i (m+1) a (m+1) hi (Nat.le_refl _) hb r5⟩
 have first:d'[i]! = d[m]! := by rw [r2 i (by omega) (by omega)];congr 1;omega
 by_cases c1:q<i
 ·rw [r4 p (by omega),r4 q (by omega)];exact lle _ _ hp (by omega) (by omega)
 ·by_cases c2:q=i
  ·rw [c2,first,r4 p (by omega)]
   rcases hl with h | h
   ·omega
   ·exact le_trans' T (lle p (i-1) hp (by omega) (by omega)) h
  ·rw [r3 q (by omega) (by omega)]
   by_cases c3:p<i
   ·rw [r4 p (by omega)];exact lle _ _ hp (by omega) (by omega)
   ·by_cases c4:p=i
    ·rw [c4,first]
     rcases hr with h | h
     ·omega
     ·exact le_trans' T (T.asym h) (lle i _ (by omega) (by omega) (by omega))
    ·rw [r3 p (by omega) (by omega)];exact lle _ _ (by omega) (by omega) (by omega)
theorem insInner_tie (T:Tie lt tot ix) (a:Nat):∀ (j:Nat) (d:Array α),j<d.size→(∀ k,a≤k→k<j→ix d[k]! < ix d[j]!)→insInner lt a j d=insInner tot a j d:=by
 intro j
 induction j with
 | zero=>exact fun d _ _=>rfl
 | succ j ih =>
  intro d hj h
  unfold insInner
  by_cases hja:j+1 > a
  ·have e:lt d[j+1]! d[j]! = tot d[j+1]! d[j]! := T.on _ _ (h j (by omega) (by omega))
   rw [e]
   by_cases ht:tot d[j+1]! d[j]! = true
   ·simp only [hja,decide_true,ht,Bool.and_self,if_true]
    refine ih _ (by rw [size_swp];omega) (fun k ka kb=>?_)
    rw [swp_other d (j+1) j k (by omega) (by omega),swp_right d (j+1) j (by omega)]
    exact h k ka (by omega)
   ·simp only [Bool.not_eq_true] at ht
    simp [ht]
  ·simp [hja]
theorem insInner_perm (tot:α→α→Bool) (a b:Nat):∀ (j:Nat) (d:Array α),j<b→b≤d.size→PermIn a b d (insInner tot a j d):=by
 intro j
 induction j with
 | zero=>exact fun d _ _=>permIn_refl d _ _
 | succ j ih =>
  intro d hj hb
  unfold insInner
  split
  ·rename_i h
   have hja:j+1 > a:=by simp at h;omega
   have hs:(swp d (j+1) j).size=d.size:=size_swp d _ _
   exact permIn_trans d _ _ _ _ (swp_permIn d a b (j+1) j (by omega) hj (by omega) (by omega) hb) (ih _ (by omega) (by omega))
  ·exact permIn_refl d _ _
theorem insOuter_tie (T:Tie lt tot ix) (a b:Nat):∀ (n i:Nat) (d:Array α),b-i≤n→a<i→b≤d.size→(∀ q,i≤q→q<b→∀ p,a≤p→p<q→ix d[p]! < ix d[q]!)→insOuter lt a b i d=insOuter tot a b i d:=by
 intro n
 induction n with
 | zero=>exact fun i d h1 _ _ _=>by rw [insOuter_stop _ a b i d (by omega),insOuter_stop _ a b i d (by omega)]
 | succ n ih =>
  intro i d h1 hai hb h
  by_cases hi:i<b
  ·rw [insOuter_go _ a b i d hi,insOuter_go _ a b i d hi,insInner_tie T a i d (by omega) (h i (Nat.le_refl _) hi)]
   have P:=insInner_perm tot a (i+1) i d (by omega) (by omega)
   refine ih (i+1) _ (by omega) (by omega) (by rw [P.1];exact hb) (fun q hq hqb p hp hpq=>?_)
   rw [P.2.1 q (by omega)]
   by_cases c:p<i+1
   ·exact permIn_all d _ a (i+1) (fun x=>ix x<ix d[q]!) (by omega) P (fun r hr hr2=>h q (by omega) hqb r hr (by omega)) p hp c
   ·rw [P.2.1 p (by omega)];exact h q (by omega) hqb p hp hpq
  ·rw [insOuter_stop _ a b i d hi,insOuter_stop _ a b i d hi]
theorem ins_tie (T:Tie lt tot ix) {a b:Nat} {d:Array α} (hab:a≤b) (hb:b≤d.size) (h:∀ i,a≤i→i<b→ix d[i]! = i) :
  SortedIn tot a b (Go.Sort.insertionSort lt d a b)∧PermIn a b d (Go.Sort.insertionSort lt d a b):=by
 have e:Go.Sort.insertionSort lt d a b=Go.Sort.insertionSort tot d a b:=insOuter_tie T a b (b-(a+1)) (a+1) d (Nat.le_refl _) (by omega) hb (fun q hq hqb p hp hpq=>by rw [h p hp (by omega),h q (by omega) hqb];exact hpq)
 rw [e]
 have:=insertionSort_holds (lt:=tot) T.S d a b hab hb
 exact ⟨this.2,this.1⟩
/-! ### the blocks -/
def AllB (tot:α→α→Bool) (ix:α→Nat) (n s:Nat) (d:Array α):Prop := ∀ e,e*s<n→Run tot ix (e*s) (min (e*s+s) n) (e*s) (min (e*s+s) n) d
structure InsB (tot:α→α→Bool) (ix:α→Nat) (n s c:Nat) (d:Array α):Prop where
 l:∀ e,e<c→Run tot ix (e*s) (e*s+s) (e*s) (e*s+s) d
 r:∀ i,c*s≤i→i<n→ix d[i]! = i
structure Half (tot:α→α→Bool) (ix:α→Nat) (n s c:Nat) (d:Array α):Prop where
 l:∀ e,e<c→Run tot ix (e*(2*s)) (e*(2*s)+2*s) (e*(2*s)) (e*(2*s)+2*s) d
 r:∀ e,c*(2*s)≤e*s→e*s<n→Run tot ix (e*s) (min (e*s+s) n) (e*s) (min (e*s+s) n) d
theorem mul_blk {e c s:Nat} (h:e<c):e*s+s≤c*s:=by
 have:=Nat.mul_le_mul_right s (show e+1≤c from h)
 rwa [Nat.succ_mul] at this
theorem run_of {a b:Nat} {d d':Array α} (_hab:a≤b) (hb:b≤d.size) (h:∀ i,a≤i→i<b→a≤ix d[i]!∧ix d[i]! < b) (S:SortedIn tot a b d') (P:PermIn a b d d'):Run tot ix a b a b d' :=
 ⟨S,permIn_all d d' a b (fun x=>a≤ix x∧ix x<b) hb P h⟩
theorem insB_step (T:Tie lt tot ix) {n s c:Nat} {d:Array α} (hn:d.size=n) (I:InsB tot ix n s c d) (h:c*s+s≤n) :
  InsB tot ix n s (c+1) (Go.Sort.insertionSort lt d (c*s) (c*s+s))∧PermIn (c*s) (c*s+s) d (Go.Sort.insertionSort lt d (c*s) (c*s+s)):=by
 have I2:=I.r
 have hr:∀ i,c*s≤i→i<c*s+s→ix d[i]! = i:=fun i hi hi2=>I2 i hi (by omega)
 obtain ⟨S,P⟩:=ins_tie T (a:=c*s) (b:=c*s+s) (by omega) (by omega) hr
 refine ⟨⟨fun e he=>?_,fun i hi hi2=>?_⟩,P⟩
 ·by_cases hec:e=c
  ·subst hec;exact run_of (by omega) (by omega) (fun i hi hi2=>by rw [hr i hi hi2];exact ⟨hi,hi2⟩) S P
  ·exact (I.l e (by omega)).perm P (Or.inl (mul_blk (by omega)))
 ·rw [Nat.succ_mul] at hi
  rw [P.2.1 i (Or.inr hi)];exact I2 i (by omega) hi2
theorem insB_end (T:Tie lt tot ix) {n s c:Nat} {d:Array α} (_hs:0<s) (hn:d.size=n) (I:InsB tot ix n s c d) (h:n<c*s+s) (hc:c*s≤n) :
  AllB tot ix n s (Go.Sort.insertionSort lt d (c*s) n)∧PermIn (c*s) n d (Go.Sort.insertionSort lt d (c*s) n):=by
 obtain ⟨S,P⟩:=ins_tie T (a:=c*s) (b:=n) hc (by omega) (fun i hi hi2=>I.r i hi hi2)
 refine ⟨fun e he=>?_,P⟩
 rcases Nat.lt_trichotomy e c with k | k | k
 ·have:=mul_blk (s:=s) k
  rw [Nat.min_eq_left (by omega)]
  exact (I.l e k).perm P (Or.inl this)
 ·subst k
  rw [Nat.min_eq_right (by omega)]
  exact run_of hc (by omega) (fun i hi hi2=>by rw [I.r i hi hi2];exact ⟨hi,hi2⟩) S P
 ·have:=mul_blk (s:=s) k
  omega
theorem half_start {n s:Nat} {d:Array α} (A:AllB tot ix n s d):Half tot ix n s 0 d:=⟨fun _ he=>absurd he (Nat.not_lt_zero _),fun e _ he=>A e he⟩
theorem two_of {a m b:Nat} {d:Array α} (R1:Run tot ix a m a m d) (R2:Run tot ix m b m b d):TwoP tot ix a m b d :=
 ⟨R1.so,R2.so,fun i j hi hi2 hj hj2=>Nat.lt_of_lt_of_le (R1.lo i hi hi2).2 (R2.lo j hj hj2).1⟩
theorem half_two {n s c:Nat} {d:Array α} (hs:0<s) (H:Half tot ix n s c d) (h:c*(2*s)+s<n):TwoP tot ix (c*(2*s)) (c*(2*s)+s) (min (c*(2*s)+2*s) n) d
  ∧ (∀ i,c*(2*s)≤i→i<min (c*(2*s)+2*s) n→c*(2*s)≤ix d[i]!∧ix d[i]! < min (c*(2*s)+2*s) n):=by
 have e1:(2*c)*s=c*(2*s):=by rw [Nat.mul_comm 2 c,Nat.mul_assoc]
 have e2:(2*c+1)*s=c*(2*s)+s:=by rw [Nat.succ_mul,e1]
 have r1:=H.r (2*c) (by omega) (by omega)
 have r2:=H.r (2*c+1) (by omega) (by omega)
 rw [e1,Nat.min_eq_left (by omega)] at r1
 rw [e2,show c*(2*s)+s+s=c*(2*s)+2*s by omega] at r2
 refine ⟨two_of r1 r2,fun i hi hi2=>?_⟩
 by_cases k:i<c*(2*s)+s
 ·have:=r1.lo i hi k;omega
 ·have:=r2.lo i (by omega) hi2;omega
theorem half_step {n s c:Nat} {d d':Array α} (hs:0<s) (hn:d.size=n) (H:Half tot ix n s c d) (h:c*(2*s)+2*s≤n)
  (S:SortedIn tot (c*(2*s)) (c*(2*s)+2*s) d') (P:PermIn (c*(2*s)) (c*(2*s)+2*s) d d'):Half tot ix n s (c+1) d':=by
 have L:=(half_two hs H (by omega)).2
 rw [Nat.min_eq_left h] at L
 refine ⟨fun e he=>?_,fun e h1 h2=>?_⟩
 ·by_cases hec:e=c
  ·subst hec;exact run_of (by omega) (by omega) L S P
  ·exact (H.l e (by omega)).perm P (Or.inl (mul_blk (by omega)))
 ·rw [Nat.succ_mul] at h1
  exact (H.r e (by omega) h2).perm P (Or.inr h1)
theorem half_end {n s c:Nat} {d d':Array α} (hs:0<s) (hn:d.size=n) (H:Half tot ix n s c d) (h:n<c*(2*s)+2*s) (h2:c*(2*s)+s<n)
  (S:SortedIn tot (c*(2*s)) n d') (P:PermIn (c*(2*s)) n d d'):AllB tot ix n (2*s) d':=by
 have L:=(half_two hs H h2).2
 rw [Nat.min_eq_right (by omega)] at L
 intro e he
 rcases Nat.lt_trichotomy e c with k | k | k
 ·have:=mul_blk (s:=2*s) k
  rw [Nat.min_eq_left (by omega)]
  exact (H.l e k).perm P (Or.inl this)
 ·subst k
  rw [Nat.min_eq_right (by omega)]
  exact run_of (by omega) (by omega) L S P
 ·have:=mul_blk (s:=2*s) k
  omega
theorem half_end0 {n s c:Nat} {d:Array α} (hs:0<s) (H:Half tot ix n s c d) (h2:n≤c*(2*s)+s) (h0:c*(2*s)≤n):AllB tot ix n (2*s) d:=by
 intro e he
 rcases Nat.lt_trichotomy e c with k | k | k
 ·have:=mul_blk (s:=2*s) k
  rw [Nat.min_eq_left (by omega)]
  exact H.l e k
 ·subst k
  have e1:(2*e)*s=e*(2*s):=by rw [Nat.mul_comm 2 e,Nat.mul_assoc]
  have:=H.r (2*e) (by omega) (by omega)
  rw [e1,Nat.min_eq_right (by omega)] at this
  rw [Nat.min_eq_right (by omega)];exact this
 ·have:=mul_blk (s:=2*s) k
  omega
theorem allB_sorted {n s:Nat} {d:Array α} (A:AllB tot ix n s d) (h:n≤s):SortedIn tot 0 n d:=by
 intro i j hi hij hj
 have:=A 0 (by omega)
 rw [Nat.zero_mul,Nat.min_eq_right (by omega)] at this
 exact this.so i j hi hij hj
end Go.Proofs.YtenlladggdcfnaaGreatDoor
