/-
  Exchanges of two parts of a row, and what comes of two parts in order that are merged at a place found by halving: plain facts.
-/
import Derived.Test.YtfemjinbfebejaaGreatDoorProg
import Derived.Sort.AssemblyPlain
import Derived.Sort.WalkA
namespace Go.Proofs.YtfemjinbfebejaaGreatDoor
open Go.Sort
set_option linter.unusedSectionVars false
variable {α:Type} [Inhabited α]
def swr:Nat→Nat→Nat→Array α→Array α
 | _,_,0,d=>d
 | a,b,n+1,d=>swr (a+1) (b+1) n (swp d a b)
theorem swr_spec:∀ (n a b:Nat) (d:Array α),a+n≤b→b+n≤d.size→(swr a b n d).size=d.size∧(∀ i,i<n→(swr a b n d)[a+i]! = d[b+i]!∧(swr a b n d)[b+i]! = d[a+i]!)
  ∧ (∀ k,(k<a∨a+n≤k)→(k<b∨b+n≤k)→(swr a b n d)[k]! = d[k]!)∧∀ x y,x≤a→b+n≤y→y≤d.size→PermIn x y d (swr a b n d):=by
 intro n
 induction n with
 | zero=>exact fun a b d _ _=>⟨rfl,fun i hi=>absurd hi (Nat.not_lt_zero _),fun _ _ _=>rfl,fun x y _ _ _=>permIn_refl d x y⟩
 | succ n ih =>
  intro a b d h1 h2
  have hs:(swp d a b).size=d.size:=size_swp d a b
  obtain ⟨i1,i2,i3,i4⟩:=ih (a+1) (b+1) (swp d a b) (by omega) (by omega)
  refine ⟨i1.trans hs,fun i hi=>?_,fun k ka kb=>?_,fun x y hx hy hyd=>?_⟩
  ·cases i with
   | zero =>
    refine ⟨?_,?_⟩
    ·show (swr (a+1) (b+1) n (swp d a b))[a]! = _
     rw [i3 a (Or.inl (by omega)) (Or.inl (by omega)),swp_left d a b (by omega) (by omega)];rfl
    ·show (swr (a+1) (b+1) n (swp d a b))[b]! = _
     rw [i3 b (Or.inr (by omega)) (Or.inl (by omega)),swp_right d a b (by omega)];rfl
   | succ i =>
    obtain ⟨j1,j2⟩:=i2 i (by omega)
    rw [show a+1+i=a+(i+1) by omega] at j1 j2
    rw [show b+1+i=b+(i+1) by omega] at j1 j2
    refine ⟨j1.trans (swp_other d a b _ (by omega) (by omega)),j2.trans (swp_other d a b _ (by omega) (by omega))⟩
  ·exact (i3 k (by omega) (by omega)).trans (swp_other d a b k (by omega) (by omega))
  ·exact permIn_trans d (swp d a b) _ x y (swp_permIn d x y a b (by omega) (by omega) (by omega) (by omega) hyd) (i4 x y (by omega) (by omega) (by omega))
def Rot (a m b:Nat) (d d':Array α):Prop :=
 d'.size=d.size∧(∀ k,a≤k→k<a+(b-m)→d'[k]! = d[k-a+m]!)∧(∀ k,a+(b-m)≤k→k<b→d'[k]! = d[k-(b-m)]!)∧(∀ k,(k<a∨b≤k)→d'[k]! = d[k]!)∧PermIn a b d d'
theorem rot_big {i j m:Nat} {d d':Array α} (h:j<i) (hi:i≤m) (hm:m+j≤d.size) (R:Rot (m-(i-j)) m (m+j) (swr (m-i) m j d) d'):Rot (m-i) m (m+j) d d':=by
 obtain ⟨s1,s2,s3,s4⟩:=swr_spec j (m-i) m d (by omega) hm
 obtain ⟨r1,r2,r3,r4,r5⟩:=R
 rw [s1] at r1
 have p1:=s4 (m-i) (m+j) (Nat.le_refl _) (Nat.le_refl _) hm
 refine ⟨r1,fun k ka kb=>?_,fun k ka kb=>?_,fun k hk=>?_,permIn_trans d _ d' _ _ p1 (permIn_mono _ d' (m-(i-j)) (m+j) (m-i) (m+j) (by omega) (by omega) (by omega) r5)⟩
 ·rw [r4 k (Or.inl (by omega))]
  have:=(s2 (k-(m-i)) (by omega)).1
  rw [show m-i+(k-(m-i))=k by omega] at this
  rw [this,show m+(k-(m-i))=k-(m-i)+m by omega]
 ·by_cases hk:k<m-(i-j)+(m+j-m)
  ·rw [r2 k (by omega) hk]
   have:=(s2 (k-(m-(i-j))) (by omega)).2
   rw [show k-(m-(i-j))+m=m+(k-(m-(i-j))) by omega,this]
   congr 1;omega
  ·rw [r3 k (by omega) (by omega),s3 _ (by omega) (by omega)]
 ·rw [r4 k (by omega)]
  exact p1.2.1 k (by omega)
theorem rot_less {i j m:Nat} {d d':Array α} (h:i<j) (hi:i≤m) (hm:m+j≤d.size) (R:Rot (m-i) m (m+(j-i)) (swr (m-i) (m+j-i) i d) d'):Rot (m-i) m (m+j) d d':=by
 obtain ⟨s1,s2,s3,s4⟩:=swr_spec i (m-i) (m+j-i) d (by omega) (by omega)
 obtain ⟨r1,r2,r3,r4,r5⟩:=R
 rw [s1] at r1
 have p1:=s4 (m-i) (m+j) (Nat.le_refl _) (by omega) hm
 refine ⟨r1,fun k ka kb=>?_,fun k ka kb=>?_,fun k hk=>?_,permIn_trans d _ d' _ _ p1 (permIn_mono _ d' (m-i) (m+(j-i)) (m-i) (m+j) (by omega) (by omega) (by omega) r5)⟩
 ·by_cases hk:k<m-i+(m+(j-i)-m)
  ·rw [r2 k (by omega) hk,s3 _ (by omega) (by omega)]
  ·rw [r3 k (by omega) (by omega)]
   have:=(s2 (k-(m+(j-i)-m)-(m-i)) (by omega)).1
   rw [show m-i+(k-(m+(j-i)-m)-(m-i))=k-(m+(j-i)-m) by omega] at this
   rw [this];congr 1;omega
 ·rw [r4 k (by omega)]
  have:=(s2 (k-(m+j-i)) (by omega)).2
  rw [show m+j-i+(k-(m+j-i))=k by omega] at this
  rw [this];congr 1;omega
 ·rw [r4 k (by omega)]
  exact p1.2.1 k (by omega)
theorem rot_end {i m:Nat} {d:Array α} (hi:i≤m) (hm:m+i≤d.size):Rot (m-i) m (m+i) d (swr (m-i) m i d):=by
 obtain ⟨s1,s2,s3,s4⟩:=swr_spec i (m-i) m d (by omega) hm
 refine ⟨s1,fun k ka kb=>?_,fun k ka kb=>?_,fun k hk=>?_,s4 _ _ (Nat.le_refl _) (Nat.le_refl _) hm⟩
 ·have:=(s2 (k-(m-i)) (by omega)).1
  rw [show m-i+(k-(m-i))=k by omega] at this
  rw [this];congr 1;omega
 ·have:=(s2 (k-m) (by omega)).2
  rw [show m+(k-m)=k by omega] at this
  rw [this];congr 1;omega
 ·exact s3 k (by omega) (by omega)
structure Tie (lt tot:α→α→Bool) (ix:α→Nat):Prop where
 S:SWO tot
 on:∀ x y,ix y<ix x→lt x y=tot x y
variable {lt tot:α→α→Bool} {ix:α→Nat}
theorem Tie.asym (T:Tie lt tot ix) {x y:α} (h:tot x y=true):tot y x=false:=by
 cases e:tot y x with
 | false=>rfl
 | true=>have:=T.S.trans x y x h e;rw [T.S.irrefl] at this;cases this
structure Run (tot:α→α→Bool) (ix:α→Nat) (x y a b:Nat) (d:Array α):Prop where
 so:SortedIn tot a b d
 lo:∀ i,a≤i→i<b→x≤ix d[i]!∧ix d[i]! < y
theorem Run.perm {x y a b:Nat} {d d':Array α} {p q:Nat} (h:Run tot ix x y a b d) (P:PermIn p q d d') (ho:b≤p∨q≤a):Run tot ix x y a b d' :=
 ⟨fun i j hi hij hj=>by rw [P.2.1 i (by omega),P.2.1 j (by omega)];exact h.so i j hi hij hj,fun i hi hj=>by rw [P.2.1 i (by omega)];exact h.lo i hi hj⟩
structure TwoP (tot:α→α→Bool) (ix:α→Nat) (a m b:Nat) (d:Array α):Prop where
 l:SortedIn tot a m d
 r:SortedIn tot m b d
 lo:∀ i j,a≤i→i<m→m≤j→j<b→ix d[i]! < ix d[j]!
theorem le_trans' (T:Tie lt tot ix) {x y z:α} (h1:tot y x=false) (h2:tot z y=false):tot z x=false:=T.S.ntrans z y x h2 h1
theorem two_step (T:Tie lt tot ix) {a m b s:Nat} {d d1:Array α} (W:TwoP tot ix a m b d) (h1:a<m) (h2:m<b) (hb:b≤d.size)
  (e:Nat) (he:s+e=(a+b) / 2+m) (hs1:a≤s) (hs2:s≤m) (hs3:m≤e) (hs4:e≤b)
  (hl:s=a∨e=b∨tot d[e]! d[s-1]! = false) (hr:s=m∨e=m∨tot d[e-1]! d[s]! = true)
  (R:(s<m∧m<e∧Rot s m e d d1)∨(¬ (s<m∧m<e)∧d1=d)) :
  TwoP tot ix a s ((a+b) / 2) d1∧TwoP tot ix ((a+b) / 2) e b d1∧(∀ i j,a≤i→i<(a+b) / 2→(a+b) / 2≤j→j<b→tot d1[j]! d1[i]! = false)∧PermIn a b d d1:=by
 generalize hg:(a+b) / 2=g at *
 have hse:e-m=g-s:=by omega
 have A1:∀ k,a≤k→k<s→d1[k]! = d[k]! := fun k ka kb=>by
  rcases R with ⟨_,_,r⟩ | ⟨_,rfl⟩
  ·exact r.2.2.2.1 k (Or.inl kb)
  ·rfl
 have A2:∀ k,e≤k→k<b→d1[k]! = d[k]! := fun k ka kb=>by
  rcases R with ⟨_,_,r⟩ | ⟨_,rfl⟩
  ·exact r.2.2.2.1 k (Or.inr ka)
  ·rfl
 have B1:∀ k,s≤k→k<g→d1[k]! = d[k-s+m]! := fun k ka kb=>by
  rcases R with ⟨_,_,r⟩ | ⟨hn,rfl⟩
  ·exact r.2.1 k ka (by omega)
  ·congr 1;omega
 have B2:∀ k,g≤k→k<e→d1[k]! = d[k-g+s]! := fun k ka kb=>by
  rcases R with ⟨_,_,r⟩ | ⟨hn,rfl⟩
  ·rw [r.2.2.1 k (by omega) kb];congr 1;omega
  ·congr 1;omega
 have P:PermIn a b d d1:=by
  rcases R with ⟨_,_,r⟩ | ⟨hn,rfl⟩
  ·exact permIn_mono d d1 s e a b hs1 hs4 hb r.2.2.2.2
  ·exact permIn_refl _ _ _
 have lle:∀ i j,a≤i→i≤j→j<m→tot d[j]! d[i]! = false:=fun i j hi hij hj=>by
  rcases Nat.lt_or_eq_of_le hij with h | rfl
  ·exact W.l i j hi h hj
  ·exact T.S.irrefl _
 have rle:∀ i j,m≤i→i≤j→j<b→tot d[j]! d[i]! = false:=fun i j hi hij hj=>by
  rcases Nat.lt_or_eq_of_le hij with h | rfl
  ·exact W.r i j hi h hj
  ·exact T.S.irrefl _
 refine ⟨⟨fun i j hi hij hj=>?_,fun i j hi hij hj=>?_,fun i j hi hi2 hj hj2=>?_⟩,⟨fun i j hi hij hj=>?_,fun i j hi hij hj=>?_,fun i j hi hi2 hj hj2=>?_⟩,fun i j hi hi2 hj hj2=>?_,P⟩
 ·rw [A1 i hi (by omega),A1 j (by omega) hj];exact lle i j hi (by omega) (by omega)
 ·rw [B1 i hi (by omega),B1 j (by omega) hj];exact rle _ _ (by omega) (by omega) (by omega)
 ·rw [A1 i hi hi2,B1 j hj hj2];exact W.lo _ _ (by omega) (by omega) (by omega) (by omega)
 ·rw [B2 i hi (by omega),B2 j (by omega) hj];exact lle _ _ (by omega) (by omega) (by omega)
 ·rw [A2 i hi (by omega),A2 j (by omega) hj];exact rle _ _ (by omega) (by omega) (by omega)
 ·rw [B2 i hi hi2,A2 j hj hj2];exact W.lo _ _ (by omega) (by omega) (by omega) (by omega)
 ·by_cases c1:i<s
  ·rw [A1 i hi c1]
   by_cases c2:j<e
   ·rw [B2 j hj c2];exact lle _ _ hi (by omega) (by omega)
   ·rw [A2 j (by omega) hj2]
    rcases hl with h | h | h
    ·omega
    ·omega
    ·exact le_trans' T (lle i (s-1) hi (by omega) (by omega)) (le_trans' T h (rle e j hs3 (by omega) hj2))
  ·rw [B1 i (by omega) hi2]
   by_cases c2:j<e
   ·rw [B2 j hj c2]
    rcases hr with h | h | h
    ·omega
    ·omega
    ·exact le_trans' T (rle (i-s+m) (e-1) (by omega) (by omega) (by omega)) (le_trans' T (T.asym h) (lle s _ hs1 (by omega) (by omega)))
   ·rw [A2 j (by omega) hj2];exact rle _ _ (by omega) (by omega) hj2
theorem two_done {a m b:Nat} {d:Array α} (W:TwoP tot ix a m b d) (h : ¬ (a<m∧m<b)) (ham:a≤m) (hmb:m≤b):SortedIn tot a b d:=by
 by_cases e:a<m
 ·have:m=b:=by omega
  subst this;exact W.l
 ·have:a=m:=by omega
  subst this;exact W.r
theorem two_perm {a m b p q:Nat} {d d':Array α} (W:TwoP tot ix a m b d) (P:PermIn p q d d') (ho:b≤p∨q≤a) (ham:a≤m) (hmb:m≤b):TwoP tot ix a m b d' :=
 ⟨fun i j hi hij hj=>by rw [P.2.1 i (by omega),P.2.1 j (by omega)];exact W.l i j hi hij hj,fun i j hi hij hj=>by rw [P.2.1 i (by omega),P.2.1 j (by omega)];exact W.r i j hi hij hj,
  fun i j hi hi2 hj hj2=>by rw [P.2.1 i (by omega),P.2.1 j (by omega)];exact W.lo i j hi hi2 hj hj2⟩
theorem two_join {a g b:Nat} {d1 d2 d3:Array α} (hag:a≤g) (hgb:g≤b) (hb:b≤d1.size) (h:∀ i j,a≤i→i<g→g≤j→j<b→tot d1[j]! d1[i]! = false)
  (P1:PermIn a g d1 d2) (S1:SortedIn tot a g d2) (P2:PermIn g b d2 d3) (S2:SortedIn tot g b d3):SortedIn tot a b d3∧PermIn a b d1 d3:=by
 have hs2:d2.size=d1.size:=P1.1
 refine ⟨fun i j hi hij hj=>?_,permIn_trans d1 d2 d3 a b (permIn_mono d1 d2 a g a b (Nat.le_refl _) hgb hb P1) (permIn_mono d2 d3 g b a b hag (Nat.le_refl _) (by omega) P2)⟩
 by_cases c1:j<g
 ·rw [P2.2.1 i (by omega),P2.2.1 j (by omega)];exact S1 i j hi hij c1
 ·by_cases c2:g≤i
  ·exact S2 i j c2 hij hj
  ·have k1:∀ y,(∀ i,a≤i→i<g→tot y d1[i]! = false)→∀ i,a≤i→i<g→tot y d2[i]! = false:=fun y hy =>
    permIn_all d1 d2 a g (fun x=>tot y x=false) (by omega) P1 hy
   have k2:∀ j,g≤j→j<b→tot d2[j]! d2[i]! = false:=fun j hj1 hj2=>by
    rw [P1.2.1 j (by omega)]
    exact k1 _ (fun i' h1 h2=>h i' j h1 h2 hj1 hj2) i hi (by omega)
   have k3:=permIn_all d2 d3 g b (fun x=>tot x d2[i]! = false) (by omega) P2 k2 j (by omega) hj
   rw [P2.2.1 i (by omega)];exact k3
end Go.Proofs.YtfemjinbfebejaaGreatDoor
