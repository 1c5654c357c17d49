/-
  Written and read again, on plain data: of a formula that is right the text is read as nodes of the same tree, which are right, and written the same.
-/
import Derived.Test.YtglekooldbeklaaGreatDoorJKAY
import Derived.Test.YtglekooldbeklaaGreatDoorJKAZ
namespace Go.Proofs.YtglekooldbeklaaGreatDoor
theorem tree_in {L:List Nd}:∀ (t:Tre) (k f:Nat),okT t→(∀ j,j<sizT t→L.getD (k+j) noN=(post t k).getD j noN)→sizT t≤f→trF L f (k+sizT t-1)=t
 | .num n,k,f,_,h,hf=>by
  obtain ⟨g,rfl⟩:∃ g,f=g+1:=⟨f-1,by have:sizT (.num n)=1:=rfl;omega⟩
  have h0:=h 0 (by show 0<1;omega)
  show trF L (g+1) k=_
  rw [Nat.add_zero] at h0
  have e:L.getD k noN=⟨1,n,noT,0,0⟩:=h0
  rw [trF,if_pos (by rw [e]),e]
 | .ref s,k,f,_,h,hf=>by
  obtain ⟨g,rfl⟩:∃ g,f=g+1:=⟨f-1,by have:sizT (.ref s)=1:=rfl;omega⟩
  have h0:=h 0 (by show 0<1;omega)
  show trF L (g+1) k=_
  rw [Nat.add_zero] at h0
  have e:L.getD k noN=⟨2,0,s,0,0⟩:=h0
  rw [trF,if_neg (by rw [e];show ¬ (2:Int)=1;omega),if_pos (by rw [e]),e]
 | .bin o a b,k,f,⟨ho,ha,hb⟩,h,hf=>by
  have hs:sizT (.bin o a b)=sizT a+sizT b+1:=rfl
  have la:=post_len a k
  have lb:=post_len b (k+sizT a)
  have pa:=siz_pos a
  have pb:=siz_pos b
  obtain ⟨g,rfl⟩:∃ g,f=g+1:=⟨f-1,by omega⟩
  have hp:post (.bin o a b) k=post a k ++ post b (k+sizT a) ++ [⟨o,0,noT,((k+sizT a-1:Nat):Int),((k+sizT a+sizT b-1:Nat):Int)⟩]:=rfl
  have e:L.getD (k+(sizT a+sizT b)) noN=⟨o,0,noT,((k+sizT a-1:Nat):Int),((k+sizT a+sizT b-1:Nat):Int)⟩:=by
   rw [h _ (by omega),hp,List.getD_eq_getElem?_getD,List.getElem?_append_right (by simp [la,lb])]
   simp [la,lb]
  have ia:=tree_in (L:=L) a k g ha (fun j hj=>by
   rw [h j (by omega),hp,List.append_assoc,List.getD_eq_getElem?_getD,List.getElem?_append_left (by omega),←List.getD_eq_getElem?_getD]) (by omega)
  have ib:=tree_in (L:=L) b (k+sizT a) g hb (fun j hj=>by
   rw [Nat.add_assoc,h (sizT a+j) (by omega),hp,List.getD_eq_getElem?_getD,List.getElem?_append_left (by simp [la,lb];omega),List.getElem?_append_right (by omega),←List.getD_eq_getElem?_getD,la,Nat.add_sub_cancel_left]) (by omega)
  rw [hs,show k+(sizT a+sizT b+1)-1=k+(sizT a+sizT b) by omega,trF,e]
  simp only
  rw [if_neg (by omega),if_neg (by omega),Int.toNat_natCast,Int.toNat_natCast,ia,ib]
theorem tree_post (t:Tre) (h:okT t):treeOf (post t 0) ((post t 0).length-1)=t:=by
 have hl:=post_len t 0
 have hp:=siz_pos t
 unfold treeOf
 have e:=tree_in (L:=post t 0) t 0 (sizT t) h (fun j _=>by rw [Nat.zero_add]) (Nat.le_refl _)
 rw [Nat.zero_add] at e
 rw [hl,show sizT t-1+1=sizT t by omega]
 exact e
theorem noT_nil:noT.toList=[]:=by rw [toL_nil];rfl
theorem post_right:∀ (t:Tre) (k j:Nat),okT t→j<sizT t→ndErr ((post t k).getD j noN) (k+j)=0
 | .num n,k,j,h,hj=>by
  have hj0:j=0:=by have:sizT (.num n)=1:=rfl;omega
  subst hj0
  show ndErr ⟨1,n,noT,0,0⟩ _=0
  rw [nd1 h.1 h.2,if_pos ⟨noT_nil,rfl,rfl⟩]
 | .ref s,k,j,h,hj=>by
  have hj0:j=0:=by have:sizT (.ref s)=1:=rfl;omega
  subst hj0
  show ndErr ⟨2,0,s,0,0⟩ _=0
  rw [nd2 h,if_pos ⟨rfl,rfl,rfl⟩]
 | .bin o a b,k,j,⟨ho,ha,hb⟩,hj=>by
  have hs:sizT (.bin o a b)=sizT a+sizT b+1:=rfl
  have la:=post_len a k
  have lb:=post_len b (k+sizT a)
  have pa:=siz_pos a
  have pb:=siz_pos b
  have hp:post (.bin o a b) k=post a k ++ post b (k+sizT a) ++ [⟨o,0,noT,((k+sizT a-1:Nat):Int),((k+sizT a+sizT b-1:Nat):Int)⟩]:=rfl
  rw [hp]
  by_cases h1:j<sizT a
  ·rw [List.append_assoc,List.getD_eq_getElem?_getD,List.getElem?_append_left (by omega),←List.getD_eq_getElem?_getD]
   exact post_right a k j ha h1
  by_cases h2:j<sizT a+sizT b
  ·rw [List.getD_eq_getElem?_getD,List.getElem?_append_left (by simp [la,lb];omega),List.getElem?_append_right (by omega),←List.getD_eq_getElem?_getD,la]
   have:=post_right b (k+sizT a) (j-sizT a) hb (by omega)
   rw [show k+sizT a+(j-sizT a)=k+j by omega] at this
   exact this
  ·have hj2:j=sizT a+sizT b:=by omega
   subst hj2
   rw [List.getD_eq_getElem?_getD,List.getElem?_append_right (by simp [la,lb])]
   simp only [List.length_append,la,lb,Nat.sub_self,List.getElem?_cons_zero,Option.getD_some]
   have ha2:anyL (outI (k+(sizT a+sizT b))) [((k+sizT a-1:Nat):Int),((k+sizT a+sizT b-1:Nat):Int)]=false:=by
    simp [anyL,outI]
    omega
   rw [nd3 ho.1 ho.2 ha2,if_pos ⟨rfl,noT_nil⟩]
def usesSum (L:List Nd) (m:Nat):Nat:=(L.map fun x=>uses x m).sum
theorem usedTo_sum (l:List Nd) (m:Nat):∀ k,k≤l.length→usedTo l k m=usesSum (l.take k) m
 | 0,_=>rfl
 | k+1,hk=>by
  rw [take_snoc l (by omega)]
  show usedTo l k m+uses (l.getD k noN) m=_
  rw [usedTo_sum l m k (by omega)]
  simp [usesSum]
theorem uses_post:∀ (t:Tre) (k m:Nat),okT t→usesSum (post t k) m=if k≤m∧m+1<k+sizT t then 1 else 0
 | .num n,k,m,_=>by
  have hs:sizT (.num n)=1:=rfl
  rw [if_neg (by omega)]
  rfl
 | .ref s,k,m,_=>by
  have hs:sizT (.ref s)=1:=rfl
  rw [if_neg (by omega)]
  rfl
 | .bin o a b,k,m,⟨ho,ha,hb⟩=>by
  have hs:sizT (.bin o a b)=sizT a+sizT b+1:=rfl
  have pa:=siz_pos a
  have pb:=siz_pos b
  have e:usesSum (post (.bin o a b) k) m=usesSum (post a k) m+usesSum (post b (k+sizT a)) m+uses ⟨o,0,noT,((k+sizT a-1:Nat):Int),((k+sizT a+sizT b-1:Nat):Int)⟩ m:=by
   simp [usesSum,post]
   omega
  have eu:uses ⟨o,0,noT,((k+sizT a-1:Nat):Int),((k+sizT a+sizT b-1:Nat):Int)⟩ m=(if ((k+sizT a-1:Nat):Int)=(m:Int) then 1 else 0)+(if ((k+sizT a+sizT b-1:Nat):Int)=(m:Int) then 1 else 0):=by
   unfold uses
   exact if_pos (show 2<o by omega)
  rw [e,eu,uses_post a k m ha,uses_post b (k+sizT a) m hb,hs]
  have c1:(((k+sizT a-1:Nat):Int)=(m:Int))↔k+sizT a-1=m:=by omega
  have c2:(((k+sizT a+sizT b-1:Nat):Int)=(m:Int))↔k+sizT a+sizT b-1=m:=by omega
  simp only [c1,c2]
  (repeat' split) <;> omega
theorem form_post (t:Tre) (h:okT t) (h30:sizT t≤30):formErr (post t 0)=0:=by
 have hl:=post_len t 0
 have hp:=siz_pos t
 refine form_good (by omega) (by omega) (fun j hj=>?_) (fun j hj=>?_)
 ·unfold badN
  have:=post_right t 0 j h (by omega)
  rw [Nat.zero_add] at this
  rw [this]
  rfl
 ·unfold oddN
  rw [usedTo_sum _ _ _ (Nat.le_refl _),List.take_length,uses_post t 0 j h,if_pos (by omega)]
  rfl
/-! how many nodes a tree has -/
def sumN (f:Nat→Nat):Nat→Nat
 | 0=>0
 | n+1=>sumN f n+f n
theorem sum_same {f g:Nat→Nat}:∀ n,(∀ i,i<n→f i=g i)→sumN f n=sumN g n
 | 0,_=>rfl
 | n+1,h=>by rw [sumN,sumN,sum_same n (fun i hi=>h i (by omega)),h n (by omega)]
theorem sum_drop {f:Nat→Nat} {a:Nat}:∀ n,a<n→sumN (fun i=>if i=a then 0 else f i) n+f a=sumN f n
 | 0,h=>by omega
 | n+1,h=>by
  by_cases e:a=n
  ·subst e
   rw [sumN,sumN,if_pos rfl,sum_same a (g:=f) (fun i hi=>if_neg (by omega))]
   omega
  ·rw [sumN,sumN,if_neg (by omega)]
   have:=sum_drop (f:=f) n (by omega:a<n)
   omega
theorem used_none {l:List Nd} (hl:RightL l):∀ k j,k≤l.length→k≤j+1→usedTo l k j=0
 | 0,_,_,_=>rfl
 | k+1,j,hk,hj=>by
  show usedTo l k j+uses (l.getD k noN) j=0
  rw [used_none hl k j (by omega) (by omega)]
  unfold uses
  split
  ·rename_i h
   have:=nd_sides (hl k (by omega)) h
   rw [if_neg (by omega),if_neg (by omega)]
  ·rfl
theorem used_mono (l:List Nd) (j:Nat):∀ k m,k≤m→usedTo l k j≤usedTo l m j:=by
 intro k m h
 induction m with
 | zero=>
  have:k=0:=by omega
  subst this;exact Nat.le_refl _
 | succ m ih =>
  by_cases e:k=m+1
  ·subst e;exact Nat.le_refl _
  ·have:=ih (by omega)
   show _≤usedTo l m j+uses (l.getD m noN) j
   omega
theorem open_sum {l:List Nd} (hl:RightL l) (hu:∀ j,j<l.length-1→usedTo l l.length j=1):∀ k,k≤l.length→sumN (fun i=>if usedTo l k i=0 then sizT (treeOf l i) else 0) k=k
 | 0,_=>rfl
 | k+1,hk=>by
  have ih:=open_sum hl hu k (by omega)
  have hnew:usedTo l (k+1) k=0:=used_none hl (k+1) k hk (Nat.le_refl _)
  have ho:=op_range (hl k (by omega))
  rw [sumN,if_pos hnew]
  by_cases h2:(l.getD k noN).op≤2
  ·have hz:∀ i,uses (l.getD k noN) i=0:=fun i=>by unfold uses;rw [if_neg (by omega)]
   have e:sumN (fun i=>if usedTo l (k+1) i=0 then sizT (treeOf l i) else 0) k=sumN (fun i=>if usedTo l k i=0 then sizT (treeOf l i) else 0) k:=by
    refine sum_same k fun i _=>?_
    have:usedTo l (k+1) i=usedTo l k i:=by
     show usedTo l k i+uses (l.getD k noN) i=_
     rw [hz];rfl
    simp only [this]
   have hs:sizT (treeOf l k)=1:=by
    by_cases h1:(l.getD k noN).op=1
    ·rw [tree_num h1];rfl
    ·rw [tree_ref (by omega)];rfl
   omega
  ·obtain ⟨a1,a2,a3,a4⟩:=nd_sides (hl k (by omega)) (by omega)
   obtain ⟨a,ha⟩:∃ a:Nat,(l.getD k noN).left=a:=⟨(l.getD k noN).left.toNat,by omega⟩
   obtain ⟨c,hc⟩:∃ c:Nat,(l.getD k noN).right=c:=⟨(l.getD k noN).right.toNat,by omega⟩
   have hus:∀ i,usedTo l (k+1) i=usedTo l k i+((if a=i then 1 else 0)+(if c=i then 1 else 0)):=fun i=>by
    show usedTo l k i+uses (l.getD k noN) i=_
    unfold uses
    rw [if_pos (by omega),ha,hc]
    have c1:((a:Int)=(i:Int))↔a=i:=by omega
    have c2:((c:Int)=(i:Int))↔c=i:=by omega
    simp only [c1,c2]
   have hmax:∀ i,i<k→usedTo l (k+1) i≤1:=fun i hi=>by
    have:=used_mono l i (k+1) l.length hk
    have:=hu i (by omega)
    omega
   have hac:a≠c:=fun e=>by
    have h1:=hmax a (by omega)
    rw [hus a,if_pos rfl,if_pos e.symm] at h1
    omega
   have ua:usedTo l k a=0:=by
    have h1:=hmax a (by omega)
    rw [hus a,if_pos rfl] at h1
    omega
   have uc:usedTo l k c=0:=by
    have h1:=hmax c (by omega)
    rw [hus c,if_neg hac,if_pos rfl] at h1
    omega
   have hs:sizT (treeOf l k)=sizT (treeOf l a)+sizT (treeOf l c)+1:=by
    rw [tree_bin hl (by omega) (by omega),ha,hc]
    rfl
   have d1:=sum_drop (f:=fun i=>if usedTo l k i=0 then sizT (treeOf l i) else 0) (a:=a) k (by omega)
   have d2:=sum_drop (f:=fun i=>if i=a then 0 else if usedTo l k i=0 then sizT (treeOf l i) else 0) (a:=c) k (by omega)
   simp only [if_pos ua] at d1
   simp only [if_neg (fun e:c=a=>hac e.symm),if_pos uc] at d2
   have e:sumN (fun i=>if usedTo l (k+1) i=0 then sizT (treeOf l i) else 0) k=sumN (fun i=>if i=c then 0 else if i=a then 0 else if usedTo l k i=0 then sizT (treeOf l i) else 0) k:=by
    refine sum_same k fun i hi=>?_
    rw [hus i]
    by_cases e1:i=c
    ·subst e1
     rw [if_pos rfl,if_pos rfl,if_neg (by omega)]
    ·by_cases e2:i=a
     ·subst e2
      rw [if_neg e1,if_pos rfl,if_pos rfl,if_neg (by omega)]
     ·have e3:usedTo l k i+((if a=i then 1 else 0)+(if c=i then 1 else 0))=usedTo l k i:=by
       have x1:(if a=i then 1 else 0)=0:=if_neg (fun e=>e2 e.symm)
       have x2:(if c=i then 1 else 0)=0:=if_neg (fun e=>e1 e.symm)
       rw [x1,x2];omega
      rw [e3,if_neg e1,if_neg e2]
   omega
theorem sum_last {f:Nat→Nat}:∀ n,(∀ i,i<n→f i=0)→sumN f (n+1)=f n:=by
 intro n h
 rw [sumN,sum_same n (g:=fun _=>0) h]
 have:∀ m,sumN (fun _=>0) m=0:=by
  intro m
  induction m with
  | zero=>rfl
  | succ m ih=>rw [sumN,ih]
 rw [this]
 omega
theorem siz_tree {l:List Nd} (h:formErr l=0):sizT (treeOf l (l.length-1))=l.length:=by
 obtain ⟨h1,h2,h3,h4⟩:=form_right h
 have hs:=open_sum h3 h4 l.length (Nat.le_refl _)
 have hz:=used_last h3 l.length (Nat.le_refl _)
 obtain ⟨n,hn⟩:∃ n,l.length=n+1:=⟨l.length-1,by omega⟩
 rw [hn] at hs hz h4 ⊢
 rw [sum_last n (fun i hi=>by rw [if_neg (by rw [h4 i (by omega)];decide)])] at hs
 simp only [Nat.add_sub_cancel] at hz h4 ⊢
 rw [if_pos hz] at hs
 exact hs
theorem back_print {l:List Nd} (h:formErr l=0) (hs:(printT l).size≤100):prsE (printT l)=0∧prsL (printT l)=post (treeOf l (l.length-1)) 0∧formErr (prsL (printT l))=0∧printT (prsL (printT l))=printT l:=by
 obtain ⟨h1,h2,h3,h4⟩:=form_right h
 have hk:=ok_tree h3 (l.length-1) (by omega)
 have hz:=siz_tree h
 have hp:=print_tree h
 obtain ⟨g1,g2⟩:=gone_tree _ hk
 have hf:=form_post _ hk (by omega)
 have hE:prsE (printT l)=0:=by
  unfold prsE
  rw [if_neg (by omega),hp,if_pos g1,g2]
  exact hf
 have hL:prsL (printT l)=post (treeOf l (l.length-1)) 0:=by
  unfold prsL
  rw [if_pos hE,hp,g2]
 refine ⟨hE,hL,by rw [hL];exact hf,?_⟩
 rw [hL,print_tree hf,tree_post _ hk,hp]
section
variable (N:List ByteArray) (C:List (Int×Int))
def refC (s:ByteArray):Int×Int:=C.getD (whereS N s).toNat noC
def valT:Tre→Int×Int
 | .num n=>ofP n
 | .ref s=>refC N C s
 | .bin o a b=>opP o (valT a) (valT b)
end
def refsT:Tre→List ByteArray
 | .num _=>[]
 | .ref s=>[s]
 | .bin _ a b=>refsT a ++ refsT b
def missT (N:List ByteArray) (t:Tre):Bool:=(refsT t).any fun s=>decide (whereS N s<0)
theorem val_ok (N:List ByteArray) {C:List (Int×Int)} (hC:∀ c∈C,okC c):∀ t:Tre,okC (valT N C t)
 | .num n=>okC_ofP n
 | .ref s=>by
  rw [valT,refC,List.getD_eq_getElem?_getD]
  cases h:C[(whereS N s).toNat]? with
  | none=>exact okC_no
  | some c=>exact hC c (List.mem_of_getElem? h)
 | .bin o a b=>opP_ok o _ _
/-! the names of a tree are those of the nodes -/
theorem refs_down {l:List Nd} (hl:RightL l) (s:ByteArray):∀ i,i<l.length→s∈refsT (treeOf l i)→∃ j,j<l.length∧(l.getD j noN).op=2∧(l.getD j noN).name=s:=by
 intro i
 induction i using Nat.strongRecOn with
 | _ i ih =>
  intro hi hs
  have ho:=op_range (hl i hi)
  by_cases h1:(l.getD i noN).op=1
  ·rw [tree_num h1] at hs;cases hs
  by_cases h2:(l.getD i noN).op=2
  ·rw [tree_ref h2,refsT,List.mem_singleton] at hs
   exact ⟨i,hi,h2,hs.symm⟩
  ·obtain ⟨a1,a2,a3,a4⟩:=nd_sides (hl i hi) (by omega)
   rw [tree_bin hl hi (by omega),refsT,List.mem_append] at hs
   rcases hs with hs | hs
   ·exact ih _ (by omega) (by omega) hs
   ·exact ih _ (by omega) (by omega) hs
theorem used_who {l:List Nd} (j:Nat):∀ k,1≤usedTo l k j→∃ i,i<k∧1≤uses (l.getD i noN) j
 | 0,h=>by cases h
 | k+1,h=>by
  by_cases h1:1≤uses (l.getD k noN) j
  ·exact ⟨k,Nat.lt_succ_self _,h1⟩
  ·have h2:1≤usedTo l k j+uses (l.getD k noN) j:=h
   obtain ⟨i,hi,h3⟩:=used_who (l:=l) j k (by omega)
   exact ⟨i,by omega,h3⟩
theorem refs_up {l:List Nd} (h:formErr l=0) (s:ByteArray):∀ n j,l.length-j=n→j<l.length→s∈refsT (treeOf l j)→s∈refsT (treeOf l (l.length-1)):=by
 obtain ⟨h1,h2,hl,h4⟩:=form_right h
 intro n
 induction n using Nat.strongRecOn with
 | _ n ih =>
  intro j hn hj hs
  by_cases e:j=l.length-1
  ·rw [←e];exact hs
  obtain ⟨i,hi,hu⟩:=used_who (l:=l) j l.length (by rw [h4 j (by omega)];exact Nat.le_refl _)
  unfold uses at hu
  split at hu
  ·rename_i hop
   obtain ⟨a1,a2,a3,a4⟩:=nd_sides (hl i hi) hop
   have hsi:s∈refsT (treeOf l i):=by
    rw [tree_bin hl hi hop,refsT,List.mem_append]
    by_cases e1:(l.getD i noN).left=(j:Int)
    ·left;rw [e1];exact hs
    ·by_cases e2:(l.getD i noN).right=(j:Int)
     ·right;rw [e2];exact hs
     ·rw [if_neg e1,if_neg e2] at hu;omega
   have hij:j<i:=by
    by_cases e1:(l.getD i noN).left=(j:Int)
    ·omega
    ·by_cases e2:(l.getD i noN).right=(j:Int)
     ·omega
     ·rw [if_neg e1,if_neg e2] at hu;omega
   exact ih (l.length-i) (by omega) i rfl hi hsi
  ·omega
theorem refs_mem {l:List Nd} (h:formErr l=0) (s:ByteArray):s∈refsT (treeOf l (l.length-1))↔∃ j,j<l.length∧(l.getD j noN).op=2∧(l.getD j noN).name=s:=by
 obtain ⟨h1,h2,hl,h4⟩:=form_right h
 refine ⟨refs_down hl s _ (by omega),fun ⟨j,hj,h2,h3⟩=>?_⟩
 refine refs_up h s _ j rfl hj ?_
 rw [tree_ref h2,h3,refsT]
 exact List.mem_singleton.2 rfl
def missR (N:List ByteArray) (l:List Nd) (i:Nat):Bool:=decide ((l.getD i noN).op=2) && decide (whereS N (l.getD i noN).name<0)
theorem miss_yes {N:List ByteArray} {l:List Nd} (h:formErr l=0) {i:Nat} (hi:i<l.length) (hm:missR N l i=true):missT N (treeOf l (l.length-1))=true:=by
 simp only [missR,Bool.and_eq_true,decide_eq_true_eq] at hm
 unfold missT
 rw [List.any_eq_true]
 exact ⟨_,(refs_mem h _).2 ⟨i,hi,hm.1,rfl⟩,decide_eq_true hm.2⟩
theorem miss_no {N:List ByteArray} {l:List Nd} (h:formErr l=0) (hm:∀ i,i<l.length→missR N l i=false):missT N (treeOf l (l.length-1))=false:=by
 rw [Bool.eq_false_iff]
 intro e
 unfold missT at e
 rw [List.any_eq_true] at e
 obtain ⟨s,h1,h2⟩:=e
 obtain ⟨j,hj,h3,h4⟩:=(refs_mem h s).1 h1
 have:=hm j hj
 unfold missR at this
 rw [h4,h3] at this
 simp at this h2
 omega
def valE (l:List Nd) (N:List ByteArray) (C:List (Int×Int)):Int:=if formErr l≠0 then formErr l else if ckErr N C≠0 then ckErr N C else if missT N (treeOf l (l.length-1))=true then 5 else 0
def valC (l:List Nd) (N:List ByteArray) (C:List (Int×Int)):Int×Int:=if valE l N C=0 then valT N C (treeOf l (l.length-1)) else noC
def valG (E:ByteArray→Int×Int):Tre→Int×Int
 | .num n=>ofP n
 | .ref s=>E s
 | .bin o a b=>opP o (valG E a) (valG E b)
theorem valG_names (N:List ByteArray) (C:List (Int×Int)) (E:ByteArray→Int×Int):∀ t:Tre,(∀ s∈refsT t,refC N C s=E s)→valT N C t=valG E t
 | .num _,_=>rfl
 | .ref s,h=>h s (by simp [refsT])
 | .bin o a b,h=>by
  rw [valT,valG,valG_names N C E a fun s hs=>h s (by simp [refsT,hs]),valG_names N C E b fun s hs=>h s (by simp [refsT,hs])]
theorem valG_same (E F:ByteArray→Int×Int):∀ t:Tre,(∀ s∈refsT t,E s=F s)→valG E t=valG F t
 | .num _,_=>rfl
 | .ref s,h=>h s (by simp [refsT])
 | .bin o a b,h=>by
  rw [valG,valG,valG_same E F a fun s hs=>h s (by simp [refsT,hs]),valG_same E F b fun s hs=>h s (by simp [refsT,hs])]
def treF (d:Dm) (i:Nat):Tre:=treeOf (prsL (d.mem i).formula) ((prsL (d.mem i).formula).length-1)
def oneV (d:Dm) (at':Int→Int×Int) (i:Nat):Int×Int:=if (d.mem i).formula.size=0 then (partsOf d.mem d.n i).foldl (partStep d.mem at') (0,0) else valG (fun s=>at' (whL d s.data.toList)) (treF d i)
theorem tre_names {d:Dm} {i:Nat} (hp:prsE (d.mem i).formula=0) {s:ByteArray} (hs:s∈refsT (treF d i)):s.data.toList∈nmsOf d i:=by
 unfold treF at hs
 obtain ⟨j,hj,h2,h3⟩:=(refs_mem (form_read hp) s).1 hs
 rw [←h3]
 refine nms_has ?_ h2
 rw [List.getD_eq_getElem?_getD,List.getElem?_eq_getElem hj]
 exact List.getElem_mem hj
theorem mErr_prsE {d:Dm} {i:Nat} (hf:(d.mem i).formula.size≠0) (h:mErr d i=0):prsE (d.mem i).formula=0:=by
 unfold mErr at h
 rw [if_neg hf] at h
 split at h
 ·rename_i h1;exact absurd h h1
 ·rename_i h1;simpa using h1
theorem oneV_same {d:Dm} (hd:(dimErr d).2=0) {i:Nat} (hm:mErr d i=0) {a b:Int→Int×Int} (h:∀ x∈mNd d i,a x=b x):oneV d a i=oneV d b i:=by
 unfold oneV
 by_cases hf:(d.mem i).formula.size=0
 ·rw [if_pos hf,if_pos hf]
  have hall:∀ (P:List Int) (c:Int×Int),(∀ x∈P,x∈partsOf d.mem d.n i)→P.foldl (partStep d.mem a) c=P.foldl (partStep d.mem b) c:=by
   intro P
   induction P with
   | nil=>intro c _;rfl
   | cons x r ih =>
    intro c hP
    have hx:=hP x (by simp)
    rw [List.foldl_cons,List.foldl_cons]
    have e:partStep d.mem a c x=partStep d.mem b c x:=by
     unfold partStep
     by_cases hs:(d.mem x.toNat).sign=0
     ·rw [if_neg (by omega),if_neg (by omega),if_neg (by omega),if_neg (by omega)]
     ·have hn:x∈mNd d i:=by
       rw [←parts_need hf,List.mem_filter]
       exact ⟨hx,by unfold sgB;exact decide_eq_true hs⟩
      rw [h x hn]
    rw [e]
    exact ih _ fun y hy=>hP y (List.mem_cons_of_mem _ hy)
  exact hall _ _ fun x hx=>hx
 ·rw [if_neg hf,if_neg hf]
  refine valG_same _ _ _ fun s hs=>h _ ?_
  exact (need_names hd hf hm _).2 ⟨_,tre_names (mErr_prsE hf hm) hs,rfl⟩
def byTo (D:Nat→Dm) (p:List Int):Nat→Int
 | 0 => -1
 | k+1=>if leafB (D k).mem (D k).n (p.getD k 0).toNat=false∧(byTo D p k<0∨(D (byTo D p k).toNat).solve<(D k).solve) then (k:Int) else byTo D p k
theorem by_in (D:Nat→Dm) (p:List Int) (k:Nat):byTo D p k = -1∨∃ b:Nat,byTo D p k=(b:Int)∧b<k:=by
 induction k with
 | zero=>exact Or.inl rfl
 | succ k ih =>
  unfold byTo
  split
  ·exact Or.inr ⟨k,rfl,by omega⟩
  ·rcases ih with h | ⟨b,h1,h2⟩
   ·exact Or.inl h
   ·exact Or.inr ⟨b,h1,by omega⟩
def rkD (d:Dm) (i:Int):Nat:=(ordTo (ndL d) d.n).idxOf i
theorem ord_all {d:Dm} (h:(rErr d).2=0) {i:Nat} (hi:i<d.n):(i:Int)∈ordTo (ndL d) d.n:=by
 refine Classical.byContradiction fun hn=>?_
 obtain ⟨h1,h2⟩:=ord_in (ndL d) d.n
 rw [ndL_len] at h2
 have:=few d.n ((i:Int) :: ordTo (ndL d) d.n) (List.nodup_cons.2 ⟨hn,h1⟩) fun x hx=>by
  rcases List.mem_cons.1 hx with rfl | hx
  ·omega
  ·exact h2 x hx
 rw [List.length_cons,ord_len (ndL_inn d) (rErr_acyc h) d.n (by rw [ndL_len];exact Nat.le_refl _)] at this
 omega
theorem rk_less {d:Dm} (h:(rErr d).2=0) {i:Nat} (hi:i<d.n) {x:Int} (hx:x∈mNd d i):rkD d x<rkD d i:=by
 obtain ⟨k,hk,e⟩:=List.getElem_of_mem (ord_all h hi)
 have hl:=ord_len (ndL_inn d) (rErr_acyc h) d.n (by rw [ndL_len];exact Nat.le_refl _)
 have hk2:k<(ndL d).length:=by rw [ndL_len];omega
 obtain ⟨m,h1,h2,h3,h4,-⟩:=ord_at (ndL_inn d) (rErr_acyc h) hk2
 rw [ndL_len] at h1 h3 h4
 have hm:m=i:=by
  rw [List.getD_eq_getElem?_getD,List.getElem?_eq_getElem hk,e] at h1
  have:(i:Int)=(m:Int):=by simpa using h1
  omega
 subst hm
 rw [ndL_at hi] at h4
 have hx2:=h4 x hx
 unfold rkD
 have hsp:ordTo (ndL d) d.n=(ordTo (ndL d) d.n).take k ++ (ordTo (ndL d) d.n).drop k:=(List.take_append_drop _ _).symm
 have hkl:((ordTo (ndL d) d.n).take k).length=k:=by rw [List.length_take];omega
 have a1:(ordTo (ndL d) d.n).idxOf x<k:=by
  rw [hsp,List.idxOf_append,if_pos hx2]
  have:=List.idxOf_lt_length_of_mem hx2
  omega
 have a2:k≤(ordTo (ndL d) d.n).idxOf (m:Int):=by
  rw [hsp,List.idxOf_append,if_neg h3]
  omega
 omega
def msrTo (D:Nat→Dm) (p:List Int):Nat→Nat
 | 0=>0
 | k+1=>msrTo D p k+rkD (D k) (p.getD k 0)
theorem getD_set_at {p:List Int} {b:Nat} {x:Int} (h:b<p.length):(p.set b x).getD b 0=x:=by
 simp [List.getD,h]
theorem getD_set_off {p:List Int} {b k:Nat} {x:Int} (h:k≠b):(p.set b x).getD k 0=p.getD k 0:=by
 simp [List.getD,List.getElem?_set_ne (fun e=>h e.symm)]
theorem msr_less {D:Nat→Dm} {p:List Int} {b:Nat} {x:Int} (hb:b<p.length) (hr:rkD (D b) x<rkD (D b) (p.getD b 0)) (k:Nat):(k≤b→msrTo D (p.set b x) k=msrTo D p k)∧(b<k→msrTo D (p.set b x) k<msrTo D p k):=by
 induction k with
 | zero=>exact ⟨fun _=>rfl,fun h=>by omega⟩
 | succ k ih =>
  refine ⟨fun h=>?_,fun h=>?_⟩
  ·rw [msrTo,msrTo,ih.1 (by omega),getD_set_off (by omega)]
  ·rw [msrTo,msrTo]
   by_cases e:k=b
   ·subst e
    rw [ih.1 (Nat.le_refl _),getD_set_at hb]
    omega
   ·have:=ih.2 (by omega)
    rw [getD_set_off e]
    omega
def solF (D:Nat→Dm) (n:Nat) (inp:List Int→Int×Int):Nat→List Int→Int×Int
 | 0,_=>(0,0)
 | f+1,p=>if byTo D p n<0 then inp p else oneV (D (byTo D p n).toNat) (fun x=>solF D n inp f (p.set (byTo D p n).toNat x)) (p.getD (byTo D p n).toNat 0).toNat
def AllR (D:Nat→Dm) (n:Nat):Prop := ∀ i,i<n→(rErr (D i)).2=0
theorem inO_set {D:Nat→Dm} {n:Nat} {p:List Int} (h:InO D n p) {b:Nat} (hb:b<n) {x:Int} (h0:0≤x) (h1:x<((D b).n:Int)):InO D n (p.set b x):=by
 refine ⟨h.right,by rw [List.length_set];exact h.len,fun i hi=>?_,fun i hi=>?_⟩
 ·by_cases e:i=b
  ·subst e
   rw [getD_set_at (by rw [h.len];exact hb)]
   exact h0
  ·rw [getD_set_off e]
   exact h.lo i hi
 ·by_cases e:i=b
  ·subst e
   rw [getD_set_at (by rw [h.len];exact hb)]
   exact h1
  ·rw [getD_set_off e]
   exact h.hi i hi
theorem sol_same {D:Nat→Dm} {n:Nat} (hR:AllR D n) (inp:List Int→Int×Int):∀ (f g:Nat) (p:List Int),InO D n p→msrTo D p n<f→msrTo D p n<g→solF D n inp f p=solF D n inp g p:=by
 intro f
 induction f with
 | zero=>intro g p _ h;omega
 | succ f ih =>
  intro g p hp hf hg
  obtain ⟨g,rfl⟩:∃ g',g=g'+1:=⟨g-1,by omega⟩
  unfold solF
  rcases by_in D p n with h | ⟨b,h1,h2⟩
  ·rw [h,if_pos (by omega),if_pos (by omega)]
  ·rw [h1,if_neg (by omega),if_neg (by omega),Int.toNat_natCast]
   obtain ⟨hd,hm,-,-⟩:=rErr_right (hR b h2)
   obtain ⟨hp0,hp1⟩:0≤p.getD b 0∧p.getD b 0<((D b).n:Int):=⟨hp.lo b h2,hp.hi b h2⟩
   refine oneV_same hd (hm _ (by omega)) fun x hx=>?_
   have hxi:=mNd_in hx
   have hi2:(p.getD b 0).toNat<(D b).n:=by omega
   have hrk:=rk_less (hR b h2) hi2 hx
   rw [Int.toNat_of_nonneg hp0] at hrk
   have hms:=(msr_less (by rw [hp.len];exact h2) hrk n).2 h2
   exact ih g _ (inO_set hp h2 hxi.1 hxi.2) (by omega) (by omega)
def solV (D:Nat→Dm) (n:Nat) (inp:List Int→Int×Int) (p:List Int):Int×Int:=solF D n inp (msrTo D p n+1) p
theorem sol_leaf {D:Nat→Dm} {n:Nat} (inp:List Int→Int×Int) {p:List Int} (h:byTo D p n<0):solV D n inp p=inp p:=by
 unfold solV solF
 rw [if_pos h]
theorem sol_by {D:Nat→Dm} {n:Nat} (hR:AllR D n) (inp:List Int→Int×Int) {p:List Int} (hp:InO D n p) {b:Nat} (hb:byTo D p n=(b:Int)):solV D n inp p=oneV (D b) (fun x=>solV D n inp (p.set b x)) (p.getD b 0).toNat:=by
 have h2:b<n:=by
  rcases by_in D p n with h | ⟨b',h1,h2⟩
  ·omega
  ·omega
 show solF D n inp (msrTo D p n+1) p=_
 unfold solF
 rw [hb,if_neg (by omega),Int.toNat_natCast]
 obtain ⟨hd,hm,-,-⟩:=rErr_right (hR b h2)
 obtain ⟨hp0,hp1⟩:0≤p.getD b 0∧p.getD b 0<((D b).n:Int):=⟨hp.lo b h2,hp.hi b h2⟩
 refine oneV_same hd (hm _ (by omega)) fun x hx=>?_
 have hxi:=mNd_in hx
 have hi2:(p.getD b 0).toNat<(D b).n:=by omega
 have hrk:=rk_less (hR b h2) hi2 hx
 rw [Int.toNat_of_nonneg hp0] at hrk
 have hms:=(msr_less (by rw [hp.len];exact h2) hrk n).2 h2
 exact sol_same hR inp _ _ _ (inO_set hp h2 hxi.1 hxi.2) (by omega) (by omega)
end Go.Proofs.YtglekooldbeklaaGreatDoor
namespace Go.Proofs.YtglekooldbeklaaGreatDoor
open Go.ChangeShapes Go.WideShapes Go.ChangeAt Go.RowKit
set_option maxRecDepth 20000
def twoO (w:World) (u v:Value):World:=(w.alloc (.cells #[u] 24)).alloc (.cells #[v] 24)
theorem twoO_at (w:World) (u v:Value):(twoO w u v).heap[w.heap.size]?=some (.cells #[u] 24 (0,0))∧(twoO w u v).heap[w.heap.size+1]?=some (.cells #[v] 24 (0,0)):=by
 have h1:(w.alloc (.cells #[u] 24)).heap[w.heap.size]?=some (.cells #[u] 24 (0,0)):=heap_alloc_new ..
 have hs:(w.alloc (.cells #[u] 24)).heap.size=w.heap.size+1:=by simp
 refine ⟨(Below.heap_alloc _ _ _ (by omega)).trans h1,?_⟩
 rw [←hs]
 exact heap_alloc_new ..
theorem twoO_below (w:World) (u v:Value):Below w.heap.size w (twoO w u v):=by unfold twoO;go_grown
def twoDs (w:World) (u0 u1 u2 v0 v1 v2:Value):World:=(w.alloc (.cells #[u0,u1,u2] 32)).alloc (.cells #[v0,v1,v2] 32)
theorem twoD_at (w:World) (u0 u1 u2 v0 v1 v2:Value):(twoDs w u0 u1 u2 v0 v1 v2).heap[w.heap.size]?=some (.cells #[u0,u1,u2] 32 (0,0))∧(twoDs w u0 u1 u2 v0 v1 v2).heap[w.heap.size+1]?=some (.cells #[v0,v1,v2] 32 (0,0)):=by
 have h1:(w.alloc (.cells #[u0,u1,u2] 32)).heap[w.heap.size]?=some (.cells #[u0,u1,u2] 32 (0,0)):=heap_alloc_new ..
 have hs:(w.alloc (.cells #[u0,u1,u2] 32)).heap.size=w.heap.size+1:=by simp
 refine ⟨(Below.heap_alloc _ _ _ (by omega)).trans h1,?_⟩
 rw [←hs]
 exact heap_alloc_new ..
theorem twoD_below (w:World) (u0 u1 u2 v0 v1 v2:Value):Below w.heap.size w (twoDs w u0 u1 u2 v0 v1 v2):=by unfold twoDs;go_grown
set_option maxHeartbeats 16000000 in
theorem sameout_any (A0 B0:Option Addr) (ca cb n:Nat) (D:Nat→Dm) (A:Nat→Option Addr) (C:Nat→Nat) (A':Nat→Option Addr) (C':Nat→Nat) (w:World) (hn:n≤4) (hd:∀ i,i<n→(D i).n≤12) (hA:DimsV w A0 ca n D A C) (hB:DimsV w B0 cb n D A' C') :
  Calls Tryz.prog 11 #[.agg #[.slice A0 n ca],.agg #[.slice B0 n cb]] w fun e w'=>e=.returned (.bool true)∧Below w.heap.size w w':=by
 have hB0:=twoO_below w (.slice A0 n ca) (.slice B0 n cb)
 obtain ⟨b1,b2⟩:=twoO_at w (.slice A0 n ca) (.slice B0 n cb)
 obtain ⟨W,hW⟩:∃ W,twoO w (.slice A0 n ca) (.slice B0 n cb)=W:=⟨_,rfl⟩
 rw [hW] at hB0 b1 b2
 unfold twoO at hW
 have l2:=(Array.getElem?_eq_some_iff.1 b2).1
 have HK:Hid (∀ w',Below W.heap.size W w'→w'.cell? ⟨w.heap.size,0,none⟩=some (.slice A0 n ca)∧w'.cell? ⟨w.heap.size+1,0,none⟩=some (.slice B0 n cb)∧w.heap.size+1<w'.heap.size):=fun w' h =>
  ⟨(Lib.cell_of_heap ((h.block _ (by omega)).trans b1) 0).trans rfl,(Lib.cell_of_heap ((h.block _ l2).trans b2) 0).trans rfl,Nat.lt_of_lt_of_le l2 h.size⟩
 have HA:=hid_of (hA.later hB0)
 have HB:=hid_of (hB.later hB0)
 have HD:=hid_of hd
 have HB0:=hid_of hB0
 obtain ⟨k0,k1,k2⟩:=HK.out W (Below.refl _ _)
 have hn4:(n:Int)≤4:=by omega
 have hnn:((n:Int) != (n:Int))=false:=by simp
 have hs0:w.heap.size<W.heap.size:=by omega
 clear hA hB hd hB0 b1 b2
 go_enter Tryz.func11,Tryz.ntmps11
 go_wp2_with fail
 go_loopg [5] n (fun g s5 wr => ∃ k:Nat,k≤n∧g=n-k∧s5=.int .i64 k∧Hid (Below W.heap.size W wr))
 case atStart=>exact ⟨0,Nat.zero_le _,rfl,rfl,hid_of (Below.refl _ _)⟩
 case round =>
  obtain ⟨k,hk,rfl,rfl,HBw⟩:=hrel
  obtain ⟨wo,rfl⟩:∃ wo:World,wo=wr:=⟨_,rfl⟩
  obtain ⟨k0,k1,k2⟩:=HK.out wo HBw.out
  have hs0:w.heap.size<wo.heap.size:=by omega
  by_cases hlt:k<n
  ·have hki:(k:Int)<(n:Int):=by omega
   obtain ⟨-,h0 | ⟨ba,oa,rfl,hDa⟩⟩:=HA.out.later HBw.out
   ·omega
   obtain ⟨-,h0 | ⟨bb,ob,rfl,hDb⟩⟩:=HB.out.later HBw.out
   ·omega
   have hba:=hDa.1
   have hbb:=hDb.1
   obtain ⟨a0,a1,a2,hMa⟩:=hDa.2 k hlt
   obtain ⟨c0,c1,c2,hMb⟩:=hDb.2 k hlt
   have hm12:=HD.out k hlt
   have HMa:=hid_of hMa
   have HMb:=hid_of hMb
   obtain ⟨M,hM⟩:∃ M,(D k).mem=M:=⟨_,rfl⟩
   rw [hM] at HMa HMb
   have hB1:=twoD_below wo (.string (D k).name) (.int .i64 (D k).solve) (.slice (A k) (D k).n (C k)) (.string (D k).name) (.int .i64 (D k).solve) (.slice (A' k) (D k).n (C' k))
   obtain ⟨e1,e2⟩:=twoD_at wo (.string (D k).name) (.int .i64 (D k).solve) (.slice (A k) (D k).n (C k)) (.string (D k).name) (.int .i64 (D k).solve) (.slice (A' k) (D k).n (C' k))
   generalize (D k).name=nm at a0 c0 hB1 e1 e2
   generalize (D k).solve=sv at a1 c1 hB1 e1 e2
   generalize (D k).n=m at a2 c2 hm12 HMa HMb hB1 e1 e2
   generalize A k=Ak at a2 HMa hB1 e1 e2
   generalize C k=Ck at a2 HMa hB1 e1 e2
   generalize A' k=Al at c2 HMb hB1 e1 e2
   generalize C' k=Cl at c2 HMb hB1 e1 e2
   obtain ⟨V,hV⟩:∃ V,twoDs wo (.string nm) (.int .i64 sv) (.slice Ak m Ck) (.string nm) (.int .i64 sv) (.slice Al m Cl)=V:=⟨_,rfl⟩
   rw [hV] at hB1 e1 e2
   unfold twoDs at hV
   have HBV:=hid_of (onB HBw.out hB1)
   have l3:=(Array.getElem?_eq_some_iff.1 e2).1
   have HKV:Hid (∀ w',Below V.heap.size V w'→w'.cell? ⟨wo.heap.size,0,none⟩=some (.string nm)∧w'.cell? ⟨wo.heap.size,1,none⟩=some (.int .i64 sv)∧w'.cell? ⟨wo.heap.size,2,none⟩=some (.slice Ak m Ck)∧w'.cell? ⟨wo.heap.size+1,0,none⟩=some (.string nm)∧w'.cell? ⟨wo.heap.size+1,1,none⟩=some (.int .i64 sv)∧w'.cell? ⟨wo.heap.size+1,2,none⟩=some (.slice Al m Cl)∧wo.heap.size+1<w'.heap.size):=fun w' h=>by
    have f1:=(h.block _ (by omega)).trans e1
    have f2:=(h.block _ l3).trans e2
    exact ⟨(Lib.cell_of_heap f1 0).trans rfl,(Lib.cell_of_heap f1 1).trans rfl,(Lib.cell_of_heap f1 2).trans rfl,(Lib.cell_of_heap f2 0).trans rfl,(Lib.cell_of_heap f2 1).trans rfl,(Lib.cell_of_heap f2 2).trans rfl,Nat.lt_of_lt_of_le l3 h.size⟩
   have HMa':=hid_of (HMa.out.later hB1)
   have HMb':=hid_of (HMb.out.later hB1)
   obtain ⟨v0,v1,v2,v3,v4,v5,v6⟩:=HKV.out V (Below.refl _ _)
   have hsv:(sv != sv)=false:=by simp
   have hmm:((m:Int) != (m:Int))=false:=by simp
   have hmi:(m:Int)≤12:=by omega
   have hv7:wo.heap.size<V.heap.size:=by omega
   clear hM hMa hMb hDa hDb hB1 e1 e2 HMa HMb
   go_wp2_with fail
   go_loopg [8] m (fun g s8 wr => ∃ j:Nat,j≤m∧g=m-j∧s8=.int .i64 j∧Hid (Below V.heap.size V wr))
   case atStart=>exact ⟨0,Nat.zero_le _,rfl,rfl,hid_of (Below.refl _ _)⟩
   case round =>
    obtain ⟨j,hj,rfl,rfl,HBi⟩:=hrel
    obtain ⟨v0,v1,v2,v3,v4,v5,v6⟩:=HKV.out wr HBi.out
    have hv7:wo.heap.size<wr.heap.size:=by omega
    by_cases hjl:j<m
    ·have hji:(j:Int)<(m:Int):=by omega
     obtain ⟨-,h0 | ⟨bm,om,rfl,hMa⟩⟩:=HMa'.out.later HBi.out
     ·omega
     obtain ⟨-,h0 | ⟨bn,on_,rfl,hMb⟩⟩:=HMb'.out.later HBi.out
     ·omega
     obtain ⟨x0,x1,x2,x3⟩:=hMa.2 j hjl
     obtain ⟨y0,y1,y2,y3⟩:=hMb.2 j hjl
     clear hMa hMb
     go_wp2_with fail
     first | (go_quiet (fail);go_wp2_with fail) | skip
     go_roundg (m-(j+1))
     case measure=>omega
     case rel=>exact ⟨j+1,by omega,rfl,by go_num,hid_of (below_drewN HBi.out _)⟩
    ·have hje:j=m:=by omega
     subst hje
     go_wp2_with fail
     go_roundg (n-(k+1))
     case measure=>omega
     case rel=>exact ⟨k+1,by omega,rfl,by go_num,hid_of (onB HBV.out HBi.out)⟩
  ·have hke:k=n:=by omega
   subst hke
   go_wp2_with fail
   go_ret
   exact ⟨rfl,onB HB0.out HBw.out⟩
end Go.Proofs.YtglekooldbeklaaGreatDoor
