/-
  A square in a hall (plain): a number that is written at a leaf makes four dirty, and the whole changes by as much.
-/
import Derived.OneCell
import Derived.Test.YtnegjdcedhnjdaaGreatDoorJDBM
import Derived.Test.YtnegjdcedhnjdaaGreatDoorJDBQ
namespace Go.Proofs.YtnegjdcedhnjdaaGreatDoor
open Go.ChangeShapes Go.WideShapes Go.ChangeAt Go.RowKit
set_option maxRecDepth 20000
theorem roll_set {D:Nat→Dm} {n:Nat} {l:List En} {q:List Int} (p:List Int) (x:Int) (hc:∀ y,cntR D n p ⟨q,y⟩=true):rollN D n p (setL l q x)=rollN D n p l-pwTo D p q n*(getE l q).2+pwTo D p q n*x∧(setL l q x).any (cntR D n p)=true:=by
 have hany:(setL l q x).any (cntR D n p)=true:=by
  unfold setL
  rw [List.any_append,List.any_cons,hc x]
  simp
 refine ⟨?_,hany⟩
 cases hh:hasE l q with
 | false =>
  have h1:=(roll_more hh p x).1 (hc x)
  have h2:rollN D n p (setL l q x)=(rollV D n l p).2+pwTo D p q n*x:=congrArg Prod.snd h1
  have h3:(getE l q).2=0:=by
   unfold getE
   unfold hasE at hh
   cases hd:l.drop (cntE l q) with
   | nil=>rfl
   | cons e r =>
    rw [hd] at hh
    simp only [Bool.not_eq_false'] at hh
    simp only [hh,if_true]
  rw [h2,h3]
  show rollN D n p l+_=_
  omega
 | true =>
  cases hd:l.drop (cntE l q) with
  | nil=>unfold hasE at hh;rw [hd] at hh;cases hh
  | cons e r =>
   have hle:lessL q e.pl=false:=by unfold hasE at hh;rw [hd] at hh;simpa using hh
   have hg:getE l q=(1,e.n):=by unfold getE;rw [hd];simp only [hle];rfl
   have hep:e.pl=q:=by
    have h5:(l.dropWhile fun e=>lessL e.pl q)=e :: r:=by rw [←drop_while];exact hd
    have h6:=List.head?_dropWhile_not (fun e:En=>lessL e.pl q) l
    rw [h5] at h6
    exact lessL_eq (by simpa using h6) hle
   have e1:setL l q x=l.take (cntE l q) ++ ⟨q,x⟩ :: r:=by
    unfold setL
    rw [hh,if_pos rfl,←List.drop_drop,hd]
    rfl
   have e2:l=l.take (cntE l q) ++ e :: r:=by rw [←hd];exact (List.take_append_drop _ _).symm
   have hee:e=⟨q,e.n⟩:=by rw [←hep]
   have hv:∀ y,rollN D n p (⟨q,y⟩ :: r)=rollN D n p r+pwTo D p q n*y:=fun y=>by
    rw [rollN,if_pos (hc y)]
    unfold valR
    exact Int.add_comm _ _
   rw [e1,rollN_append,hv,hg]
   conv=>rhs;rw [e2,rollN_append,hee,hv]
   show rollN D n p (l.take (cntE l q))+(rollN D n p r+pwTo D p q n*x)=rollN D n p (l.take (cntE l q))+(rollN D n p r+pwTo D p q n*e.n)-pwTo D p q n*e.n+pwTo D p q n*x
   generalize pwTo D p q n*x=u
   generalize pwTo D p q n*e.n=v
   omega
end Go.Proofs.YtnegjdcedhnjdaaGreatDoor
namespace Go.Proofs.YtnegjdcedhnjdaaGreatDoor
variable {D:Nat→Dm} {n:Nat}
def sumG (l:List En) (Q:List (List Int)):Int:=(Q.map fun q=>(getE l q).2).sum
def OneIn (D:Nat→Dm) (n:Nat) (p q:List Int):Prop:=InO D n q∧leafV D n q=true∧inTo D p q n=true∧pwTo D p q n=1
theorem OneIn.cnt {p q:List Int} (h:OneIn D n p q) (y:Int):cntR D n p ⟨q,y⟩=true:=by unfold cntR;simp [h.2.2.1,h.2.2.2]
def set0 (l:List En) (Q:List (List Int)):List En:=Q.foldl (fun l q=>setL l q 0) l
theorem set0_all {p:List Int}:∀ (Q:List (List Int)) (l:List En),Q.Nodup→Ens D n l→(∀ q∈Q,OneIn D n p q) →
  Ens D n (set0 l Q)∧rollN D n p (set0 l Q)=rollN D n p l-sumG l Q∧(∀ q∈Q,getE (set0 l Q) q=(1,0))∧∀ q,q∉Q→getE (set0 l Q) q=getE l q
 | [],l,_,hl,_=>⟨hl,by simp [set0,sumG],fun _ h=>(by cases h),fun _ _=>rfl⟩
 | q :: Q,l,hn,hl,h=>by
  obtain ⟨hq,hn'⟩:=List.nodup_cons.1 hn
  have h1:=h q (List.mem_cons_self ..)
  have hl1:Ens D n (setL l q 0):=hl.set h1.1 h1.2.1 (by decide)
  obtain ⟨i1,i2,i3,i4⟩:=set0_all Q (setL l q 0) hn' hl1 fun x hx=>h x (List.mem_cons_of_mem _ hx)
  have hr:=(roll_set (D:=D) (n:=n) (l:=l) (q:=q) p 0 h1.cnt).1
  have hs:sumG (setL l q 0) Q=sumG l Q:=by
   unfold sumG
   congr 1
   refine List.map_congr_left fun x hx=>?_
   rw [hl.else (fun e=>hq (by rw [←e];exact hx))]
  refine ⟨i1,?_,fun x hx=>?_,fun x hx=>?_⟩
  ·show rollN D n p (set0 (setL l q 0) Q)=_
   rw [i2,hr,hs,h1.2.2.2]
   simp only [sumG,List.map_cons,List.sum_cons];omega
  ·show getE (set0 (setL l q 0) Q) x=_
   rcases List.mem_cons.1 hx with rfl | hx
   ·rw [i4 _ hq];exact (hl.there _ 0).1
   ·exact i3 x hx
  ·show getE (set0 (setL l q 0) Q) x=_
   rw [i4 x fun e=>hx (List.mem_cons_of_mem _ e)]
   exact hl.else (fun e=>hx (by rw [e];exact List.mem_cons_self ..)) 0
theorem rollN_zero {p:List Int}:∀ l:List En,(∀ e∈l,cntR D n p e=true→e.n=0)→rollN D n p l=0
 | [],_=>rfl
 | e :: r,h=>by
  rw [rollN,rollN_zero r fun x hx=>h x (List.mem_cons_of_mem _ hx)]
  by_cases hc:cntR D n p e=true
  ·rw [if_pos hc];unfold valR;rw [h e (List.mem_cons_self ..) hc];simp
  ·rw [if_neg hc];rfl
theorem get_there {l:List En} (hl:l.Pairwise fun a b=>lessL a.pl b.pl=true) {q:List Int} (h:(getE l q).1=1):∃ e∈l,e.pl=q:=by
 by_cases hex:∃ e∈l,e.pl=q
 ·exact hex
 ·have:=(get_none hl fun e he hq=>hex ⟨e,he,hq⟩).1
  rw [this] at h;cases h
theorem roll_sum {p:List Int} {Q:List (List Int)} {l:List En} (hn:Q.Nodup) (hl:Ens D n l) (h:∀ q∈Q,OneIn D n p q) (hall:∀ e∈l,cntR D n p e=true→e.pl∈Q):rollN D n p l=sumG l Q:=by
 obtain ⟨i1,i2,i3,i4⟩:=set0_all Q l hn hl h
 have h0:rollN D n p (set0 l Q)=0:=rollN_zero _ fun e he hc=>by
  have hg:=get_mem i1.rise he
  by_cases hq:e.pl∈Q
  ·rw [i3 _ hq] at hg
   have:=congrArg Prod.snd hg
   exact this.symm
  ·rw [i4 _ hq] at hg
   obtain ⟨e',he',hp⟩:=get_there hl.rise (by rw [hg])
   have hc':cntR D n p e'=true:=by unfold cntR at hc ⊢;rw [hp];exact hc
   have:=hall e' he' hc'
   rw [hp] at this
   exact absurd this hq
 omega
theorem lf_nodup {p:List Int} (hR:(allErr D n).2.2=0):(lfTo D p n).Nodup:=by
 rw [←docL_all hR]
 unfold docL
 refine List.Pairwise.filter _ ?_
 rw [List.pairwise_map]
 refine List.Pairwise.imp_of_mem ?_ (List.nodup_range (n:=prodN D n))
 intro a b ha hb hab he
 have h1:=num_place hR (List.mem_range.1 ha)
 have h2:=num_place hR (List.mem_range.1 hb)
 rw [he,h2] at h1
 omega
theorem lf_has {p q:List Int} (hq:InO D n q) (h1:leafV D n q=true) (h2:inTo D p q n=true):q∈lfTo D p n:=by
 rw [←docL_all hq.right]
 unfold docL
 refine List.mem_filter.2 ⟨List.mem_map.2 ⟨(numI D q n).toNat,List.mem_range.2 ?_,place_num hq⟩,by rw [h1,h2];rfl⟩
 have:=numI_bound hq (Nat.le_refl n);omega
theorem lf_one {p:List Int} (hp:InO D n p) (hc:clE D n p=0):∀ q∈lfTo D p n,OneIn D n p q:=fun q hq=>by
 obtain ⟨h1,h2,h3⟩:=lf_in hp.right hq
 refine ⟨h1,h2,h3,?_⟩
 unfold clE at hc
 by_cases j1:lfTo D p n=[]
 ·rw [j1] at hq;cases hq
 ·rw [if_neg j1] at hc
  by_cases j2:clB D n p (lfTo D p n)=true
  ·rw [if_pos j2] at hc;cases hc
  ·by_cases k:pwTo D p q n=1
   ·exact k
   ·exact absurd (List.any_eq_true.2 ⟨q,hq,decide_eq_true k⟩) j2
theorem cl_some {p:List Int} (hc:clE D n p=0):lfTo D p n≠[]∧(lfTo D p n).length≤60:=by
 unfold clE at hc
 by_cases j1:lfTo D p n=[]
 ·rw [if_pos j1] at hc;cases hc
 ·rw [if_neg j1] at hc
  refine ⟨j1,?_⟩
  by_cases j2:clB D n p (lfTo D p n)=true
  ·rw [if_pos j2] at hc;cases hc
  ·rw [if_neg j2] at hc
   by_cases j3:60<(lfTo D p n).length
   ·rw [if_pos j3] at hc;cases hc
   ·omega
def edZ:List (List Int)→List Int→List Ed
 | q :: Q,x :: L=>⟨q,x,false⟩ :: edZ Q L
 | _,_=>[]
theorem edL_zip:∀ (Q:List (List Int)) (L:List Int),L.length=Q.length→edL Q L=edZ Q L
 | [],[],_=>rfl
 | [],_ :: _,h=>(by simp at h)
 | _ :: _,[],h=>(by simp at h)
 | q :: Q,x :: L,h=>by
  have ih:=edL_zip Q L (by simpa using h)
  show _=⟨q,x,false⟩ :: edZ Q L
  rw [←ih]
  unfold edL
  rw [List.length_cons,List.range_succ_eq_map,List.map_cons,List.map_map]
  congr 1
theorem edits_zip:∀ (Q:List (List Int)) (L:List Int) (l:List En) (i:Nat),L.length=Q.length→Q.Nodup→Ens D n l→(∀ q∈Q,InO D n q∧leafV D n q=true)→(∀ x∈L,numOk x=true) →
  ∃ l',editsFrom D n l i (edZ Q L)=(l',0,0)∧Ens D n l'∧(Q.map fun q=>(getE l' q).2)=L∧(∀ q∈Q,(getE l' q).1=1)∧∀ q,q∉Q→getE l' q=getE l q
 | [],[],l,i,_,_,hl,_,_=>⟨l,rfl,hl,rfl,fun _ h=>(by cases h),fun _ _=>rfl⟩
 | [],_ :: _,_,_,h,_,_,_,_=>(by simp at h)
 | _ :: _,[],_,_,h,_,_,_,_=>(by simp at h)
 | q :: Q,x :: L,l,i,h,hn,hl,hQ,hL=>by
  obtain ⟨hq,hn'⟩:=List.nodup_cons.1 hn
  obtain ⟨g1,g2⟩:=hQ q (List.mem_cons_self ..)
  have g3:=hL x (List.mem_cons_self ..)
  have he:editErr D n l ⟨q,x,false⟩=0:=by
   unfold editErr
   have h1:shapeErr D n q=0:=by rw [←pe1 g1.right];exact g1.ok
   rw [if_neg (by simpa using h1),if_neg (by simp),if_neg (by simp [g2]),if_neg (by simp [g3])]
  obtain ⟨l',i1,i2,i3,i4,i5⟩:=edits_zip Q L (setL l q x) (i+1) (by simpa using h) hn' (hl.set g1 g2 g3) (fun y hy=>hQ y (List.mem_cons_of_mem _ hy)) fun y hy=>hL y (List.mem_cons_of_mem _ hy)
  have hqg:getE l' q=(1,x):=by rw [i5 q hq];exact (hl.there q x).1
  refine ⟨l',?_,i2,?_,fun y hy=>?_,fun y hy=>?_⟩
  ·show editsFrom D n l i (⟨q,x,false⟩ :: edZ Q L)=_
   rw [editsFrom_ok _ he]
   exact i1
  ·rw [List.map_cons,hqg,i3]
  ·rcases List.mem_cons.1 hy with rfl | hy
   ·rw [hqg]
   ·exact i4 y hy
  ·rw [i5 y fun e=>hy (List.mem_cons_of_mem _ e)]
   exact hl.else (fun e=>hy (by rw [e];exact List.mem_cons_self ..)) x
/-! ### the parts -/
theorem ev_bound {N m:Int} (h:evE N m=0) (i:Nat):0≤evV N m i∧evV N m i≤N:=by
 have h':0≤N∧N≤1000000∧1≤m∧m≤60:=by
  unfold evE at h
  by_cases k:0≤N∧N≤1000000∧1≤m∧m≤60
  ·exact k
  ·rw [if_neg k] at h;cases h
 have h1:=Int.mul_ediv_add_emod N m
 have h2:=Int.emod_nonneg N (show m≠0 by omega)
 have h3:0≤N / m:=Int.ediv_nonneg h'.1 (by omega)
 have h4:N / m≤m*(N / m):=by
  have:=Int.mul_le_mul_of_nonneg_right (show (1:Int)≤m by omega) h3
  rwa [Int.one_mul] at this
 unfold evV
 split <;> omega
theorem sum_below (r:Int):∀ m:Nat,0≤r→r≤m→((List.range m).map fun i:Nat=>if (i:Int)<r then (1:Int) else 0).sum=r
 | 0,h1,h2=>by simp;omega
 | m+1,h1,h2=>by
  rw [List.range_succ,List.map_append,List.sum_append]
  by_cases h:r≤m
  ·rw [sum_below r m h1 h]
   simp;omega
  ·have e:((List.range m).map fun i:Nat=>if (i:Int)<r then (1:Int) else 0).sum=m:=by
    have:(List.range m).map (fun i:Nat=>if (i:Int)<r then (1:Int) else 0)=(List.range m).map fun _=>(1:Int):=List.map_congr_left fun i hi=>if_pos (by have:=List.mem_range.1 hi;omega)
    rw [this,sum_const];simp
   rw [e]
   simp;omega
theorem ev_sum {N m:Int} (h:evE N m=0):(evO N m).sum=N:=by
 have h':0≤N∧N≤1000000∧1≤m∧m≤60:=by
  unfold evE at h
  by_cases k:0≤N∧N≤1000000∧1≤m∧m≤60
  ·exact k
  ·rw [if_neg k] at h;cases h
 have h1:=Int.mul_ediv_add_emod N m
 have h2:=Int.emod_nonneg N (show m≠0 by omega)
 have h3:=Int.emod_lt_of_pos N (show 0<m by omega)
 unfold evO
 rw [if_pos h]
 show ((List.range m.toNat).map fun i:Nat=>N / m+if (i:Int)<N % m then 1 else 0).sum=N
 rw [sum_add (fun _=>N / m) (fun i:Nat=>if (i:Int)<N % m then 1 else 0),sum_const,sum_below _ _ h2 (by omega),List.length_range]
 have:(m.toNat:Int)=m:=by omega
 rw [this];exact h1
theorem lk_bound {N:Int} {W:List Int} {P:Nat→Bool} (h:lkE N W=0) (hP:PickOk W.length (prec N W) P (lkL N W).toNat):∀ x∈lkO N W P,0≤x∧x≤N:=by
 obtain ⟨h1,h2,h3,h4,h5⟩:=lkE_ok h
 intro x hx
 obtain ⟨i,hi,rfl⟩:=List.mem_map.1 hx
 have hi':=List.mem_range.1 hi
 have a1:=lkQ_ge (n:=N) h1.1 (fun x hx=>(h4 x hx).1) h5 i
 have a2:=lkQ_le (n:=N) h1.1 (fun x hx=>(h4 x hx).1) h5 i
 cases hp:P i with
 | true=>have:=a2.2 (pick_rest h5 hP hi' hp);simp;omega
 | false=>simp;omega
theorem am_ok {N:Int} {W L:List Int} (h:amE N W=0) (hL:AmO N W L):L.sum=N∧(∀ x∈L,0≤x∧x≤N)∧0≤N∧N≤1000000:=by
 unfold amE at h
 unfold AmO at hL
 by_cases e:amT W=true
 ·rw [if_pos e] at h hL
  unfold LkO at hL
  rw [if_pos h] at hL
  obtain ⟨P,hP,rfl⟩:=hL
  obtain ⟨h1,h2,h3,h4,h5⟩:=lkE_ok h
  exact ⟨lkO_sum h5 hP,lk_bound h hP,h1⟩
 ·rw [if_neg e] at h hL
  subst hL
  refine ⟨ev_sum h,fun x hx=>?_,?_⟩
  ·unfold evO at hx
   rw [if_pos h] at hx
   obtain ⟨i,-,rfl⟩:=List.mem_map.1 hx
   exact ev_bound h i
  ·unfold evE at h
   by_cases k:0≤N∧N≤1000000∧1≤(W.length:Int)∧(W.length:Int)≤60
   ·exact ⟨k.1,k.2.1⟩
   ·rw [if_neg k] at h;cases h
theorem toE_parts {l:List En} {p:List Int} {N:Int} (h:toE D n l p N=0):(ruErr D n).2.2=0∧Ens D n l∧InO D n p∧clE D n p=0∧amE N (toW D n l p)=0:=by
 unfold toE at h
 by_cases k1:(ruErr D n).2.2≠0
 ·rw [if_pos k1] at h;exact absurd h k1
 rw [if_neg k1] at h
 by_cases k2:entsErr D n l≠0
 ·rw [if_pos k2] at h;exact absurd h k2
 rw [if_neg k2] at h
 by_cases k3:placeErr D n p≠0
 ·rw [if_pos k3] at h;exact absurd h k3
 rw [if_neg k3] at h
 by_cases k4:clE D n p≠0
 ·rw [if_pos k4] at h;exact absurd h k4
 rw [if_neg k4] at h
 exact ⟨by simpa using k1,ens_of (by simpa using k2),inO_of (by simpa using k3),by simpa using k4,h⟩
theorem to_sum {l:List En} {p:List Int} {N:Int} {x:List Ed} (h:toE D n l p N=0) (hx:ToO D n l p N x):∃ l',editsV D n l x=(l',0,0)∧Ens D n l'∧rollV D n l' p=(1,N)∧0≤N∧N≤1000000:=by
 obtain ⟨h1,h2,h3,h4,h5⟩:=toE_parts h
 unfold ToO at hx
 rw [if_pos h] at hx
 obtain ⟨L,hL,rfl⟩:=hx
 have hlen:L.length=(lfTo D p n).length:=by rw [hL.len h5];simp [toW]
 obtain ⟨s1,s2,s3,s4⟩:=am_ok h5 hL
 obtain ⟨c1,c2⟩:=cl_some h4
 have one:=lf_one h3 h4
 obtain ⟨l',e1,e2,e3,e4,e5⟩:=edits_zip (D:=D) (n:=n) (lfTo D p n) L l 0 hlen (lf_nodup h2.right) h2 (fun q hq=>⟨(one q hq).1,(one q hq).2.1⟩) fun y hy=>by have:=s2 y hy;simp [numOk];omega
 refine ⟨l',?_,e2,?_,s3,s4⟩
 ·unfold editsV
  rw [if_neg (by rw [edL];simp;omega),if_neg (by simpa using h2.ok),edL_zip _ _ hlen]
  exact e1
 ·have hs:=roll_sum (p:=p) (lf_nodup h2.right) e2 one fun e he hc=>by
   obtain ⟨f1,f2,-⟩:=e2.each e he
   have:inTo D p e.pl n=true:=by unfold cntR at hc;simp only [Bool.and_eq_true] at hc;exact hc.1
   exact lf_has f1 f2 this
  have hN:rollN D n p l'=N:=by rw [hs];unfold sumG;rw [e3];exact s1
  unfold rollV
  rw [hN]
  obtain ⟨q,hq⟩:=List.exists_mem_of_ne_nil _ c1
  obtain ⟨e,he,hp⟩:=get_there e2.rise (e4 q hq)
  have hc:cntR D n p e=true:=by
   have:=(one q hq).cnt e.n
   rw [←hp] at this;exact this
  unfold rollK
  rw [if_pos (List.any_eq_true.2 ⟨e,he,hc⟩)]
end Go.Proofs.YtnegjdcedhnjdaaGreatDoor
namespace Go.Proofs.YtnegjdcedhnjdaaGreatDoor
open Go.ChangeShapes Go.WideShapes Go.ChangeAt Go.RowKit
set_option maxRecDepth 20000
theorem cex_cu:cuErr ndmO 1 [⟨[1],7⟩]=0:=by
 unfold cuErr
 rw [ndm_ru,if_neg (by simp)]
 decide +kernel
theorem cex_len:(caL ndmO 1 [⟨[1],7⟩]).length=2:=by rw [caL_len cex_cu,ndm_prod]
theorem cex_at:(caL ndmO 1 [⟨[1],7⟩]).getD 0 noC=(1,7):=by
 rw [caL_at cex_cu (by rw [ndm_prod];omega)]
 decide +kernel
def cexW (w:World):World:=((((w.alloc (.cells #[.string ⟨#[98]⟩,.int .i64 (-1),.int .i64 0,.string ⟨#[]⟩,.string ⟨#[99]⟩,.int .i64 0,.int .i64 1,.string ⟨#[]⟩] 33)).alloc (.cells #[.string ⟨#[97]⟩,.int .i64 0,.slice (some ⟨w.heap.size,0,none⟩) 2 2] 31)).alloc (.cells #[.slice (some ⟨w.heap.size+1,0,none⟩) 1 1] 24)).alloc (.cells #[.int .i64 1] 3)).alloc (.cells #[.slice (some ⟨w.heap.size+3,0,none⟩) 1 1,.int .i64 7] 54)
theorem cexW_below (w:World):Below w.heap.size w (cexW w):=by unfold cexW;go_grown
theorem cexW_dims (w:World):DimsV (cexW w) (some ⟨w.heap.size+1,0,none⟩) 1 1 ndmO (fun _=>some ⟨w.heap.size,0,none⟩) (fun _=>2):=by
 have k0:(cexW w).heap[w.heap.size]?=some (.cells #[.string ⟨#[98]⟩,.int .i64 (-1),.int .i64 0,.string ⟨#[]⟩,.string ⟨#[99]⟩,.int .i64 0,.int .i64 1,.string ⟨#[]⟩] 33 (0,0)):=by unfold cexW;exact eachO (eachO (eachO (eachO (eachN rfl))))
 have k1:(cexW w).heap[w.heap.size+1]?=some (.cells #[.string ⟨#[97]⟩,.int .i64 0,.slice (some ⟨w.heap.size,0,none⟩) 2 2] 31 (0,0)):=by unfold cexW;exact eachO (eachO (eachO (eachN (by simp))))
 refine ⟨Nat.le_refl _,Or.inr ⟨w.heap.size+1,0,rfl,(Array.getElem?_eq_some_iff.1 k1).1,fun i hi=>?_⟩⟩
 have hi0:i=0:=by omega
 subst hi0
 refine ⟨(Lib.cell_of_heap k1 0).trans rfl,(Lib.cell_of_heap k1 1).trans rfl,(Lib.cell_of_heap k1 2).trans rfl,Nat.le_refl _,Or.inr ⟨w.heap.size,0,rfl,(Array.getElem?_eq_some_iff.1 k0).1,fun j hj=>?_⟩⟩
 have hj2:j<2:=hj
 rcases j with _ | _ | j
 ·exact ⟨(Lib.cell_of_heap k0 0).trans rfl,(Lib.cell_of_heap k0 1).trans rfl,(Lib.cell_of_heap k0 2).trans rfl,(Lib.cell_of_heap k0 3).trans rfl⟩
 ·exact ⟨(Lib.cell_of_heap k0 4).trans rfl,(Lib.cell_of_heap k0 5).trans rfl,(Lib.cell_of_heap k0 6).trans rfl,(Lib.cell_of_heap k0 7).trans rfl⟩
 ·omega
def cexX (w:World):List EnL:=[⟨⟨[1],7⟩,some ⟨w.heap.size+3,0,none⟩,1⟩]
theorem cexW_ens (w:World):EnsV (cexW w) (some ⟨w.heap.size+4,0,none⟩) 1 (cexX w):=by
 have k3:IntB (cexW w) (w.heap.size+3) [1]:=by unfold IntB cexW;exact eachO (eachN (by simp))
 have k4:(cexW w).heap[w.heap.size+4]?=some (.cells #[.slice (some ⟨w.heap.size+3,0,none⟩) 1 1,.int .i64 7] 54 (0,0)):=by unfold cexW;exact eachN (by simp)
 refine ⟨Nat.le_refl _,by decide,Or.inr ⟨w.heap.size+4,0,rfl,(Array.getElem?_eq_some_iff.1 k4).1,fun j u hj=>?_,fun x hx=>?_⟩⟩
 ·rw [Nat.zero_add,Lib.cell_of_heap k4,←hj]
  simp [cexX,cellsE]
 ·simp only [cexX,List.mem_cons,List.not_mem_nil,or_false] at hx
  rw [hx]
  exact k3.pl
theorem keepT2 {w1 w':World} {b o:Nat} {u v:Value} (h:b<w1.heap.size∧w1.cell? ⟨b,o,none⟩=some u∧w1.cell? ⟨b,o+1,none⟩=some v) (hB:Below w1.heap.size w1 w'):Below w1.heap.size w1 w'∧w'.cell? ⟨b,o,none⟩=some u∧w'.cell? ⟨b,o+1,none⟩=some v:=⟨hB,(hB.cell (p:=⟨b,o,none⟩) h.1).trans h.2.1,(hB.cell (p:=⟨b,o+1,none⟩) h.1).trans h.2.2⟩
set_option maxHeartbeats 8000000 in
theorem topone_any (w:World):Calls Tryz.prog 4 #[] w fun e w'=>e=.returned (.bool true)∧Below w.heap.size w w':=by
 have hcl:=call_any (some ⟨w.heap.size+1,0,none⟩) 1 1 ndmO (fun _=>some ⟨w.heap.size,0,none⟩) (fun _=>2) (some ⟨w.heap.size+4,0,none⟩) 1 (cexX w) (cexW w) (cexW_dims w) (cexW_ens w)
 have hlp:lE (cexX w)=[⟨[1],7⟩]:=rfl
 have hlx:(cexX w).length=1:=rfl
 rw [hlp,cex_cu,cex_len,errV_zero,hlx] at hcl
 have HCx:Hid (∀ A' c' w',CelV w' A' c' (caL ndmO 1 [⟨[1],7⟩])→∃ b o,A'=some ⟨b,o,none⟩∧2≤c'∧b<w'.heap.size∧w'.cell? ⟨b,o,none⟩=some (.int .i64 1)∧w'.cell? ⟨b,o+1,none⟩=some (.int .i64 7)):=fun A' c' w' h=>by
  obtain ⟨h1,-,h0 | ⟨b,o,h2,h3,h4⟩⟩:=h
  ·have:=cex_len;rw [h0] at this;simp at this
  ·obtain ⟨x0,x1⟩:=h4 0 (by rw [cex_len];omega)
   rw [cex_at] at x0 x1
   rw [cex_len] at h1
   exact ⟨b,o,h2,h1,h3,by simpa using x0,by simpa using x1⟩
 have hBW:=cexW_below w
 have hko:(cexW w).cell? ⟨w.heap.size+2,0,none⟩=some (.slice (some ⟨w.heap.size+1,0,none⟩) 1 1):=by
  have k2:(cexW w).heap[w.heap.size+2]?=some (.cells #[.slice (some ⟨w.heap.size+1,0,none⟩) 1 1] 24 (0,0)):=by unfold cexW;exact eachO (eachO (eachN (by simp)))
  exact (Lib.cell_of_heap k2 0).trans rfl
 obtain ⟨W1,hW1⟩:∃ W1,cexW w=W1:=⟨_,rfl⟩
 rw [hW1] at hcl hBW hko
 unfold cexW at hW1
 rw [show w.heap.size+3=w.heap.size+1+1+1 from rfl] at hW1
 rw [show w.heap.size+4=w.heap.size+1+1+1+1 from rfl] at hcl
 rw [show w.heap.size+2=w.heap.size+1+1 from rfl] at hko
 have HBW:Hid (Below w.heap.size w W1):=hBW
 have hof:=fun w'=>of_any 7 w'
 rw [show ofP 7=(1,7) from rfl] at hof
 have HOF7:Hid (∀ w',Calls Tryz.prog 8 #[.int .i64 7] w' fun e w''=>e=.returned (.agg #[.int .i64 1,.int .i64 7])∧Below w'.heap.size w' w''):=hof
 clear hof hlp hlx hBW
 go_enter Tryz.func4,Tryz.ntmps4
 go_wp2_with fail
 refine hcl.mono ?_
 rintro e w1 ⟨⟨A1,c1,rfl,hC1⟩,hb1⟩
 have HB1:Hid (Below w.heap.size w w1):=onB HBW.out hb1
 obtain ⟨bF,oF,rfl,hcF,hbF,f1,f2⟩:=HCx.out A1 c1 w1 hC1
 have HK:Hid (bF<w1.heap.size∧w1.cell? ⟨bF,oF,none⟩=some (.int .i64 1)∧w1.cell? ⟨bF,oF+1,none⟩=some (.int .i64 7)):=⟨hbF,f1,f2⟩
 clear hcl hb1 hko hW1 hC1 f1 f2 hbF HCx
 go_wp2_with fail
 go_region_held3 (fun w'=>Below w1.heap.size w1 w'∧w'.cell? ⟨bF,oF,none⟩=some (.int .i64 1)∧w'.cell? ⟨bF,oF+1,none⟩=some (.int .i64 7))
  ((refine keepT2 HK.out ?_;go_grown;done))
  (first | (go_at_call 8;refine (HOF7.out _).mono ?_;rintro e w3 ⟨rfl,hb3⟩;have hM3:=onB (W0:=w1) (by go_grown) hb3;have hy3:=hM3.size;clear hb3))
 all_goals go_wp2_with fail
 all_goals go_ret
 all_goals exact ⟨rfl,onB HB1.out (by go_grown)⟩
end Go.Proofs.YtnegjdcedhnjdaaGreatDoor
