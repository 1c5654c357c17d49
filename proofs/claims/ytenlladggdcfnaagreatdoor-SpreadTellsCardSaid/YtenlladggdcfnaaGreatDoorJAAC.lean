/-
  A number on parts by weights: who gets one more is told by the rests alone; sums: plain facts.
-/
import Derived.Test.YtenlladggdcfnaaGreatDoorJAAA
import Derived.Test.YtenlladggdcfnaaGreatDoorJAAB
namespace Go.Proofs.YtenlladggdcfnaaGreatDoor
open Go.Sort
def lkR (n:Int) (W:List Int) (i:Nat):Int:=n*W.getD i 0 % W.sum
def lkQ (n:Int) (W:List Int) (i:Nat):Int:=n*W.getD i 0 / W.sum
def prec (n:Int) (W:List Int) (i j:Nat):Bool:=decide (lkR n W j<lkR n W i∨(lkR n W i=lkR n W j∧i<j))
def PickOk (k:Nat) (pr:Nat→Nat→Bool) (P:Nat→Bool) (t:Nat):Prop:=((List.range k).filter P).length=t∧∀ i j,i<k→j<k→P i=true→P j=false→pr i j=true
def lkO (n:Int) (W:List Int) (P:Nat→Bool):List Int:=(List.range W.length).map fun i=>lkQ n W i+if P i then 1 else 0
def lkL (n:Int) (W:List Int):Int:=n-((List.range W.length).map (lkQ n W)).sum
theorem prec_asym {n:Int} {W:List Int} {i j:Nat} (h:prec n W i j=true):prec n W j i=false:=by
 unfold prec at *
 simp only [decide_eq_true_eq,decide_eq_false_iff_not] at *
 omega
theorem filter_len_lt {k:Nat} {P Q:Nat→Bool} (h:∀ i,i<k→P i=true→Q i=true) {x:Nat} (hx:x<k) (hq:Q x=true) (hp:P x=false):((List.range k).filter P).length<((List.range k).filter Q).length:=by
 have key:∀ l:List Nat,(∀ i∈l,P i=true→Q i=true)→(l.filter P).length≤(l.filter Q).length∧(x∈l→(l.filter P).length<(l.filter Q).length):=by
  intro l
  induction l with
  | nil=>exact fun _=>⟨Nat.le_refl _,fun h=>absurd h (by simp)⟩
  | cons a l ih =>
   intro hl
   obtain ⟨i1,i2⟩:=ih fun i hi=>hl i (List.mem_cons_of_mem _ hi)
   have ha:=hl a (List.mem_cons_self ..)
   refine ⟨?_,fun hm=>?_⟩
   ·cases h1:P a <;> cases h2:Q a <;> simp_all <;> omega
   ·rcases List.mem_cons.1 hm with rfl | hm
    ·simp [hp,hq];omega
    ·have:=i2 hm
     cases h1:P a <;> cases h2:Q a <;> simp_all <;> omega
 exact (key (List.range k) fun i hi=>h i (List.mem_range.1 hi)).2 (List.mem_range.2 hx)
theorem pick_unique {k t:Nat} {pr:Nat→Nat→Bool} (ha:∀ i j,pr i j=true→pr j i=false) {P Q:Nat→Bool} (hP:PickOk k pr P t) (hQ:PickOk k pr Q t):∀ i,i<k→P i=Q i:=by
 have key:∀ {P Q:Nat→Bool},PickOk k pr P t→PickOk k pr Q t→∀ i,i<k→P i=true→Q i=true:=by
  intro P Q hP hQ i hi hp
  cases hq:Q i with
  | true=>rfl
  | false =>
   by_cases hex:∃ j,j<k∧Q j=true∧P j=false
   ·obtain ⟨j,hj,h1,h2⟩:=hex
    have a1:=hP.2 i j hi hj hp h2
    have a2:=hQ.2 j i hj hi h1 hq
    rw [ha i j a1] at a2;cases a2
   ·have:=filter_len_lt (k:=k) (P:=Q) (Q:=P) (fun j hj h=>by
     cases hpj:P j with
     | true=>rfl
     | false=>exact absurd ⟨j,hj,h,hpj⟩ hex) hi hp hq
    rw [hP.1,hQ.1] at this;omega
 intro i hi
 cases hp:P i with
 | true=>exact (key hP hQ i hi hp).symm
 | false =>
  cases hq:Q i with
  | false=>rfl
  | true=>have:=key hQ hP i hi hq;rw [hp] at this;cases this
theorem lkO_unique {n:Int} {W:List Int} {P Q:Nat→Bool} {t:Nat} (hP:PickOk W.length (prec n W) P t) (hQ:PickOk W.length (prec n W) Q t):lkO n W P=lkO n W Q :=
 List.map_congr_left fun i hi=>by rw [pick_unique (fun _ _ h=>prec_asym h) hP hQ i (List.mem_range.1 hi)]
/-! ### sums -/
theorem sum_getD (W:List Int):((List.range W.length).map fun i=>W.getD i 0).sum=W.sum:=by
 have:(List.range W.length).map (fun i=>W.getD i 0)=W:=List.ext_getElem (by simp) fun i h1 h2=>by simp [List.getD_eq_getElem?_getD,List.getElem?_eq_getElem h2]
 rw [this]
theorem sum_add (f g:Nat→Int):∀ l:List Nat,(l.map fun i=>f i+g i).sum=(l.map f).sum+(l.map g).sum
 | []=>by simp
 | a :: l=>by simp only [List.map_cons,List.sum_cons,sum_add f g l];omega
theorem sum_mul (c:Int) (f:Nat→Int):∀ l:List Nat,(l.map fun i=>c*f i).sum=c*(l.map f).sum
 | []=>by simp
 | a :: l=>by simp only [List.map_cons,List.sum_cons,sum_mul c f l,Int.mul_add]
theorem sum_le {f g:Nat→Int}:∀ l:List Nat,(∀ i∈l,f i≤g i)→(l.map f).sum≤(l.map g).sum
 | [],_=>by simp
 | a :: l,h=>by
  have h1:=sum_le l fun i hi=>h i (List.mem_cons_of_mem _ hi)
  have h2:=h a (List.mem_cons_self ..)
  simp only [List.map_cons,List.sum_cons];omega
theorem sum_pick (P:Nat→Bool):∀ l:List Nat,(l.map fun i=>if P i then (1:Int) else 0).sum=((l.filter P).length:Nat)
 | []=>by simp
 | a :: l=>by
  have:=sum_pick P l
  simp only [List.map_cons,List.sum_cons,List.filter_cons,this]
  cases P a <;> simp <;> omega
theorem sum_const (c:Int):∀ l:List Nat,(l.map fun _=>c).sum=(l.length:Int)*c
 | []=>by simp
 | a :: l=>by simp only [List.map_cons,List.sum_cons,sum_const c l,List.length_cons];rw [show ((l.length+1:Nat):Int)=(l.length:Int)+1 by omega,Int.add_mul];omega
theorem lk_rest (n:Int) (W:List Int):W.sum*lkL n W=((List.range W.length).map (lkR n W)).sum:=by
 have h1:((List.range W.length).map fun i=>n*W.getD i 0).sum=n*W.sum:=by rw [sum_mul,sum_getD]
 have h2:((List.range W.length).map fun i=>n*W.getD i 0).sum=W.sum*((List.range W.length).map (lkQ n W)).sum+((List.range W.length).map (lkR n W)).sum:=by
  rw [←sum_mul,←sum_add]
  congr 1
  refine List.map_congr_left fun i _=>?_
  exact (Int.mul_ediv_add_emod (n*W.getD i 0) W.sum).symm
 unfold lkL
 rw [Int.mul_sub]
 have h3:W.sum*n=n*W.sum:=Int.mul_comm _ _
 omega
theorem lkR_pos {n:Int} {W:List Int} (hs:0<W.sum) (i:Nat):0≤lkR n W i∧lkR n W i<W.sum:=⟨Int.emod_nonneg _ (by omega),Int.emod_lt_of_pos _ hs⟩
theorem lkL_ge {n:Int} {W:List Int} (hs:0<W.sum):0≤lkL n W:=by
 have h:=lk_rest n W
 have h2:0≤((List.range W.length).map (lkR n W)).sum:=by
  have:=sum_le (f:=fun _=>0) (g:=lkR n W) (List.range W.length) fun i _=>(lkR_pos hs i).1
  rw [sum_const] at this;omega
 rw [←h] at h2
 exact Int.le_of_mul_le_mul_left (a:=W.sum) (by rw [Int.mul_zero];exact h2) hs
theorem lkL_lt {n:Int} {W:List Int} (hs:0<W.sum) (hk:0<W.length):lkL n W<W.length:=by
 have h:=lk_rest n W
 have h2:((List.range W.length).map (lkR n W)).sum≤(W.length:Int)*(W.sum-1):=by
  have:=sum_le (f:=lkR n W) (g:=fun _=>W.sum-1) (List.range W.length) fun i _=>by have:=(lkR_pos (n:=n) hs i).2;omega
  rw [sum_const,List.length_range] at this;exact this
 refine Int.lt_of_mul_lt_mul_left (a:=W.sum) ?_ (by omega)
 rw [h,Int.mul_comm W.sum]
 rw [Int.mul_sub] at h2
 have:0<(W.length:Int):=by omega
 omega
theorem lkO_sum {n:Int} {W:List Int} {P:Nat→Bool} (hs:0<W.sum) (hP:PickOk W.length (prec n W) P (lkL n W).toNat):(lkO n W P).sum=n:=by
 unfold lkO
 rw [sum_add,sum_pick,hP.1]
 have:=lkL_ge (n:=n) hs
 unfold lkL at *
 omega
theorem pick_rest {n:Int} {W:List Int} {P:Nat→Bool} (hs:0<W.sum) (hP:PickOk W.length (prec n W) P (lkL n W).toNat) {i:Nat} (hi:i<W.length) (hp:P i=true):0<lkR n W i:=by
 have h0:=(lkR_pos (n:=n) hs i).1
 rcases Int.lt_or_eq_of_le h0 with h | h
 ·exact h
 ·exfalso
  have hz:∀ j,j<W.length→lkR n W j≤(if P j then (1:Int) else 0)*(W.sum-1):=fun j hj=>by
   cases hj2:P j with
   | true=>have:=(lkR_pos (n:=n) hs j).2;simp;omega
   | false =>
    have:=hP.2 i j hi hj hp hj2
    unfold prec at this
    simp only [decide_eq_true_eq] at this
    have:=(lkR_pos (n:=n) hs j).1
    simp;omega
  have h1:((List.range W.length).map (lkR n W)).sum≤(((List.range W.length).map fun j=>(if P j then (1:Int) else 0)*(W.sum-1))).sum:=sum_le _ fun j hj=>hz j (List.mem_range.1 hj)
  have h2:(((List.range W.length).map fun j=>(if P j then (1:Int) else 0)*(W.sum-1))).sum=(W.sum-1)*lkL n W:=by
   rw [show (fun j=>(if P j=true then (1:Int) else 0)*(W.sum-1))=fun j=>(W.sum-1)*(if P j=true then (1:Int) else 0) from funext fun j=>Int.mul_comm _ _,sum_mul,sum_pick,hP.1]
   have:=lkL_ge (n:=n) hs
   congr 1;omega
  rw [h2,←lk_rest,Int.sub_mul] at h1
  have h3:0<lkL n W:=by
   have:0<((List.range W.length).filter P).length:=List.length_pos_of_mem (List.mem_filter.2 ⟨List.mem_range.2 hi,hp⟩)
   rw [hP.1] at this;omega
  omega
theorem sum_mem_le:∀ (W:List Int),(∀ x∈W,0≤x)→∀ x∈W,x≤W.sum
 | [],_,x,hx=>absurd hx (by simp)
 | a :: W,h,x,hx=>by
  have hW:0≤W.sum:=by
   have:∀ W:List Int,(∀ x∈W,0≤x)→0≤W.sum:=by
    intro W
    induction W with
    | nil=>simp
    | cons a W ih=>intro h;have:=h a (List.mem_cons_self ..);have:=ih fun x hx=>h x (List.mem_cons_of_mem _ hx);simp only [List.sum_cons];omega
   exact this W fun x hx=>h x (List.mem_cons_of_mem _ hx)
  have ha:=h a (List.mem_cons_self ..)
  rw [List.sum_cons]
  rcases List.mem_cons.1 hx with rfl | hx
  ·omega
  ·have:=sum_mem_le W (fun x hx=>h x (List.mem_cons_of_mem _ hx)) x hx;omega
theorem getD_nonneg {W:List Int} (h:∀ x∈W,0≤x) (i:Nat):0≤W.getD i 0:=by
 rw [List.getD_eq_getElem?_getD]
 cases e:W[i]? with
 | none=>simp
 | some x=>exact h x (List.mem_of_getElem? e)
theorem getD_le {W:List Int} (h:∀ x∈W,0≤x) (hs:0≤W.sum) (i:Nat):W.getD i 0≤W.sum:=by
 rw [List.getD_eq_getElem?_getD]
 cases e:W[i]? with
 | none=>simpa using hs
 | some x=>exact sum_mem_le W h x (List.mem_of_getElem? e)
theorem lkQ_ge {n:Int} {W:List Int} (hn:0≤n) (h:∀ x∈W,0≤x) (hs:0<W.sum) (i:Nat):0≤lkQ n W i:=Int.ediv_nonneg (Int.mul_nonneg hn (getD_nonneg h i)) (by omega)
theorem lkQ_le {n:Int} {W:List Int} (hn:0≤n) (h:∀ x∈W,0≤x) (hs:0<W.sum) (i:Nat):lkQ n W i≤n∧(0<lkR n W i→lkQ n W i<n):=by
 have h1:=Int.mul_ediv_add_emod (n*W.getD i 0) W.sum
 have h2:n*W.getD i 0≤n*W.sum:=Int.mul_le_mul_of_nonneg_left (getD_le h (by omega) i) hn
 have h0:=(lkR_pos (n:=n) hs i).1
 have e:W.sum*n=n*W.sum:=Int.mul_comm _ _
 change W.sum*lkQ n W i+lkR n W i=_ at h1
 refine ⟨Int.le_of_mul_le_mul_left (a:=W.sum) (by omega) hs,fun hr=>Int.lt_of_mul_lt_mul_left (a:=W.sum) (by omega) (by omega)⟩
theorem gNat_mem {O:List Nat} {a:Nat} (h:a<O.length):O.getD a 0∈O:=by
 rw [List.getD_eq_getElem?_getD,List.getElem?_eq_getElem h];exact List.getElem_mem h
theorem mem_gNat {O:List Nat} {x:Nat} (h:x∈O):∃ a,a<O.length∧O.getD a 0=x:=by
 obtain ⟨a,ha,e⟩:=List.getElem_of_mem h
 exact ⟨a,ha,by rw [List.getD_eq_getElem?_getD,List.getElem?_eq_getElem ha];exact e⟩
theorem take_mem_iff {O:List Nat} (hn:O.Nodup) {a t:Nat} (ha:a<O.length):(O.take t).contains (O.getD a 0)=decide (a<t):=by
 have e:O.getD a 0=O[a]:=by rw [List.getD_eq_getElem?_getD,List.getElem?_eq_getElem ha];rfl
 rw [e]
 by_cases h:a<t
 ·rw [decide_eq_true h]
  simp only [List.contains_iff_mem]
  exact List.mem_take_iff_getElem.2 ⟨a,by omega,rfl⟩
 ·rw [decide_eq_false h]
  rw [←Bool.not_eq_true]
  simp only [List.contains_iff_mem]
  intro hm
  obtain ⟨b,hb,eb⟩:=List.mem_take_iff_getElem.1 hm
  have:=(List.getElem_inj (xs:=O) (h₀:=by omega) (h₁:=ha) hn).1 eb
  omega
theorem order_pick {k t:Nat} {pr:Nat→Nat→Bool} {O:List Nat} (hp:O.Perm (List.range k)) (hs:∀ a b,a<b→b<k→pr (O.getD a 0) (O.getD b 0)=true) (ht:t≤k) :
  PickOk k pr (fun i=>(O.take t).contains i) t:=by
 have hl:O.length=k:=by rw [hp.length_eq,List.length_range]
 have hn:O.Nodup:=hp.nodup_iff.2 List.nodup_range
 refine ⟨?_,fun i j hi hj h1 h2=>?_⟩
 ·rw [←(hp.filter _).length_eq]
  have e:O.filter (fun i=>(O.take t).contains i)=O.take t:=by
   conv=>lhs;rw [←List.take_append_drop t O]
   rw [List.filter_append]
   have e1:(O.take t).filter (fun i=>(List.take t (List.take t O ++ List.drop t O)).contains i)=O.take t:=by
    rw [List.take_append_drop]
    exact List.filter_eq_self.2 fun x hx=>by simpa using hx
   have e2:(O.drop t).filter (fun i=>(List.take t (List.take t O ++ List.drop t O)).contains i)=[]:=by
    rw [List.take_append_drop]
    refine List.filter_eq_nil_iff.2 fun x hx=>?_
    obtain ⟨a,ha,e⟩:=List.getElem_of_mem hx
    rw [List.length_drop] at ha
    rw [List.getElem_drop] at e
    have:=take_mem_iff hn (a:=t+a) (t:=t) (by omega)
    rw [List.getD_eq_getElem?_getD,List.getElem?_eq_getElem (by omega)] at this
    simp only [Option.getD_some] at this
    rw [e] at this
    rw [this];simp
   rw [e1,e2,List.append_nil]
  rw [e,List.length_take];omega
 ·obtain ⟨a,ha,rfl⟩:=mem_gNat (hp.mem_iff.2 (List.mem_range.2 hi))
  obtain ⟨b,hb,rfl⟩:=mem_gNat (hp.mem_iff.2 (List.mem_range.2 hj))
  have h1':(O.take t).contains (O.getD a 0)=true:=h1
  have h2':(O.take t).contains (O.getD b 0)=false:=h2
  rw [take_mem_iff hn ha] at h1'
  rw [take_mem_iff hn hb] at h2'
  simp only [decide_eq_true_eq,decide_eq_false_iff_not] at h1' h2'
  exact hs a b (by omega) (by omega)
def incL (n:Int) (W:List Int) (O:List Nat) (j:Nat):List Int:=lkO n W fun i=>(O.take j).contains i
theorem incL_len (n:Int) (W:List Int) (O:List Nat) (j:Nat):(incL n W O j).length=W.length:=by simp [incL,lkO]
theorem incL_zero (n:Int) (W:List Int) (O:List Nat):incL n W O 0=(List.range W.length).map (lkQ n W):=List.map_congr_left fun i _=>by simp
theorem incL_at {n:Int} {W:List Int} {O:List Nat} {j i:Nat} (hi:i<W.length):(incL n W O j).getD i 0=lkQ n W i+if (O.take j).contains i then 1 else 0:=by
 unfold incL lkO
 rw [List.getD_eq_getElem?_getD,List.getElem?_map,List.getElem?_range hi];rfl
theorem incL_step {n:Int} {W:List Int} {O:List Nat} {j:Nat} (hp:O.Perm (List.range W.length)) (hj:j<W.length) :
  O.getD j 0<W.length∧(incL n W O j).set (O.getD j 0) ((incL n W O j).getD (O.getD j 0) 0+1)=incL n W O (j+1):=by
 have hl:O.length=W.length:=by rw [hp.length_eq,List.length_range]
 have hn:O.Nodup:=hp.nodup_iff.2 List.nodup_range
 have hx:O.getD j 0<W.length:=List.mem_range.1 (hp.mem_iff.1 (gNat_mem (by omega)))
 refine ⟨hx,List.ext_getElem (by simp [incL_len]) fun i h1 h2=>?_⟩
 rw [List.length_set,incL_len] at h1
 rw [List.getElem_set]
 have at':∀ j,(h:i<(incL n W O j).length)→(incL n W O j)[i]=lkQ n W i+if (O.take j).contains i then 1 else 0:=fun j h=>by
  have:=incL_at (n:=n) (O:=O) (j:=j) h1
  rw [List.getD_eq_getElem?_getD,List.getElem?_eq_getElem h] at this
  exact this
 rw [at' (j+1) h2]
 obtain ⟨a,ha,e⟩:=mem_gNat (hp.mem_iff.2 (List.mem_range.2 h1))
 by_cases hij:O.getD j 0=i
 ·rw [if_pos hij,incL_at hx,←hij,take_mem_iff hn (by omega),take_mem_iff hn (by omega)]
  simp
 ·rw [if_neg hij,at' j (by rw [incL_len];exact h1),←e,take_mem_iff hn ha,take_mem_iff hn ha]
  have:a≠j:=fun h=>hij (by rw [←h,e])
  congr 1
  have e2:decide (a<j)=decide (a<j+1):=by
   by_cases h:a<j
   ·rw [decide_eq_true h,decide_eq_true (by omega)]
   ·rw [decide_eq_false h,decide_eq_false (by omega)]
  rw [e2]
/-! ### the order as it is asked -/
variable {k:Nat}
theorem order_of {n:Int} {W:List Int} {d:Array (Fin (k+1))} (hk:W.length=k+1) {tot:Fin (k+1)→Fin (k+1)→Bool} (ht:∀ x y,tot x y=prec n W x.val y.val) {d0:Array (Fin (k+1))} (h0:d0.toList.map Fin.val=List.range (k+1))
  (S:SortedIn tot 0 (k+1) d) (P:PermIn 0 (k+1) d0 d) :
  (d.toList.map Fin.val).Perm (List.range W.length)∧∀ a b,a<b→b<W.length→prec n W ((d.toList.map Fin.val).getD a 0) ((d.toList.map Fin.val).getD b 0)=true:=by
 have hs0:d0.size=k+1:=by have:=congrArg List.length h0;simpa using this
 have hs:d.size=k+1:=P.1.trans hs0
 have hp:(d.toList.map Fin.val).Perm (List.range W.length):=by
  have h:=P.2.2
  rw [show d.extract 0 (k+1)=d by simp [hs],show d0.extract 0 (k+1)=d0 by simp [hs0]] at h
  rw [hk,←h0]
  exact h.map _
 refine ⟨hp,fun a b hab hb=>?_⟩
 have hn:(d.toList.map Fin.val).Nodup:=hp.nodup_iff.2 List.nodup_range
 have at':∀ i,i<d.size→(d.toList.map Fin.val).getD i 0=d[i]!.val:=fun i hi=>by
  rw [List.getD_eq_getElem?_getD,List.getElem?_map,getElem!_pos d i hi]
  simp [hi]
 rw [at' a (by omega),at' b (by omega),←ht]
 have h1:=S a b (Nat.zero_le _) hab (by omega)
 have hne:d[a]!.val≠d[b]!.val:=fun h=>by
  rw [←at' a (by omega),←at' b (by omega)] at h
  have hl:(d.toList.map Fin.val).length=d.size:=by simp
  rw [List.getD_eq_getElem?_getD,List.getD_eq_getElem?_getD,List.getElem?_eq_getElem (by omega),List.getElem?_eq_getElem (by omega)] at h
  have:=(List.getElem_inj hn).1 h
  omega
 rw [ht] at h1 ⊢
 unfold prec at *
 simp only [decide_eq_true_eq,decide_eq_false_iff_not] at *
 omega
end Go.Proofs.YtenlladggdcfnaaGreatDoor
namespace Go.Proofs.YtenlladggdcfnaaGreatDoor
structure Nd where
 op:Int
 n:Int
 name:ByteArray
 left:Int
 right:Int
def noN:Nd:=⟨0,0,⟨#[]⟩,0,0⟩
def ndErr (x:Nd) (i:Nat):Int :=
 if x.op<1∨6<x.op then 1
 else if x.op=1 then (if x.n<0∨1000000<x.n then 1 else if x.name.size≠0∨x.left≠0∨x.right≠0 then 3 else 0)
 else if x.op=2 then (if nameErr x.name≠0 then 2 else if x.n≠0∨x.left≠0∨x.right≠0 then 3 else 0)
 else if x.left<0∨(i:Int)≤x.left∨x.right<0∨(i:Int)≤x.right then 1
 else if x.n≠0∨x.name.size≠0 then 3 else 0
def uses (x:Nd) (k:Nat):Nat:=if 2<x.op then (if x.left=(k:Int) then 1 else 0)+(if x.right=(k:Int) then 1 else 0) else 0
def usedTo (l:List Nd):Nat→Nat→Nat
 | 0,_=>0
 | i+1,k=>usedTo l i k+uses (l.getD i noN) k
def badN (l:List Nd) (i:Nat):Bool:=decide (ndErr (l.getD i noN) i≠0)
def oddN (l:List Nd) (i:Nat):Bool:=decide (usedTo l l.length i≠1)
def formErr (l:List Nd):Int :=
 if l.length=0 then 5
 else if 30<l.length then 4
 else if 0≤findFrom (badN l) l.length 0 then ndErr (l.getD (findFrom (badN l) l.length 0).toNat noN) (findFrom (badN l) l.length 0).toNat
 else if 0≤findFrom (oddN l) (l.length-1) 0 then 3 else 0
section
variable {l:List Nd} {i:Nat}
theorem form_none (h:l.length=0):formErr l=5:=by simp [formErr,h]
theorem form_full (h:30<l.length):formErr l=4:=by
 have h1:l.length≠0:=by omega
 rw [formErr,if_neg h1,if_pos h]
theorem form_bad (h:l.length≤30) (hi:i<l.length) (hb:badN l i=true) (ha:∀ j,j<i→badN l j=false):formErr l=ndErr (l.getD i noN) i:=by
 have h1 : ¬ l.length=0:=by omega
 have h2 : ¬ 30<l.length:=by omega
 have h3:findFrom (badN l) l.length 0=(i:Int):=findFrom_at (Nat.zero_le _) (by omega) hb (fun j _ hj=>ha j hj)
 rw [formErr,if_neg h1,if_neg h2,h3,if_pos (by omega)]
 simp
theorem form_odd (h0:l.length≠0) (h:l.length≤30) (hb:∀ j,j<l.length→badN l j=false) (hi:i<l.length-1) (ho:oddN l i=true):formErr l=3:=by
 have h2 : ¬ 30<l.length:=by omega
 have h3:findFrom (badN l) l.length 0 = -1:=findFrom_none (fun j _ hj=>hb j (by omega))
 rw [formErr,if_neg h0,if_neg h2,h3,if_neg (by omega)]
 rcases findFrom_cases (oddN l) (l.length-1) 0 with ⟨_,h5⟩ | ⟨m,e,_⟩
 ·rw [h5 i (Nat.zero_le _) (by omega)] at ho;cases ho
 ·rw [e,if_pos (by omega)]
theorem form_good (h0:l.length≠0) (h:l.length≤30) (hb:∀ j,j<l.length→badN l j=false) (ho:∀ j,j<l.length-1→oddN l j=false):formErr l=0:=by
 have h2 : ¬ 30<l.length:=by omega
 have h3:findFrom (badN l) l.length 0 = -1:=findFrom_none (fun j _ hj=>hb j (by omega))
 have h4:findFrom (oddN l) (l.length-1) 0 = -1:=findFrom_none (fun j _ hj=>ho j (by omega))
 rw [formErr,if_neg h0,if_neg h2,h3,if_neg (by omega),h4,if_neg (by omega)]
theorem form_right (h:formErr l=0):0<l.length∧l.length≤30∧(∀ j,j<l.length→ndErr (l.getD j noN) j=0)∧∀ j,j<l.length-1→usedTo l l.length j=1:=by
 by_cases h0:l.length=0
 ·rw [form_none h0] at h;cases h
 by_cases h1:30<l.length
 ·rw [form_full h1] at h;cases h
 refine ⟨by omega,by omega,?_⟩
 rcases findFrom_cases (badN l) l.length 0 with ⟨_,h5⟩ | ⟨m,_,_,h6,h7,h8⟩
 ·have hb:∀ j,j<l.length→badN l j=false:=fun j hj=>h5 j (Nat.zero_le _) (by omega)
  refine ⟨fun j hj=>by simpa [badN] using hb j hj,fun j hj=>?_⟩
  rcases Bool.eq_false_or_eq_true (oddN l j) with ho | ho
  ·rw [form_odd h0 (by omega) hb hj ho] at h;cases h
  ·simpa [oddN] using ho
 ·rw [form_bad (by omega) (by omega) h7 (fun j hj=>h8 j (Nat.zero_le _) hj)] at h
  exact absurd h (of_decide_eq_true h7)
end
end Go.Proofs.YtenlladggdcfnaaGreatDoor
