/-
  Cells joined by an op; names, and where one of them is; what is wrong with names and cells: plain data.
-/
import Derived.Sort.Walk0
import Derived.Test.YtfngmnhkhfgmjahGreatDoorJBAQ
import Derived.Test.YtfngmnhkhfgmjahGreatDoorJBAR
namespace Go.Proofs.YtfngmnhkhfgmjahGreatDoor
def noS:ByteArray:=⟨#[]⟩
def okC (c:Int×Int):Prop:=good c.1 c.2=true
theorem okC_no:okC noC:=rfl
theorem okC_ofP (n:Int):okC (ofP n):=by
 unfold okC ofP good
 split
 ·rename_i h;simp [h.1,h.2]
 ·simp
theorem okC_quo (x y:Int):okC (quoP x y):=by
 unfold quoP
 split
 ·rfl
 ·exact okC_ofP _
theorem okC_join (b:Bool) (ka kb:Int) {r:Int×Int} (h:okC r):okC (joinP b ka kb r):=by
 unfold joinP
 split
 ·rfl
 ·split
  ·rfl
  ·exact h
def opP (o:Int) (a b:Int×Int):Int×Int:=if o=3 then plusP a.1 a.2 b.1 b.2 else if o=4 then minusP a.1 a.2 b.1 b.2 else if o=5 then timesP a.1 a.2 b.1 b.2 else overP a.1 a.2 b.1 b.2
theorem opP_ok (o:Int) (a b:Int×Int):okC (opP o a b):=by
 unfold opP
 split
 ·exact okC_join _ _ _ (okC_ofP _)
 ·split
  ·exact okC_join _ _ _ (okC_ofP _)
  ·split
   ·exact okC_join _ _ _ (okC_ofP _)
   ·exact okC_join _ _ _ (okC_quo _ _)
def isS (N:List ByteArray) (s:ByteArray) (i:Nat):Bool:=decide (N.getD i noS=s)
def whereS (N:List ByteArray) (s:ByteArray):Int:=findFrom (isS N s) N.length 0
theorem where_cases (N:List ByteArray) (s:ByteArray):(whereS N s = -1∧∀ j,j<N.length→N.getD j noS≠s)∨∃ i:Nat,whereS N s=(i:Int)∧i<N.length∧N.getD i noS=s:=by
 unfold whereS
 rcases findFrom_cases (isS N s) N.length 0 with ⟨h1,h2⟩ | ⟨m,h1,h2,h3,h4,h5⟩
 ·left
  refine ⟨h1,fun j hj=>?_⟩
  have:=h2 j (Nat.zero_le _) (by omega)
  simpa [isS] using this
 ·right
  exact ⟨m,h1,by omega,of_decide_eq_true h4⟩
def downS (N:List ByteArray) (i:Nat):Bool:=Op.bytesLess (N.getD i noS).toList (N.getD (i-1) noS).toList || (N.getD i noS).toList == (N.getD (i-1) noS).toList
def ckErr (N:List ByteArray) (C:List (Int×Int)):Int:=if C.length≠N.length then 3 else if 0≤findFrom (goodB C) C.length 0 then 1 else if 0≤findFrom (downS N) (N.length-1) 1 then 7 else 0
theorem ck_shape {N:List ByteArray} {C:List (Int×Int)} (h:C.length≠N.length):ckErr N C=3:=by unfold ckErr;rw [if_pos h]
theorem ck_cell {N:List ByteArray} {C:List (Int×Int)} (h:C.length=N.length) {i:Nat} (hi:i<C.length) (hb:goodB C i=true):ckErr N C=1:=by
 unfold ckErr
 rw [if_neg (by simpa using h)]
 rcases findFrom_cases (goodB C) C.length 0 with ⟨_,h5⟩ | ⟨m,e,_⟩
 ·rw [h5 i (Nat.zero_le _) (by omega)] at hb;cases hb
 ·rw [e,if_pos (by omega)]
theorem ck_down {N:List ByteArray} {C:List (Int×Int)} (h:C.length=N.length) (hg:∀ j,j<C.length→goodB C j=false) {i:Nat} (h1:1≤i) (hi:i<N.length) (hb:downS N i=true):ckErr N C=7:=by
 unfold ckErr
 rw [if_neg (by simpa using h),findFrom_none (fun j _ hj=>hg j (by omega)),if_neg (by omega)]
 rcases findFrom_cases (downS N) (N.length-1) 1 with ⟨_,h5⟩ | ⟨m,e,_⟩
 ·rw [h5 i h1 (by omega)] at hb;cases hb
 ·rw [e,if_pos (by omega)]
theorem ck_good {N:List ByteArray} {C:List (Int×Int)} (h:C.length=N.length) (hg:∀ j,j<C.length→goodB C j=false) (hd:∀ j,1≤j→j<N.length→downS N j=false):ckErr N C=0:=by
 unfold ckErr
 rw [if_neg (by simpa using h),findFrom_none (fun j _ hj=>hg j (by omega)),if_neg (by omega),findFrom_none (fun j h1 hj=>hd j h1 (by omega)),if_neg (by omega)]
theorem ck_right {N:List ByteArray} {C:List (Int×Int)} (h:ckErr N C=0):C.length=N.length∧(∀ j,j<C.length→goodB C j=false)∧∀ j,1≤j→j<N.length→downS N j=false:=by
 by_cases h1:C.length=N.length
 ·refine ⟨h1,?_⟩
  by_cases h2:∀ j,j<C.length→goodB C j=false
  ·refine ⟨h2,fun j hj1 hj=>?_⟩
   cases hd:downS N j
   ·rfl
   ·rw [ck_down h1 h2 hj1 hj hd] at h;cases h
  ·exfalso
   apply h2
   intro j hj
   cases hd:goodB C j
   ·rfl
   ·rw [ck_cell h1 hj hd] at h;cases h
 ·rw [ck_shape h1] at h;cases h
theorem ck_ok {N:List ByteArray} {C:List (Int×Int)} (h:ckErr N C=0):∀ c∈C,okC c:=by
 intro c hc
 obtain ⟨j,hj,rfl⟩:=List.getElem_of_mem hc
 have:=(ck_right h).2.1 j hj
 unfold goodB at this
 rw [List.getD_eq_getElem?_getD,List.getElem?_eq_getElem hj] at this
 simpa [okC] using this
/-! names that rise -/
theorem down_not {N:List ByteArray} {i:Nat} (h:downS N i=false):(N.getD (i-1) noS).toList<(N.getD i noS).toList:=by
 unfold downS at h
 rw [Bool.or_eq_false_iff,bytesLess_eq] at h
 have h1:=of_decide_eq_false h.1
 have h2:(N.getD i noS).toList≠(N.getD (i-1) noS).toList:=by simpa using h.2
 rcases Std.lt_trichotomy (N.getD i noS).toList (N.getD (i-1) noS).toList with h3 | h3 | h3
 ·exact absurd h3 h1
 ·exact absurd h3 h2
 ·exact h3
theorem rise_all {N:List ByteArray} (h:∀ j,1≤j→j<N.length→downS N j=false):∀ i j,i<j→j<N.length→(N.getD i noS).toList<(N.getD j noS).toList:=by
 intro i j hij
 induction j with
 | zero=>omega
 | succ j ih =>
  intro hj
  have h1:=down_not (h (j+1) (by omega) hj)
  by_cases e:i=j
  ·subst e;exact h1
  ·exact List.lt_trans (ih (by omega) (by omega)) h1
section
variable (N:List ByteArray) (C:List (Int×Int))
def refC (s:ByteArray):Int×Int:=C.getD (whereS N s).toNat noC
def valT:Tre→Int×Int
 | .num n=>ofP n
 | .ref s=>refC N C s
 | .bin o a b=>opP o (valT a) (valT b)
end
def refsT:Tre→List ByteArray
 | .num _=>[]
 | .ref s=>[s]
 | .bin _ a b=>refsT a ++ refsT b
def missT (N:List ByteArray) (t:Tre):Bool:=(refsT t).any fun s=>decide (whereS N s<0)
theorem val_ok (N:List ByteArray) {C:List (Int×Int)} (hC:∀ c∈C,okC c):∀ t:Tre,okC (valT N C t)
 | .num n=>okC_ofP n
 | .ref s=>by
  rw [valT,refC,List.getD_eq_getElem?_getD]
  cases h:C[(whereS N s).toNat]? with
  | none=>exact okC_no
  | some c=>exact hC c (List.mem_of_getElem? h)
 | .bin o a b=>opP_ok o _ _
/-! the names of a tree are those of the nodes -/
theorem refs_down {l:List Nd} (hl:RightL l) (s:ByteArray):∀ i,i<l.length→s∈refsT (treeOf l i)→∃ j,j<l.length∧(l.getD j noN).op=2∧(l.getD j noN).name=s:=by
 intro i
 induction i using Nat.strongRecOn with
 | _ i ih =>
  intro hi hs
  have ho:=op_range (hl i hi)
  by_cases h1:(l.getD i noN).op=1
  ·rw [tree_num h1] at hs;cases hs
  by_cases h2:(l.getD i noN).op=2
  ·rw [tree_ref h2,refsT,List.mem_singleton] at hs
   exact ⟨i,hi,h2,hs.symm⟩
  ·obtain ⟨a1,a2,a3,a4⟩:=nd_sides (hl i hi) (by omega)
   rw [tree_bin hl hi (by omega),refsT,List.mem_append] at hs
   rcases hs with hs | hs
   ·exact ih _ (by omega) (by omega) hs
   ·exact ih _ (by omega) (by omega) hs
theorem used_who {l:List Nd} (j:Nat):∀ k,1≤usedTo l k j→∃ i,i<k∧1≤uses (l.getD i noN) j
 | 0,h=>by cases h
 | k+1,h=>by
  by_cases h1:1≤uses (l.getD k noN) j
  ·exact ⟨k,Nat.lt_succ_self _,h1⟩
  ·have h2:1≤usedTo l k j+uses (l.getD k noN) j:=h
   obtain ⟨i,hi,h3⟩:=used_who (l:=l) j k (by omega)
   exact ⟨i,by omega,h3⟩
theorem refs_up {l:List Nd} (h:formErr l=0) (s:ByteArray):∀ n j,l.length-j=n→j<l.length→s∈refsT (treeOf l j)→s∈refsT (treeOf l (l.length-1)):=by
 obtain ⟨h1,h2,hl,h4⟩:=form_right h
 intro n
 induction n using Nat.strongRecOn with
 | _ n ih =>
  intro j hn hj hs
  by_cases e:j=l.length-1
  ·rw [←e];exact hs
  obtain ⟨i,hi,hu⟩:=used_who (l:=l) j l.length (by rw [h4 j (by omega)];exact Nat.le_refl _)
  unfold uses at hu
  split at hu
  ·rename_i hop
   obtain ⟨a1,a2,a3,a4⟩:=nd_sides (hl i hi) hop
   have hsi:s∈refsT (treeOf l i):=by
    rw [tree_bin hl hi hop,refsT,List.mem_append]
    by_cases e1:(l.getD i noN).left=(j:Int)
    ·left;rw [e1];exact hs
    ·by_cases e2:(l.getD i noN).right=(j:Int)
     ·right;rw [e2];exact hs
     ·rw [if_neg e1,if_neg e2] at hu;omega
   have hij:j<i:=by
    by_cases e1:(l.getD i noN).left=(j:Int)
    ·omega
    ·by_cases e2:(l.getD i noN).right=(j:Int)
     ·omega
     ·rw [if_neg e1,if_neg e2] at hu;omega
   exact ih (l.length-i) (by omega) i rfl hi hsi
  ·omega
theorem refs_mem {l:List Nd} (h:formErr l=0) (s:ByteArray):s∈refsT (treeOf l (l.length-1))↔∃ j,j<l.length∧(l.getD j noN).op=2∧(l.getD j noN).name=s:=by
 obtain ⟨h1,h2,hl,h4⟩:=form_right h
 refine ⟨refs_down hl s _ (by omega),fun ⟨j,hj,h2,h3⟩=>?_⟩
 refine refs_up h s _ j rfl hj ?_
 rw [tree_ref h2,h3,refsT]
 exact List.mem_singleton.2 rfl
def missR (N:List ByteArray) (l:List Nd) (i:Nat):Bool:=decide ((l.getD i noN).op=2) && decide (whereS N (l.getD i noN).name<0)
theorem miss_yes {N:List ByteArray} {l:List Nd} (h:formErr l=0) {i:Nat} (hi:i<l.length) (hm:missR N l i=true):missT N (treeOf l (l.length-1))=true:=by
 simp only [missR,Bool.and_eq_true,decide_eq_true_eq] at hm
 unfold missT
 rw [List.any_eq_true]
 exact ⟨_,(refs_mem h _).2 ⟨i,hi,hm.1,rfl⟩,decide_eq_true hm.2⟩
theorem miss_no {N:List ByteArray} {l:List Nd} (h:formErr l=0) (hm:∀ i,i<l.length→missR N l i=false):missT N (treeOf l (l.length-1))=false:=by
 rw [Bool.eq_false_iff]
 intro e
 unfold missT at e
 rw [List.any_eq_true] at e
 obtain ⟨s,h1,h2⟩:=e
 obtain ⟨j,hj,h3,h4⟩:=(refs_mem h s).1 h1
 have:=hm j hj
 unfold missR at this
 rw [h4,h3] at this
 simp at this h2
 omega
def valE (l:List Nd) (N:List ByteArray) (C:List (Int×Int)):Int:=if formErr l≠0 then formErr l else if ckErr N C≠0 then ckErr N C else if missT N (treeOf l (l.length-1))=true then 5 else 0
def valC (l:List Nd) (N:List ByteArray) (C:List (Int×Int)):Int×Int:=if valE l N C=0 then valT N C (treeOf l (l.length-1)) else noC
def valG (E:ByteArray→Int×Int):Tre→Int×Int
 | .num n=>ofP n
 | .ref s=>E s
 | .bin o a b=>opP o (valG E a) (valG E b)
theorem valG_names (N:List ByteArray) (C:List (Int×Int)) (E:ByteArray→Int×Int):∀ t:Tre,(∀ s∈refsT t,refC N C s=E s)→valT N C t=valG E t
 | .num _,_=>rfl
 | .ref s,h=>h s (by simp [refsT])
 | .bin o a b,h=>by
  rw [valT,valG,valG_names N C E a fun s hs=>h s (by simp [refsT,hs]),valG_names N C E b fun s hs=>h s (by simp [refsT,hs])]
theorem valG_same (E F:ByteArray→Int×Int):∀ t:Tre,(∀ s∈refsT t,E s=F s)→valG E t=valG F t
 | .num _,_=>rfl
 | .ref s,h=>h s (by simp [refsT])
 | .bin o a b,h=>by
  rw [valG,valG,valG_same E F a fun s hs=>h s (by simp [refsT,hs]),valG_same E F b fun s hs=>h s (by simp [refsT,hs])]
def treF (d:Dm) (i:Nat):Tre:=treeOf (prsL (d.mem i).formula) ((prsL (d.mem i).formula).length-1)
def oneV (d:Dm) (at':Int→Int×Int) (i:Nat):Int×Int:=if (d.mem i).formula.size=0 then (partsOf d.mem d.n i).foldl (partStep d.mem at') (0,0) else valG (fun s=>at' (whL d s.data.toList)) (treF d i)
theorem tre_names {d:Dm} {i:Nat} (hp:prsE (d.mem i).formula=0) {s:ByteArray} (hs:s∈refsT (treF d i)):s.data.toList∈nmsOf d i:=by
 unfold treF at hs
 obtain ⟨j,hj,h2,h3⟩:=(refs_mem (form_read hp) s).1 hs
 rw [←h3]
 refine nms_has ?_ h2
 rw [List.getD_eq_getElem?_getD,List.getElem?_eq_getElem hj]
 exact List.getElem_mem hj
theorem mErr_prsE {d:Dm} {i:Nat} (hf:(d.mem i).formula.size≠0) (h:mErr d i=0):prsE (d.mem i).formula=0:=by
 unfold mErr at h
 rw [if_neg hf] at h
 split at h
 ·rename_i h1;exact absurd h h1
 ·rename_i h1;simpa using h1
theorem oneV_same {d:Dm} (hd:(dimErr d).2=0) {i:Nat} (hm:mErr d i=0) {a b:Int→Int×Int} (h:∀ x∈mNd d i,a x=b x):oneV d a i=oneV d b i:=by
 unfold oneV
 by_cases hf:(d.mem i).formula.size=0
 ·rw [if_pos hf,if_pos hf]
  have hall:∀ (P:List Int) (c:Int×Int),(∀ x∈P,x∈partsOf d.mem d.n i)→P.foldl (partStep d.mem a) c=P.foldl (partStep d.mem b) c:=by
   intro P
   induction P with
   | nil=>intro c _;rfl
   | cons x r ih =>
    intro c hP
    have hx:=hP x (by simp)
    rw [List.foldl_cons,List.foldl_cons]
    have e:partStep d.mem a c x=partStep d.mem b c x:=by
     unfold partStep
     by_cases hs:(d.mem x.toNat).sign=0
     ·rw [if_neg (by omega),if_neg (by omega),if_neg (by omega),if_neg (by omega)]
     ·have hn:x∈mNd d i:=by
       rw [←parts_need hf,List.mem_filter]
       exact ⟨hx,by unfold sgB;exact decide_eq_true hs⟩
      rw [h x hn]
    rw [e]
    exact ih _ fun y hy=>hP y (List.mem_cons_of_mem _ hy)
  exact hall _ _ fun x hx=>hx
 ·rw [if_neg hf,if_neg hf]
  refine valG_same _ _ _ fun s hs=>h _ ?_
  exact (need_names hd hf hm _).2 ⟨_,tre_names (mErr_prsE hf hm) hs,rfl⟩
def byTo (D:Nat→Dm) (p:List Int):Nat→Int
 | 0 => -1
 | k+1=>if leafB (D k).mem (D k).n (p.getD k 0).toNat=false∧(byTo D p k<0∨(D (byTo D p k).toNat).solve<(D k).solve) then (k:Int) else byTo D p k
theorem by_in (D:Nat→Dm) (p:List Int) (k:Nat):byTo D p k = -1∨∃ b:Nat,byTo D p k=(b:Int)∧b<k:=by
 induction k with
 | zero=>exact Or.inl rfl
 | succ k ih =>
  unfold byTo
  split
  ·exact Or.inr ⟨k,rfl,by omega⟩
  ·rcases ih with h | ⟨b,h1,h2⟩
   ·exact Or.inl h
   ·exact Or.inr ⟨b,h1,by omega⟩
def rkD (d:Dm) (i:Int):Nat:=(ordTo (ndL d) d.n).idxOf i
theorem ord_all {d:Dm} (h:(rErr d).2=0) {i:Nat} (hi:i<d.n):(i:Int)∈ordTo (ndL d) d.n:=by
 refine Classical.byContradiction fun hn=>?_
 obtain ⟨h1,h2⟩:=ord_in (ndL d) d.n
 rw [ndL_len] at h2
 have:=few d.n ((i:Int) :: ordTo (ndL d) d.n) (List.nodup_cons.2 ⟨hn,h1⟩) fun x hx=>by
  rcases List.mem_cons.1 hx with rfl | hx
  ·omega
  ·exact h2 x hx
 rw [List.length_cons,ord_len (ndL_inn d) (rErr_acyc h) d.n (by rw [ndL_len];exact Nat.le_refl _)] at this
 omega
theorem rk_less {d:Dm} (h:(rErr d).2=0) {i:Nat} (hi:i<d.n) {x:Int} (hx:x∈mNd d i):rkD d x<rkD d i:=by
 obtain ⟨k,hk,e⟩:=List.getElem_of_mem (ord_all h hi)
 have hl:=ord_len (ndL_inn d) (rErr_acyc h) d.n (by rw [ndL_len];exact Nat.le_refl _)
 have hk2:k<(ndL d).length:=by rw [ndL_len];omega
 obtain ⟨m,h1,h2,h3,h4,-⟩:=ord_at (ndL_inn d) (rErr_acyc h) hk2
 rw [ndL_len] at h1 h3 h4
 have hm:m=i:=by
  rw [List.getD_eq_getElem?_getD,List.getElem?_eq_getElem hk,e] at h1
  have:(i:Int)=(m:Int):=by simpa using h1
  omega
 subst hm
 rw [ndL_at hi] at h4
 have hx2:=h4 x hx
 unfold rkD
 have hsp:ordTo (ndL d) d.n=(ordTo (ndL d) d.n).take k ++ (ordTo (ndL d) d.n).drop k:=(List.take_append_drop _ _).symm
 have hkl:((ordTo (ndL d) d.n).take k).length=k:=by rw [List.length_take];omega
 have a1:(ordTo (ndL d) d.n).idxOf x<k:=by
  rw [hsp,List.idxOf_append,if_pos hx2]
  have:=List.idxOf_lt_length_of_mem hx2
  omega
 have a2:k≤(ordTo (ndL d) d.n).idxOf (m:Int):=by
  rw [hsp,List.idxOf_append,if_neg h3]
  omega
 omega
def msrTo (D:Nat→Dm) (p:List Int):Nat→Nat
 | 0=>0
 | k+1=>msrTo D p k+rkD (D k) (p.getD k 0)
theorem getD_set_at {p:List Int} {b:Nat} {x:Int} (h:b<p.length):(p.set b x).getD b 0=x:=by
 simp [List.getD,h]
theorem getD_set_off {p:List Int} {b k:Nat} {x:Int} (h:k≠b):(p.set b x).getD k 0=p.getD k 0:=by
 simp [List.getD,List.getElem?_set_ne (fun e=>h e.symm)]
theorem msr_less {D:Nat→Dm} {p:List Int} {b:Nat} {x:Int} (hb:b<p.length) (hr:rkD (D b) x<rkD (D b) (p.getD b 0)) (k:Nat):(k≤b→msrTo D (p.set b x) k=msrTo D p k)∧(b<k→msrTo D (p.set b x) k<msrTo D p k):=by
 induction k with
 | zero=>exact ⟨fun _=>rfl,fun h=>by omega⟩
 | succ k ih =>
  refine ⟨fun h=>?_,fun h=>?_⟩
  ·rw [msrTo,msrTo,ih.1 (by omega),getD_set_off (by omega)]
  ·rw [msrTo,msrTo]
   by_cases e:k=b
   ·subst e
    rw [ih.1 (Nat.le_refl _),getD_set_at hb]
    omega
   ·have:=ih.2 (by omega)
    rw [getD_set_off e]
    omega
def solF (D:Nat→Dm) (n:Nat) (inp:List Int→Int×Int):Nat→List Int→Int×Int
 | 0,_=>(0,0)
 | f+1,p=>if byTo D p n<0 then inp p else oneV (D (byTo D p n).toNat) (fun x=>solF D n inp f (p.set (byTo D p n).toNat x)) (p.getD (byTo D p n).toNat 0).toNat
def AllR (D:Nat→Dm) (n:Nat):Prop := ∀ i,i<n→(rErr (D i)).2=0
theorem inO_set {D:Nat→Dm} {n:Nat} {p:List Int} (h:InO D n p) {b:Nat} (hb:b<n) {x:Int} (h0:0≤x) (h1:x<((D b).n:Int)):InO D n (p.set b x):=by
 refine ⟨h.right,by rw [List.length_set];exact h.len,fun i hi=>?_,fun i hi=>?_⟩
 ·by_cases e:i=b
  ·subst e
   rw [getD_set_at (by rw [h.len];exact hb)]
   exact h0
  ·rw [getD_set_off e]
   exact h.lo i hi
 ·by_cases e:i=b
  ·subst e
   rw [getD_set_at (by rw [h.len];exact hb)]
   exact h1
  ·rw [getD_set_off e]
   exact h.hi i hi
theorem sol_same {D:Nat→Dm} {n:Nat} (hR:AllR D n) (inp:List Int→Int×Int):∀ (f g:Nat) (p:List Int),InO D n p→msrTo D p n<f→msrTo D p n<g→solF D n inp f p=solF D n inp g p:=by
 intro f
 induction f with
 | zero=>intro g p _ h;omega
 | succ f ih =>
  intro g p hp hf hg
  obtain ⟨g,rfl⟩:∃ g',g=g'+1:=⟨g-1,by omega⟩
  unfold solF
  rcases by_in D p n with h | ⟨b,h1,h2⟩
  ·rw [h,if_pos (by omega),if_pos (by omega)]
  ·rw [h1,if_neg (by omega),if_neg (by omega),Int.toNat_natCast]
   obtain ⟨hd,hm,-,-⟩:=rErr_right (hR b h2)
   obtain ⟨hp0,hp1⟩:0≤p.getD b 0∧p.getD b 0<((D b).n:Int):=⟨hp.lo b h2,hp.hi b h2⟩
   refine oneV_same hd (hm _ (by omega)) fun x hx=>?_
   have hxi:=mNd_in hx
   have hi2:(p.getD b 0).toNat<(D b).n:=by omega
   have hrk:=rk_less (hR b h2) hi2 hx
   rw [Int.toNat_of_nonneg hp0] at hrk
   have hms:=(msr_less (by rw [hp.len];exact h2) hrk n).2 h2
   exact ih g _ (inO_set hp h2 hxi.1 hxi.2) (by omega) (by omega)
def solV (D:Nat→Dm) (n:Nat) (inp:List Int→Int×Int) (p:List Int):Int×Int:=solF D n inp (msrTo D p n+1) p
theorem sol_leaf {D:Nat→Dm} {n:Nat} (inp:List Int→Int×Int) {p:List Int} (h:byTo D p n<0):solV D n inp p=inp p:=by
 unfold solV solF
 rw [if_pos h]
theorem sol_by {D:Nat→Dm} {n:Nat} (hR:AllR D n) (inp:List Int→Int×Int) {p:List Int} (hp:InO D n p) {b:Nat} (hb:byTo D p n=(b:Int)):solV D n inp p=oneV (D b) (fun x=>solV D n inp (p.set b x)) (p.getD b 0).toNat:=by
 have h2:b<n:=by
  rcases by_in D p n with h | ⟨b',h1,h2⟩
  ·omega
  ·omega
 show solF D n inp (msrTo D p n+1) p=_
 unfold solF
 rw [hb,if_neg (by omega),Int.toNat_natCast]
 obtain ⟨hd,hm,-,-⟩:=rErr_right (hR b h2)
 obtain ⟨hp0,hp1⟩:0≤p.getD b 0∧p.getD b 0<((D b).n:Int):=⟨hp.lo b h2,hp.hi b h2⟩
 refine oneV_same hd (hm _ (by omega)) fun x hx=>?_
 have hxi:=mNd_in hx
 have hi2:(p.getD b 0).toNat<(D b).n:=by omega
 have hrk:=rk_less (hR b h2) hi2 hx
 rw [Int.toNat_of_nonneg hp0] at hrk
 have hms:=(msr_less (by rw [hp.len];exact h2) hrk n).2 h2
 exact sol_same hR inp _ _ _ (inO_set hp h2 hxi.1 hxi.2) (by omega) (by omega)
end Go.Proofs.YtfngmnhkhfgmjahGreatDoor
namespace Go.Proofs.YtfngmnhkhfgmjahGreatDoor
open Go.ChangeShapes Go.WideShapes Go.ChangeAt Go.RowKit Go.Lib
set_option maxRecDepth 20000
def ownEd (w:World) (A:Option Addr) (m c:Nat) (N:Int) (cl:Bool):World:=w.alloc (.cells #[.slice A m c,.int .i64 N,.bool cl] 37)
theorem ownEd_below (w:World) (A:Option Addr) (m c:Nat) (N:Int) (cl:Bool):Below w.heap.size w (ownEd w A m c N cl):=by unfold ownEd;go_grown
def ownOX (w:World) (A0:Option Addr) (n cap:Nat) (A:Option Addr) (m c:Nat) (N:Int) (cl:Bool):World:=ownEd (ownOut w A0 n cap 30) A m c N cl
theorem ownOX_below (w:World) (A0:Option Addr) (n cap:Nat) (A:Option Addr) (m c:Nat) (N:Int) (cl:Bool):Below w.heap.size w (ownOX w A0 n cap A m c N cl):=onB (ownOut_below ..) (ownEd_below ..)
set_option maxHeartbeats 4000000 in
theorem iedit_any {M:Nat} (A0:Option Addr) (cap n:Nat) (D:Nat→Dm) (A:Nat→Option Addr) (C:Nat→Nat) (g cg:Nat) (xs:List EnL) (Ax:Option Addr) (cx:Nat) (x:Ed) (w:World) (hM:DimsV w A0 cap n D A C) (hP:PlAt w Ax cx x.pl) (hR:RowE w g cg xs) (hEs:Ens D n (lE xs)) (hMx:NewE M xs) (hMw:M≤w.heap.size) :
  Calls Tryz.prog 58 #[.agg #[.slice A0 n cap],.slice (some ⟨g,0,none⟩) xs.length cg,.agg #[.slice Ax x.pl.length cx,.int .i64 x.n,.bool x.clear]] w fun e w'=>Edited M w g (editErr D n (lE xs) x) (editV (lE xs) x) e w':=by
 obtain ⟨p,N,cl⟩:=x
 have hB0:=ownOX_below w A0 n cap Ax p.length cx N cl
 have HB0:Hid (Below w.heap.size w (ownOX w A0 n cap Ax p.length cx N cl)):=hB0
 cases cl
 ·have h:=iset1_any A0 cap n D A C g cg xs Ax cx p N (ownOX w A0 n cap Ax p.length cx N false) (hM.later hB0) (hP.later hB0) (hR.later hB0) hEs hMx (Nat.le_trans hMw hB0.size)
  have hv:editV (lE xs) ⟨p,N,false⟩=setL (lE xs) p N:=rfl
  rw [hv]
  generalize editErr D n (lE xs) ⟨p,N,false⟩=E at h
  generalize setL (lE xs) p N=l at h
  simp only
  generalize p.length=m at h HB0
  generalize xs.length=nx at h
  clear hM hP hR hEs hB0 hv
  go_enter Tryz.func58,Tryz.ntmps58
  go_wp2_with fail
  refine h.mono ?_
  rintro e w1 ⟨⟨B,c,ys,rfl,hc⟩,hg⟩
  have HC:Hid ((E≠0∧B=none∧c=0∧ys=[])∨(E=0∧∃ g',B=some ⟨g',0,none⟩∧g≤g'∧RowE w1 g' c ys∧lE ys=l∧NewE M ys)):=hc
  have HG:Hid (w.grownBy w1 (some g)):=grown_trans (grown_below HB0.out) hg
  clear hc hg
  go_wp2_with fail
  go_ret2
  exact ⟨⟨B,c,ys,rfl,HC.out⟩,HG.out⟩
 ·have h:=without_any A0 cap n D A C g cg xs Ax cx p N (ownOX w A0 n cap Ax p.length cx N true) (hM.later hB0) (hP.later hB0) (hR.later hB0) hEs hMx
  have hv:editV (lE xs) ⟨p,N,true⟩=clrL (lE xs) p:=rfl
  rw [hv]
  generalize editErr D n (lE xs) ⟨p,N,true⟩=E at h
  generalize clrL (lE xs) p=l at h
  simp only
  generalize p.length=m at h HB0
  generalize xs.length=nx at h
  clear hM hP hR hEs hB0 hv
  go_enter Tryz.func58,Tryz.ntmps58
  go_wp2_with fail
  refine h.mono ?_
  rintro e w1 ⟨⟨B,c,ys,rfl,hc⟩,hg⟩
  have HC:Hid ((E≠0∧B=none∧c=0∧ys=[])∨(E=0∧∃ g',B=some ⟨g',0,none⟩∧g≤g'∧RowE w1 g' c ys∧lE ys=l∧NewE M ys)):=hc
  have HG:Hid (w.grownBy w1 (some g)):=grown_trans (grown_below HB0.out) hg
  clear hc hg
  go_wp2_with fail
  go_ret2
  exact ⟨⟨B,c,ys,rfl,HC.out⟩,HG.out⟩
theorem drop_ed (ys:List EdL) {k:Nat} (h:k<ys.length):(lD ys).drop k=(ys.getD k noD).x :: (lD ys).drop (k+1):=by
 have h1:k<(lD ys).length:=by rw [lD_len];exact h
 rw [List.drop_eq_getElem_cons h1]
 congr 1
 simp [lD,List.getD,h]
theorem edits_on {D:Nat→Dm} {n:Nat} {l:List En} {ys:List EdL} {k:Nat} (h:k<ys.length) (he:editErr D n l (ys.getD k noD).x=0):editsFrom D n l k ((lD ys).drop k)=editsFrom D n (editV l (ys.getD k noD).x) (k+1) ((lD ys).drop (k+1)):=by rw [drop_ed ys h,editsFrom_ok _ he]
theorem edits_bad {D:Nat→Dm} {n:Nat} {l:List En} {ys:List EdL} {k:Nat} (h:k<ys.length) (he:editErr D n l (ys.getD k noD).x≠0):editsFrom D n l k ((lD ys).drop k)=([],(k:Int),editErr D n l (ys.getD k noD).x):=by rw [drop_ed ys h,editsFrom_bad _ he]
theorem edits_end {D:Nat→Dm} {n:Nat} {l:List En} {ys:List EdL} {k:Nat} (h:ys.length≤k):editsFrom D n l k ((lD ys).drop k)=(l,0,0):=by rw [List.drop_eq_nil_of_le (by rw [lD_len];exact h)];rfl
theorem editsV_full {D:Nat→Dm} {n:Nat} (l:List En) {ys:List EdL} (h:60<ys.length):editsV D n l (lD ys)=([],0,4):=by unfold editsV;rw [if_pos (by rw [lD_len];exact h)]
theorem editsV_bad {D:Nat→Dm} {n:Nat} {l:List En} {ys:List EdL} (h : ¬ 60<ys.length) (he:entsErr D n l≠0):editsV D n l (lD ys)=([],0,entsErr D n l):=by unfold editsV;rw [if_neg (by rw [lD_len];exact h),if_pos he]
theorem editsV_in {D:Nat→Dm} {n:Nat} {l:List En} {ys:List EdL} (h : ¬ 60<ys.length) (he:entsErr D n l=0):editsV D n l (lD ys)=editsFrom D n l 0 ((lD ys).drop 0):=by unfold editsV;rw [if_neg (by rw [lD_len];exact h),if_neg (by simpa using he)];rfl
def Answer3n (w:World) (v:List En×Int×Int) (e:Ending) (w':World):Prop:=(∃ B c zs,e=.returned (.tuple #[.slice B zs.length c,.int .i64 v.2.1,errV v.2.2])∧EnsV w' B c zs∧lE zs=v.1∧NewA w.heap.size B∧NewE w.heap.size zs)∧Below w.heap.size w w'
set_option maxHeartbeats 8000000 in
theorem iall_new (A0:Option Addr) (cap n:Nat) (D:Nat→Dm) (A:Nat→Option Addr) (C:Nat→Nat) (AE:Option Addr) (ce:Nat) (xs:List EnL) (AX:Option Addr) (cx:Nat) (ys:List EdL) (w:World) (hM:DimsV w A0 cap n D A C) (hE:EnsV w AE ce xs) (hX:EdsV w AX cx ys) :
  Calls Tryz.prog 30 #[.agg #[.slice A0 n cap],.slice AE xs.length ce,.slice AX ys.length cx] w fun e w'=>Answer3n w (editsV D n (lE xs) (lD ys)) e w':=by
 have hB0:=ownOut_below w A0 n cap 30
 have HB0:Hid (Below w.heap.size w (ownOut w A0 n cap 30)):=hB0
 unfold Answer3n
 by_cases h60:60<ys.length
 ·have HV:Hid (editsV D n (lE xs) (lD ys)=([],0,4)):=editsV_full _ h60
  have h60':60<(ys.length:Int):=by omega
  generalize editsV D n (lE xs) (lD ys)=V at HV
  generalize xs.length=nx
  generalize ys.length=ny at h60 h60'
  clear hM hE hX hB0
  go_enter Tryz.func30,Tryz.ntmps30
  go_wp2_with fail
  go_ret3
  rw [HV.out]
  exact ⟨⟨none,0,[],rfl,EnsV.nil _ _ _ (by decide),rfl,NewA.none _,fun _ h=>(by cases h)⟩,HB0.out⟩
 have h:=icheck_any A0 cap n D A C AE ce xs (ownOut w A0 n cap 30) (hM.later hB0) (hE.later hB0)
 have h60':(ys.length:Int)≤60:=by omega
 by_cases he:entsErr D n (lE xs)=0
 ·have hEs:=ens_of he
  have HV:Hid (editsV D n (lE xs) (lD ys)=editsFrom D n (lE xs) 0 ((lD ys).drop 0)):=editsV_in h60 he
  have HFr:Hid (∀ w',Below w.heap.size w w'→Calls Tryz.prog 43 #[.slice AE xs.length ce] w' fun e w'' => ∃ g zs,e=.returned (.slice (some ⟨g,0,none⟩) xs.length xs.length)∧w'.heap.size≤g∧RowE w'' g xs.length zs∧zs.length=xs.length∧lE zs=lE xs∧NewE w'.heap.size zs∧Below w'.heap.size w' w''):=fun w' hw'=>by
   refine (fresh_new AE ce xs w' (few_of hEs) (fresh_of hEs) (hE.later hw')).mono ?_
   rintro e w'' ⟨⟨zs,rfl,hRow,hle,hnw⟩,hb⟩
   exact ⟨w'.heap.size,zs,rfl,Nat.le_refl _,hRow,len_eq hle,hle,hnw,hb⟩
  have HM:Hid (DimsV w A0 cap n D A C):=hM
  have HX:Hid (EdsV w AX cx ys):=hX
  have HEs:Hid (Ens D n (lE xs)):=hEs
  rw [he,errV_zero] at h
  generalize editsV D n (lE xs) (lD ys)=V at HV
  obtain ⟨ny,hny⟩:∃ ny,ys.length=ny:=⟨_,rfl⟩
  obtain ⟨nx,hnx⟩:∃ nx,xs.length=nx:=⟨_,rfl⟩
  have HNY:Hid (ys.length=ny):=hny
  rw [hny] at h60' ⊢
  rw [hnx] at h HFr ⊢
  clear he hEs hM hE hX hB0 h60 hny hnx
  go_enter Tryz.func30,Tryz.ntmps30
  go_wp2_with fail
  refine h.mono ?_
  rintro e w1 ⟨rfl,hb1⟩
  have hB1:Below w.heap.size w w1:=onB HB0.out hb1
  have HB1:Hid (Below w.heap.size w w1):=hB1
  have c1:w1.cell? ⟨w.heap.size,0,none⟩=some (.slice A0 n cap):=(hb1.cell (p:=⟨w.heap.size,0,none⟩) (by show w.heap.size<_;rw [ownOut_size];omega)).trans (ownOut_at ..)
  have hz1:w.heap.size<w1.heap.size:=by have:=hb1.size;rw [ownOut_size] at this;omega
  have h2:=HFr.out w1 hB1
  have HM1:Hid (DimsV w1 A0 cap n D A C):=HM.out.later hB1
  have HX1:Hid (EdsV w1 AX cx ys):=HX.out.later hB1
  clear hb1 h hB1 HM HX HB0 HFr
  go_wp2_with fail
  refine h2.mono ?_
  rintro e w2 ⟨g0,zs0,rfl,hgg,hRow,hzl,hle,hnw,hb2⟩
  have HR0:Hid (RowE w2 g0 nx zs0∧w1.heap.size≤g0∧zs0.length=nx∧lE zs0=lE xs∧NewE w1.heap.size zs0∧Below w1.heap.size w1 w2):=⟨hRow,hgg,hzl,hle,hnw,hb2⟩
  clear hgg hRow hzl hle hnw hb2 h2
  go_wp2_with fail
  go_loopg [10,29] ny (fun gm s10 s29 wr => ∃ (k g cg:Nat) (zs:List EnL),k≤ny∧gm=ny-k∧s29=.int .i64 k∧s10=.slice (some ⟨g,0,none⟩) zs.length cg∧Hid (w1.heap.size≤g∧RowE wr g cg zs∧Ens D n (lE zs)∧NewE w1.heap.size zs)∧Hid (editsFrom D n (lE zs) k ((lD ys).drop k)=editsFrom D n (lE xs) 0 ((lD ys).drop 0))∧Below w1.heap.size w1 wr)
  case atStart =>
   obtain ⟨r1,r2,r3,r4,r6,r5⟩:=HR0.out
   exact ⟨0,g0,nx,zs0,Nat.zero_le _,rfl,rfl,by rw [r3],⟨r2,r1,by rw [r4];exact HEs.out,r6⟩,(by rw [r4]:editsFrom D n (lE zs0) 0 ((lD ys).drop 0)=_),r5⟩
  case round =>
   obtain ⟨k,g,cg,zs,hk,rfl,rfl,rfl,HRw,HF,hBw⟩:=hrel
   have HBw:Hid (Below w1.heap.size w1 wr):=hBw
   by_cases hlt:k<ny
   ·have hkx:k<ys.length:=by rw [HNY.out];exact hlt
    have hki:(k:Int)<(ny:Int):=by omega
    obtain ⟨-,-,h0 | ⟨b,o,rfl,hXs⟩⟩:=HX1.out.later hBw
    ·have:=HNY.out;rw [h0] at this;simp at this;omega
    obtain ⟨d0,d1,d2,hpl⟩:=hXs.2 k hkx
    have c0:wr.cell? ⟨w.heap.size,0,none⟩=some (.slice A0 n cap):=(hBw.cell (p:=⟨w.heap.size,0,none⟩) hz1).trans c1
    have hzr:w.heap.size<wr.heap.size:=Nat.lt_of_lt_of_le hz1 hBw.size
    have hbo:=ownEd_below wr (ys.getD k noD).A (ys.getD k noD).x.pl.length (ys.getD k noD).c (ys.getD k noD).x.n (ys.getD k noD).x.clear
    have HBo:Hid (Below wr.heap.size wr (ownEd wr (ys.getD k noD).A (ys.getD k noD).x.pl.length (ys.getD k noD).c (ys.getD k noD).x.n (ys.getD k noD).x.clear)):=hbo
    have he:=iedit_any A0 cap n D A C g cg zs (ys.getD k noD).A (ys.getD k noD).c (ys.getD k noD).x (ownEd wr (ys.getD k noD).A (ys.getD k noD).x.pl.length (ys.getD k noD).c (ys.getD k noD).x.n (ys.getD k noD).x.clear) ((HM1.out.later hBw).later hbo) (hpl.later hbo) (HRw.out.2.1.later hbo) HRw.out.2.2.1 HRw.out.2.2.2 (Nat.le_trans hBw.size hbo.size)
    by_cases hee:editErr D n (lE zs) (ys.getD k noD).x=0
    ·have HST:Hid (editsFrom D n (lE zs) k ((lD ys).drop k)=editsFrom D n (editV (lE zs) (ys.getD k noD).x) (k+1) ((lD ys).drop (k+1))):=edits_on hkx hee
     have HEn:Hid (Ens D n (editV (lE zs) (ys.getD k noD).x)):=(HRw.out.2.2.1.edit hee).2
     rw [hee] at he
     generalize editV (lE zs) (ys.getD k noD).x=l2 at he HST HEn
     generalize (ys.getD k noD).A=A1 at d0 he HBo
     generalize (ys.getD k noD).c=k1 at d0 he HBo
     generalize (ys.getD k noD).x.n=n1 at d1 he HBo
     generalize (ys.getD k noD).x.clear=q1 at d2 he HBo
     generalize (ys.getD k noD).x.pl.length=m1 at d0 he HBo
     obtain ⟨nz,hnz⟩:∃ nz,zs.length=nz:=⟨_,rfl⟩
     rw [hnz] at he ⊢
     clear hXs hpl hbo hBw hee hnz
     go_wp2_with fail
     refine he.mono ?_
     rintro e w3 ⟨⟨B,c,zs2,rfl,hc⟩,hg⟩
     obtain ⟨g2,rfl,hg2,hRow2,hl2,hnw2⟩:∃ g',B=some ⟨g',0,none⟩∧g≤g'∧RowE w3 g' c zs2∧lE zs2=l2∧NewE w1.heap.size zs2:=by
      rcases hc with ⟨h1,_⟩ | ⟨_,h1⟩
      ·exact absurd rfl h1
      ·exact h1
     have HN2:Hid (w1.heap.size≤g2∧RowE w3 g2 c zs2∧Ens D n (lE zs2)∧NewE w1.heap.size zs2):=⟨Nat.le_trans HRw.out.1 hg2,hRow2,by rw [hl2];exact HEn.out,hnw2⟩
     have HF2:Hid (editsFrom D n (lE zs2) (k+1) ((lD ys).drop (k+1))=editsFrom D n (lE xs) 0 ((lD ys).drop 0)):=by show _=_;rw [hl2,←HST.out];exact HF.out
     have HB3:Hid (Below w1.heap.size w1 w3):=below_grown (onB HBw.out HBo.out) hg (onB HBw.out HBo.out).size HRw.out.1
     rw [errV_zero]
     clear hc hg hRow2 hl2 hg2 hnw2 he HST HEn
     go_wp2_with fail
     go_roundg (ny-(k+1))
     case measure=>omega
     case rel=>exact ⟨k+1,g2,c,zs2,by omega,rfl,by go_num,rfl,HN2,HF2,HB3.out⟩
    ·have HFin:Hid (V=([],(k:Int),editErr D n (lE zs) (ys.getD k noD).x)):=by show _=_;rw [HV.out,←HF.out,edits_bad hkx hee]
     have HEr:Hid (errV (editErr D n (lE zs) (ys.getD k noD).x)=.iface 86 (.int .i64 (editErr D n (lE zs) (ys.getD k noD).x))):=errV_some hee
     have HNe:Hid (editErr D n (lE zs) (ys.getD k noD).x≠0):=hee
     generalize editErr D n (lE zs) (ys.getD k noD).x=E at he HFin HEr HNe
     generalize editV (lE zs) (ys.getD k noD).x=l2 at he
     generalize (ys.getD k noD).A=A1 at d0 he HBo
     generalize (ys.getD k noD).c=k1 at d0 he HBo
     generalize (ys.getD k noD).x.n=n1 at d1 he HBo
     generalize (ys.getD k noD).x.clear=q1 at d2 he HBo
     generalize (ys.getD k noD).x.pl.length=m1 at d0 he HBo
     obtain ⟨nz,hnz⟩:∃ nz,zs.length=nz:=⟨_,rfl⟩
     rw [hnz] at he ⊢
     clear hXs hpl hbo hBw hee hnz
     go_wp2_with fail
     refine he.mono ?_
     rintro e w3 ⟨⟨B,c,zs2,rfl,hc⟩,hg⟩
     have HB3:Hid (Below w1.heap.size w1 w3):=below_grown (onB HBw.out HBo.out) hg (onB HBw.out HBo.out).size HRw.out.1
     rw [HEr.out]
     clear hc hg he
     go_wp2_with fail
     go_ret3
     rw [HFin.out]
     exact ⟨⟨none,0,[],by rw [HEr.out];rfl,EnsV.nil _ _ _ (by decide),rfl,NewA.none _,fun _ h=>(by cases h)⟩,onB HB1.out HB3.out⟩
   ·have hke:k=ny:=by omega
    subst hke
    have HFin:Hid (V=(lE zs,0,0)):=by show _=_;rw [HV.out,←HF.out,edits_end (by rw [HNY.out];exact Nat.le_refl _)]
    clear hBw
    go_wp2_with fail
    go_ret3
    rw [HFin.out]
    exact ⟨⟨_,_,zs,rfl,HRw.out.2.1.ensV,rfl,fun b o e=>by cases e;exact Nat.le_trans HB1.out.size HRw.out.1,HRw.out.2.2.2.le HB1.out.size⟩,onB HB1.out HBw.out⟩
 ·have HV:Hid (editsV D n (lE xs) (lD ys)=([],0,entsErr D n (lE xs))):=editsV_bad h60 he
  have HEr:Hid (errV (entsErr D n (lE xs))=.iface 86 (.int .i64 (entsErr D n (lE xs)))):=errV_some he
  rw [errV_some he] at h
  generalize editsV D n (lE xs) (lD ys)=V at HV
  generalize entsErr D n (lE xs)=E at h HV HEr he
  generalize xs.length=nx at h
  generalize ys.length=ny at h60 h60'
  clear hM hE hX hB0 h60 he
  go_enter Tryz.func30,Tryz.ntmps30
  go_wp2_with fail
  refine h.mono ?_
  rintro e w1 ⟨rfl,hb1⟩
  have HB1:Hid (Below w.heap.size w w1):=onB HB0.out hb1
  clear hb1
  go_wp2_with fail
  go_ret3
  rw [HV.out]
  exact ⟨⟨none,0,[],by rw [HEr.out];rfl,EnsV.nil _ _ _ (by decide),rfl,NewA.none _,fun _ h=>(by cases h)⟩,HB1.out⟩
end Go.Proofs.YtfngmnhkhfgmjahGreatDoor
