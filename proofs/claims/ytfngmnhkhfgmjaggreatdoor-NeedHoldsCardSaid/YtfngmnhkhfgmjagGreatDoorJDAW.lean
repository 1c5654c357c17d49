/-
  What a formula comes to, as a plain function on trees: of each name the cell at its place; swapped, which comes to the same; which names there are.
-/
import Derived.Shelf.Spec.SlicesInsertGrow
import Derived.Laws.OwnMore
import Derived.Test.YtfngmnhkhfgmjagGreatDoorJDAT
import Derived.Test.YtfngmnhkhfgmjagGreatDoorJDAV
namespace Go.Proofs.YtfngmnhkhfgmjagGreatDoor
section
variable (N:List ByteArray) (C:List (Int×Int))
def refC (s:ByteArray):Int×Int:=C.getD (whereS N s).toNat noC
def valT:Tre→Int×Int
 | .num n=>ofP n
 | .ref s=>refC N C s
 | .bin o a b=>opP o (valT a) (valT b)
end
def refsT:Tre→List ByteArray
 | .num _=>[]
 | .ref s=>[s]
 | .bin _ a b=>refsT a ++ refsT b
def missT (N:List ByteArray) (t:Tre):Bool:=(refsT t).any fun s=>decide (whereS N s<0)
theorem val_ok (N:List ByteArray) {C:List (Int×Int)} (hC:∀ c∈C,okC c):∀ t:Tre,okC (valT N C t)
 | .num n=>okC_ofP n
 | .ref s=>by
  rw [valT,refC,List.getD_eq_getElem?_getD]
  cases h:C[(whereS N s).toNat]? with
  | none=>exact okC_no
  | some c=>exact hC c (List.mem_of_getElem? h)
 | .bin o a b=>opP_ok o _ _
/-! the names of a tree are those of the nodes -/
theorem refs_down {l:List Nd} (hl:RightL l) (s:ByteArray):∀ i,i<l.length→s∈refsT (treeOf l i)→∃ j,j<l.length∧(l.getD j noN).op=2∧(l.getD j noN).name=s:=by
 intro i
 induction i using Nat.strongRecOn with
 | _ i ih =>
  intro hi hs
  have ho:=op_range (hl i hi)
  by_cases h1:(l.getD i noN).op=1
  ·rw [tree_num h1] at hs;cases hs
  by_cases h2:(l.getD i noN).op=2
  ·rw [tree_ref h2,refsT,List.mem_singleton] at hs
   exact ⟨i,hi,h2,hs.symm⟩
  ·obtain ⟨a1,a2,a3,a4⟩:=nd_sides (hl i hi) (by omega)
   rw [tree_bin hl hi (by omega),refsT,List.mem_append] at hs
   rcases hs with hs | hs
   ·exact ih _ (by omega) (by omega) hs
   ·exact ih _ (by omega) (by omega) hs
theorem used_who {l:List Nd} (j:Nat):∀ k,1≤usedTo l k j→∃ i,i<k∧1≤uses (l.getD i noN) j
 | 0,h=>by cases h
 | k+1,h=>by
  by_cases h1:1≤uses (l.getD k noN) j
  ·exact ⟨k,Nat.lt_succ_self _,h1⟩
  ·have h2:1≤usedTo l k j+uses (l.getD k noN) j:=h
   obtain ⟨i,hi,h3⟩:=used_who (l:=l) j k (by omega)
   exact ⟨i,by omega,h3⟩
theorem refs_up {l:List Nd} (h:formErr l=0) (s:ByteArray):∀ n j,l.length-j=n→j<l.length→s∈refsT (treeOf l j)→s∈refsT (treeOf l (l.length-1)):=by
 obtain ⟨h1,h2,hl,h4⟩:=form_right h
 intro n
 induction n using Nat.strongRecOn with
 | _ n ih =>
  intro j hn hj hs
  by_cases e:j=l.length-1
  ·rw [←e];exact hs
  obtain ⟨i,hi,hu⟩:=used_who (l:=l) j l.length (by rw [h4 j (by omega)];exact Nat.le_refl _)
  unfold uses at hu
  split at hu
  ·rename_i hop
   obtain ⟨a1,a2,a3,a4⟩:=nd_sides (hl i hi) hop
   have hsi:s∈refsT (treeOf l i):=by
    rw [tree_bin hl hi hop,refsT,List.mem_append]
    by_cases e1:(l.getD i noN).left=(j:Int)
    ·left;rw [e1];exact hs
    ·by_cases e2:(l.getD i noN).right=(j:Int)
     ·right;rw [e2];exact hs
     ·rw [if_neg e1,if_neg e2] at hu;omega
   have hij:j<i:=by
    by_cases e1:(l.getD i noN).left=(j:Int)
    ·omega
    ·by_cases e2:(l.getD i noN).right=(j:Int)
     ·omega
     ·rw [if_neg e1,if_neg e2] at hu;omega
   exact ih (l.length-i) (by omega) i rfl hi hsi
  ·omega
theorem refs_mem {l:List Nd} (h:formErr l=0) (s:ByteArray):s∈refsT (treeOf l (l.length-1))↔∃ j,j<l.length∧(l.getD j noN).op=2∧(l.getD j noN).name=s:=by
 obtain ⟨h1,h2,hl,h4⟩:=form_right h
 refine ⟨refs_down hl s _ (by omega),fun ⟨j,hj,h2,h3⟩=>?_⟩
 refine refs_up h s _ j rfl hj ?_
 rw [tree_ref h2,h3,refsT]
 exact List.mem_singleton.2 rfl
def missR (N:List ByteArray) (l:List Nd) (i:Nat):Bool:=decide ((l.getD i noN).op=2) && decide (whereS N (l.getD i noN).name<0)
theorem miss_yes {N:List ByteArray} {l:List Nd} (h:formErr l=0) {i:Nat} (hi:i<l.length) (hm:missR N l i=true):missT N (treeOf l (l.length-1))=true:=by
 simp only [missR,Bool.and_eq_true,decide_eq_true_eq] at hm
 unfold missT
 rw [List.any_eq_true]
 exact ⟨_,(refs_mem h _).2 ⟨i,hi,hm.1,rfl⟩,decide_eq_true hm.2⟩
theorem miss_no {N:List ByteArray} {l:List Nd} (h:formErr l=0) (hm:∀ i,i<l.length→missR N l i=false):missT N (treeOf l (l.length-1))=false:=by
 rw [Bool.eq_false_iff]
 intro e
 unfold missT at e
 rw [List.any_eq_true] at e
 obtain ⟨s,h1,h2⟩:=e
 obtain ⟨j,hj,h3,h4⟩:=(refs_mem h s).1 h1
 have:=hm j hj
 unfold missR at this
 rw [h4,h3] at this
 simp at this h2
 omega
def valE (l:List Nd) (N:List ByteArray) (C:List (Int×Int)):Int:=if formErr l≠0 then formErr l else if ckErr N C≠0 then ckErr N C else if missT N (treeOf l (l.length-1))=true then 5 else 0
def valC (l:List Nd) (N:List ByteArray) (C:List (Int×Int)):Int×Int:=if valE l N C=0 then valT N C (treeOf l (l.length-1)) else noC
def valG (E:ByteArray→Int×Int):Tre→Int×Int
 | .num n=>ofP n
 | .ref s=>E s
 | .bin o a b=>opP o (valG E a) (valG E b)
theorem valG_names (N:List ByteArray) (C:List (Int×Int)) (E:ByteArray→Int×Int):∀ t:Tre,(∀ s∈refsT t,refC N C s=E s)→valT N C t=valG E t
 | .num _,_=>rfl
 | .ref s,h=>h s (by simp [refsT])
 | .bin o a b,h=>by
  rw [valT,valG,valG_names N C E a fun s hs=>h s (by simp [refsT,hs]),valG_names N C E b fun s hs=>h s (by simp [refsT,hs])]
theorem valG_same (E F:ByteArray→Int×Int):∀ t:Tre,(∀ s∈refsT t,E s=F s)→valG E t=valG F t
 | .num _,_=>rfl
 | .ref s,h=>h s (by simp [refsT])
 | .bin o a b,h=>by
  rw [valG,valG,valG_same E F a fun s hs=>h s (by simp [refsT,hs]),valG_same E F b fun s hs=>h s (by simp [refsT,hs])]
def treF (d:Dm) (i:Nat):Tre:=treeOf (prsL (d.mem i).formula) ((prsL (d.mem i).formula).length-1)
def oneV (d:Dm) (at':Int→Int×Int) (i:Nat):Int×Int:=if (d.mem i).formula.size=0 then (partsOf d.mem d.n i).foldl (partStep d.mem at') (0,0) else valG (fun s=>at' (whL d s.data.toList)) (treF d i)
theorem tre_names {d:Dm} {i:Nat} (hp:prsE (d.mem i).formula=0) {s:ByteArray} (hs:s∈refsT (treF d i)):s.data.toList∈nmsOf d i:=by
 unfold treF at hs
 obtain ⟨j,hj,h2,h3⟩:=(refs_mem (form_read hp) s).1 hs
 rw [←h3]
 refine nms_has ?_ h2
 rw [List.getD_eq_getElem?_getD,List.getElem?_eq_getElem hj]
 exact List.getElem_mem hj
theorem mErr_prsE {d:Dm} {i:Nat} (hf:(d.mem i).formula.size≠0) (h:mErr d i=0):prsE (d.mem i).formula=0:=by
 unfold mErr at h
 rw [if_neg hf] at h
 split at h
 ·rename_i h1;exact absurd h h1
 ·rename_i h1;simpa using h1
theorem oneV_same {d:Dm} (hd:(dimErr d).2=0) {i:Nat} (hm:mErr d i=0) {a b:Int→Int×Int} (h:∀ x∈mNd d i,a x=b x):oneV d a i=oneV d b i:=by
 unfold oneV
 by_cases hf:(d.mem i).formula.size=0
 ·rw [if_pos hf,if_pos hf]
  have hall:∀ (P:List Int) (c:Int×Int),(∀ x∈P,x∈partsOf d.mem d.n i)→P.foldl (partStep d.mem a) c=P.foldl (partStep d.mem b) c:=by
   intro P
   induction P with
   | nil=>intro c _;rfl
   | cons x r ih =>
    intro c hP
    have hx:=hP x (by simp)
    rw [List.foldl_cons,List.foldl_cons]
    have e:partStep d.mem a c x=partStep d.mem b c x:=by
     unfold partStep
     by_cases hs:(d.mem x.toNat).sign=0
     ·rw [if_neg (by omega),if_neg (by omega),if_neg (by omega),if_neg (by omega)]
     ·have hn:x∈mNd d i:=by
       rw [←parts_need hf,List.mem_filter]
       exact ⟨hx,by unfold sgB;exact decide_eq_true hs⟩
      rw [h x hn]
    rw [e]
    exact ih _ fun y hy=>hP y (List.mem_cons_of_mem _ hy)
  exact hall _ _ fun x hx=>hx
 ·rw [if_neg hf,if_neg hf]
  refine valG_same _ _ _ fun s hs=>h _ ?_
  exact (need_names hd hf hm _).2 ⟨_,tre_names (mErr_prsE hf hm) hs,rfl⟩
def byTo (D:Nat→Dm) (p:List Int):Nat→Int
 | 0 => -1
 | k+1=>if leafB (D k).mem (D k).n (p.getD k 0).toNat=false∧(byTo D p k<0∨(D (byTo D p k).toNat).solve<(D k).solve) then (k:Int) else byTo D p k
theorem by_in (D:Nat→Dm) (p:List Int) (k:Nat):byTo D p k = -1∨∃ b:Nat,byTo D p k=(b:Int)∧b<k:=by
 induction k with
 | zero=>exact Or.inl rfl
 | succ k ih =>
  unfold byTo
  split
  ·exact Or.inr ⟨k,rfl,by omega⟩
  ·rcases ih with h | ⟨b,h1,h2⟩
   ·exact Or.inl h
   ·exact Or.inr ⟨b,h1,by omega⟩
def rkD (d:Dm) (i:Int):Nat:=(ordTo (ndL d) d.n).idxOf i
theorem ord_all {d:Dm} (h:(rErr d).2=0) {i:Nat} (hi:i<d.n):(i:Int)∈ordTo (ndL d) d.n:=by
 refine Classical.byContradiction fun hn=>?_
 obtain ⟨h1,h2⟩:=ord_in (ndL d) d.n
 rw [ndL_len] at h2
 have:=few d.n ((i:Int) :: ordTo (ndL d) d.n) (List.nodup_cons.2 ⟨hn,h1⟩) fun x hx=>by
  rcases List.mem_cons.1 hx with rfl | hx
  ·omega
  ·exact h2 x hx
 rw [List.length_cons,ord_len (ndL_inn d) (rErr_acyc h) d.n (by rw [ndL_len];exact Nat.le_refl _)] at this
 omega
theorem rk_less {d:Dm} (h:(rErr d).2=0) {i:Nat} (hi:i<d.n) {x:Int} (hx:x∈mNd d i):rkD d x<rkD d i:=by
 obtain ⟨k,hk,e⟩:=List.getElem_of_mem (ord_all h hi)
 have hl:=ord_len (ndL_inn d) (rErr_acyc h) d.n (by rw [ndL_len];exact Nat.le_refl _)
 have hk2:k<(ndL d).length:=by rw [ndL_len];omega
 obtain ⟨m,h1,h2,h3,h4,-⟩:=ord_at (ndL_inn d) (rErr_acyc h) hk2
 rw [ndL_len] at h1 h3 h4
 have hm:m=i:=by
  rw [List.getD_eq_getElem?_getD,List.getElem?_eq_getElem hk,e] at h1
  have:(i:Int)=(m:Int):=by simpa using h1
  omega
 subst hm
 rw [ndL_at hi] at h4
 have hx2:=h4 x hx
 unfold rkD
 have hsp:ordTo (ndL d) d.n=(ordTo (ndL d) d.n).take k ++ (ordTo (ndL d) d.n).drop k:=(List.take_append_drop _ _).symm
 have hkl:((ordTo (ndL d) d.n).take k).length=k:=by rw [List.length_take];omega
 have a1:(ordTo (ndL d) d.n).idxOf x<k:=by
  rw [hsp,List.idxOf_append,if_pos hx2]
  have:=List.idxOf_lt_length_of_mem hx2
  omega
 have a2:k≤(ordTo (ndL d) d.n).idxOf (m:Int):=by
  rw [hsp,List.idxOf_append,if_neg h3]
  omega
 omega
def msrTo (D:Nat→Dm) (p:List Int):Nat→Nat
 | 0=>0
 | k+1=>msrTo D p k+rkD (D k) (p.getD k 0)
theorem getD_set_at {p:List Int} {b:Nat} {x:Int} (h:b<p.length):(p.set b x).getD b 0=x:=by
 simp [List.getD,h]
theorem getD_set_off {p:List Int} {b k:Nat} {x:Int} (h:k≠b):(p.set b x).getD k 0=p.getD k 0:=by
 simp [List.getD,List.getElem?_set_ne (fun e=>h e.symm)]
theorem msr_less {D:Nat→Dm} {p:List Int} {b:Nat} {x:Int} (hb:b<p.length) (hr:rkD (D b) x<rkD (D b) (p.getD b 0)) (k:Nat):(k≤b→msrTo D (p.set b x) k=msrTo D p k)∧(b<k→msrTo D (p.set b x) k<msrTo D p k):=by
 induction k with
 | zero=>exact ⟨fun _=>rfl,fun h=>by omega⟩
 | succ k ih =>
  refine ⟨fun h=>?_,fun h=>?_⟩
  ·rw [msrTo,msrTo,ih.1 (by omega),getD_set_off (by omega)]
  ·rw [msrTo,msrTo]
   by_cases e:k=b
   ·subst e
    rw [ih.1 (Nat.le_refl _),getD_set_at hb]
    omega
   ·have:=ih.2 (by omega)
    rw [getD_set_off e]
    omega
def solF (D:Nat→Dm) (n:Nat) (inp:List Int→Int×Int):Nat→List Int→Int×Int
 | 0,_=>(0,0)
 | f+1,p=>if byTo D p n<0 then inp p else oneV (D (byTo D p n).toNat) (fun x=>solF D n inp f (p.set (byTo D p n).toNat x)) (p.getD (byTo D p n).toNat 0).toNat
def AllR (D:Nat→Dm) (n:Nat):Prop := ∀ i,i<n→(rErr (D i)).2=0
theorem inO_set {D:Nat→Dm} {n:Nat} {p:List Int} (h:InO D n p) {b:Nat} (hb:b<n) {x:Int} (h0:0≤x) (h1:x<((D b).n:Int)):InO D n (p.set b x):=by
 refine ⟨h.right,by rw [List.length_set];exact h.len,fun i hi=>?_,fun i hi=>?_⟩
 ·by_cases e:i=b
  ·subst e
   rw [getD_set_at (by rw [h.len];exact hb)]
   exact h0
  ·rw [getD_set_off e]
   exact h.lo i hi
 ·by_cases e:i=b
  ·subst e
   rw [getD_set_at (by rw [h.len];exact hb)]
   exact h1
  ·rw [getD_set_off e]
   exact h.hi i hi
theorem sol_same {D:Nat→Dm} {n:Nat} (hR:AllR D n) (inp:List Int→Int×Int):∀ (f g:Nat) (p:List Int),InO D n p→msrTo D p n<f→msrTo D p n<g→solF D n inp f p=solF D n inp g p:=by
 intro f
 induction f with
 | zero=>intro g p _ h;omega
 | succ f ih =>
  intro g p hp hf hg
  obtain ⟨g,rfl⟩:∃ g',g=g'+1:=⟨g-1,by omega⟩
  unfold solF
  rcases by_in D p n with h | ⟨b,h1,h2⟩
  ·rw [h,if_pos (by omega),if_pos (by omega)]
  ·rw [h1,if_neg (by omega),if_neg (by omega),Int.toNat_natCast]
   obtain ⟨hd,hm,-,-⟩:=rErr_right (hR b h2)
   obtain ⟨hp0,hp1⟩:0≤p.getD b 0∧p.getD b 0<((D b).n:Int):=⟨hp.lo b h2,hp.hi b h2⟩
   refine oneV_same hd (hm _ (by omega)) fun x hx=>?_
   have hxi:=mNd_in hx
   have hi2:(p.getD b 0).toNat<(D b).n:=by omega
   have hrk:=rk_less (hR b h2) hi2 hx
   rw [Int.toNat_of_nonneg hp0] at hrk
   have hms:=(msr_less (by rw [hp.len];exact h2) hrk n).2 h2
   exact ih g _ (inO_set hp h2 hxi.1 hxi.2) (by omega) (by omega)
def solV (D:Nat→Dm) (n:Nat) (inp:List Int→Int×Int) (p:List Int):Int×Int:=solF D n inp (msrTo D p n+1) p
theorem sol_leaf {D:Nat→Dm} {n:Nat} (inp:List Int→Int×Int) {p:List Int} (h:byTo D p n<0):solV D n inp p=inp p:=by
 unfold solV solF
 rw [if_pos h]
theorem sol_by {D:Nat→Dm} {n:Nat} (hR:AllR D n) (inp:List Int→Int×Int) {p:List Int} (hp:InO D n p) {b:Nat} (hb:byTo D p n=(b:Int)):solV D n inp p=oneV (D b) (fun x=>solV D n inp (p.set b x)) (p.getD b 0).toNat:=by
 have h2:b<n:=by
  rcases by_in D p n with h | ⟨b',h1,h2⟩
  ·omega
  ·omega
 show solF D n inp (msrTo D p n+1) p=_
 unfold solF
 rw [hb,if_neg (by omega),Int.toNat_natCast]
 obtain ⟨hd,hm,-,-⟩:=rErr_right (hR b h2)
 obtain ⟨hp0,hp1⟩:0≤p.getD b 0∧p.getD b 0<((D b).n:Int):=⟨hp.lo b h2,hp.hi b h2⟩
 refine oneV_same hd (hm _ (by omega)) fun x hx=>?_
 have hxi:=mNd_in hx
 have hi2:(p.getD b 0).toNat<(D b).n:=by omega
 have hrk:=rk_less (hR b h2) hi2 hx
 rw [Int.toNat_of_nonneg hp0] at hrk
 have hms:=(msr_less (by rw [hp.len];exact h2) hrk n).2 h2
 exact sol_same hR inp _ _ _ (inO_set hp h2 hxi.1 hxi.2) (by omega) (by omega)
end Go.Proofs.YtfngmnhkhfgmjagGreatDoor
namespace Go.Proofs.YtfngmnhkhfgmjagGreatDoor
open Go.ChangeShapes Go.WideShapes Go.ChangeAt Go.RowKit
set_option maxRecDepth 20000
theorem short_of {D:Nat→Dm} {n:Nat} {xs:List EnL} {p:List Int} (hE:Ens D n (lE xs)) (hp:InO D n p):Short xs p:=by
 refine ⟨fun k hk=>?_,inO_short hp⟩
 have h1:(xs.getD k noL).e∈lE xs:=List.mem_map.2 ⟨_,enl_mem hk,rfl⟩
 exact inO_short (hE.each _ h1).1
theorem few_of {D:Nat→Dm} {n:Nat} {xs:List EnL} (hE:Ens D n (lE xs)):xs.length≤3000:=by have:=hE.few;rw [lE_len] at this;exact this
def NewE (N:Nat) (xs:List EnL):Prop := ∀ x∈xs,NewA N x.A
theorem NewE.zero (xs:List EnL):NewE 0 xs:=fun _ _=>NewA.zero _
theorem NewE.le {N M:Nat} {xs:List EnL} (h:NewE N xs) (hm:M≤N):NewE M xs:=fun x hx=>(h x hx).le hm
theorem NewE.put {N i:Nat} {xs:List EnL} {x:EnL} (h:NewE N xs) (hx:NewA N x.A):NewE N (xs.take i ++ x :: xs.drop i):=fun y hy=>by
 rcases List.mem_append.1 hy with hy | hy
 ·exact h y (List.mem_of_mem_take hy)
 ·rcases List.mem_cons.1 hy with rfl | hy
  ·exact hx
  ·exact h y (List.mem_of_mem_drop hy)
theorem NewE.cut {N i j:Nat} {xs:List EnL} (h:NewE N xs):NewE N (xs.take i ++ xs.drop j):=fun y hy=>by
 rcases List.mem_append.1 hy with hy | hy
 ·exact h y (List.mem_of_mem_take hy)
 ·exact h y (List.mem_of_mem_drop hy)
theorem NewE.set {N i:Nat} {xs:List EnL} (h:NewE N xs) (hi:i<xs.length) (e:En) (c:Nat):NewE N (xs.set i ⟨e,(xs.getD i noL).A,c⟩):=fun y hy=>by
 rcases List.mem_or_eq_of_mem_set hy with hy | rfl
 ·exact h y hy
 ·exact h (xs.getD i noL) (enl_mem hi)
theorem plty_new {w:World} {base:Nat} {v:Value} {L:List Int} (h:w.ownsRow base 3 1 v L.length (L.map (Value.int .i64))):∃ A c,v=.slice A L.length c∧PlTy w A c L∧NewA base A:=by
 obtain ⟨A,c,rfl,hP⟩:=plty_own h
 refine ⟨A,c,rfl,hP,fun b o e=>?_⟩
 subst e
 rcases h.2 with ⟨h1,-⟩ | ⟨g,cap,cur,h1,hb,-⟩
 ·cases h1
 ·cases h1;exact hb
set_option maxHeartbeats 2000000 in
theorem clone_new (A:Option Addr) (c:Nat) (L:List Int) (w:World) (hL:L.length≤4) (hP:PlAt w A c L):Calls Tryz.prog 105 #[.slice A L.length c] w fun e w'=>(∃ A' c',e=.returned (.slice A' L.length c')∧PlTy w' A' c' L∧NewA w.heap.size A')∧Below w.heap.size w w':=by
 have hq:∀ (w:World) (a:Option Addr) (n c n' c':Nat),(binOp .eql 44 (.slice a n c) (.slice none n' c')).run Tryz.prog w=.ok (.bool a.isNone) w:=fun w a n c n' c'=>Lib.run_eql_slice_nil w _ _ a n c n' c' Tryz.underlying44
 cases A with
 | none =>
  obtain ⟨-,h0 | ⟨b,o,h0,-⟩⟩:=hP
  ·subst h0
   simp only [List.length_nil]
   go_enter Tryz.func105,Tryz.ntmps105
   go_wp2_with fail
   go_ret
   exact ⟨⟨none,0,rfl,PlTy.nil _ _ _,NewA.none _⟩,Below.refl _ _⟩
  ·cases h0
 | some a =>
  obtain ⟨i0,hi0,hz0,hz1,hz2⟩:=info_parts Tryz.infoIntP
  have HC:Hid (∀ j u,(L.map (Value.int .i64))[j]?=some u→w.cell? (a.add j)=some u):=by
   intro j u hj
   obtain ⟨-,h0 | ⟨b,o,h0,-,hcell⟩⟩:=hP
   ·subst h0;simp at hj
   ·cases h0
    have hlt:j<L.length:=by have:=(List.getElem?_eq_some_iff.1 hj).1;simpa using this
    rw [plain_add,hcell j hlt]
    simp only [List.getElem?_map,List.getElem?_eq_getElem hlt,Option.map_some,Option.some.injEq] at hj
    rw [←hj,List.getD_eq_getElem?_getD,List.getElem?_eq_getElem hlt]
    rfl
  have HF:Hid (∀ (w':World) (v:Value),w'.ownsRow w.heap.size 3 1 v L.length (L.map (Value.int .i64))→∃ A' c',v=.slice A' L.length c'∧PlTy w' A' c' L∧NewA w.heap.size A'):=fun w' v h=>plty_new h
  have hl:(L.map (Value.int .i64)).length=L.length*1:=by simp
  have h1:∀ u∈L.map (Value.int .i64),u.oneCell'=true:=by intro u hu;simp at hu;obtain ⟨x,-,rfl⟩:=hu;rfl
  have hm:L.length≤4:=hL
  clear hP hL
  go_enter Tryz.func105,Tryz.ntmps105
  go_wp2_with (at_builtin;refine wpList_append_own _ rfl _ _ 44 rfl w.heap.size 3 i0 (.int .i64 0) 1 8 Tryz.underlying44 hi0 hz0 hz1 hz2 rfl (by decide) _ _ _ rfl (World.ownsRow_made w #[] 0 (Nat.le_refl _) (Nat.zero_le _) (by simp)) a L.length c (L.map (Value.int .i64)) rfl ?qc1 ?qc2 ?qc3 ?qc4 ?qc5 ?qc6 ?_)
  case qc1=>exact hl
  case qc2=>exact fun j u hj=>Lib.cell?_alloc_some _ (HC.out j u hj)
  case qc3=>exact h1
  case qc4=>simp only [maxLen];omega
  case qc5=>omega
  case qc6=>simp
  intro v' w1 hown hgrow hnil
  obtain ⟨A',c',rfl,hT,hNw⟩:=HF.out _ _ hown
  have HT:Hid (PlTy w1 A' c' L∧NewA w.heap.size A'):=⟨hT,hNw⟩
  have HB:Hid (Below w.heap.size w w1):=((Below.refl _ w).alloc (Nat.le_refl _) _).grown hgrow (by simp) (by intro k hk;simp [Value.ownBlock] at hk;omega)
  clear hown hgrow hnil hT hNw
  go_wp2_with fail
  go_ret
  exact ⟨⟨A',c',rfl,HT.out⟩,HB.out⟩
end Go.Proofs.YtfngmnhkhfgmjagGreatDoor
namespace Go.Proofs.YtfngmnhkhfgmjagGreatDoor
open Go.ChangeShapes Go.WideShapes Go.ChangeAt Go.RowKit Go.Lib
set_option maxRecDepth 100000
theorem Tryz.infoEnt:(Tryz.prog.info? 46).map (fun i=>(i.zero,i.size,i.bytes))=some (some (.agg #[.slice none 0 0,.int .i64 0]),2,32):=by kernel_rfl
def OneE (w:World) (vb:Nat) (x:EnL):Prop:=w.heap[vb]?=some (.cells #[.slice x.A x.e.pl.length x.c,.int .i64 x.e.n] 46 (0,0))
theorem OneE.cells {w:World} {vb:Nat} {x:EnL} (h:OneE w vb x):∀ j u,(cellsE [x])[j]?=some u→w.cell? ⟨vb,j,none⟩=some u:=by
 intro j u hj
 rw [Lib.cell_of_heap h]
 simpa [cellsE] using hj
def Inserted (w:World) (g i:Nat) (xs:List EnL) (x:EnL) (e:Ending) (w':World):Prop := ∃ g' cap',e=.returned (.slice (some ⟨g',0,none⟩) (xs.length+1) cap')∧RowE w' g' cap' (xs.take i ++ x :: xs.drop i)∧g≤g'∧w.grownBy w' (some g)
set_option maxHeartbeats 4000000 in
theorem insert_end (g cap vb:Nat) (xs:List EnL) (x:EnL) (w:World) (hn:xs.length≤3000) (hR:RowE w g cap xs) (hx:PlTy w x.A x.c x.e.pl) (hv:OneE w vb x) :
  Calls Tryz.prog 104 #[.slice (some ⟨g,0,none⟩) xs.length cap,.int .i64 xs.length,.slice (some ⟨vb,0,none⟩) 1 1] w fun e w'=>Inserted w g xs.length xs x e w':=by
 obtain ⟨i0,hi0,hz0,hz1,hz2⟩:=info_parts Tryz.infoEnt
 have hown:=hR.own (Nat.le_refl g)
 have hgs:g≤w.heap.size:=Nat.le_of_lt hR.lt
 have hcap:=hR.2.1
 have hcm:=hR.2.2.1
 have HR:Hid (RowE w g cap xs):=hR
 have HX:Hid (PlTy w x.A x.c x.e.pl):=hx
 have HV:Hid (∀ j u,(cellsE [x])[j]?=some u→w.cell? ⟨vb,j,none⟩=some u):=hv.cells
 have HE:Hid (cellsE (xs ++ [x])=cellsE xs ++ cellsE [x]):=cellsE_append ..
 have HL:Hid ((cellsE [x]).length=1*2):=cellsE_len [x]
 have H1:Hid (∀ v∈cellsE [x],v.oneCell'=true):=cellsE_one [x]
 have HT:Hid (xs.take xs.length ++ x :: xs.drop xs.length=xs ++ [x]∧(xs ++ [x]).length=xs.length+1):=⟨by simp,by simp⟩
 obtain ⟨n,hnn⟩:∃ n,xs.length=n:=⟨_,rfl⟩
 have HN:Hid (xs.length=n):=hnn
 rw [hnn] at hown hn hcap HT
 unfold Inserted
 rw [hnn]
 generalize hcx:cellsE xs=CX at hown HE
 generalize hc1:cellsE [x]=C1 at HV HE HL H1
 unfold maxLen at hcm
 clear hR hx hv hnn hcx hc1
 have hn':(n:Int)≤3000:=by omega
 by_cases hce:cap=n
 ·subst hce
  go_enter Tryz.func104,Tryz.ntmps104
  go_wp2_with (at_builtin;refine wpList_append_own _ rfl _ _ 37 rfl g 46 i0 (.agg #[.slice none 0 0,.int .i64 0]) 2 32 Tryz.underlying37 hi0 hz0 hz1 hz2 rfl (by decide) _ _ _ rfl hown ⟨vb,0,none⟩ 1 1 C1 rfl ?qc1 ?qc2 ?qc3 ?qc4 ?qc5 ?qc6 ?_)
  case qc1=>exact HL.out
  case qc2=>exact fun j u hj=>by rw [plain_add,Nat.zero_add];exact HV.out j u hj
  case qc3=>exact H1.out
  case qc4=>simp only [maxLen];omega
  case qc5=>omega
  case qc6=>exact hgs
  intro v' w1 hown1 hgrow hnil
  rw [←HE.out,←HT.out.2] at hown1
  have hg1:w.grownBy w1 (some g):=hgrow
  obtain ⟨⟨cur,hcur,-,-⟩,-⟩:=HR.out
  have hpl:∀ y∈xs ++ [x],PlTy w1 y.A y.c y.e.pl:=fun y hy=>by
   rcases List.mem_append.1 hy with hy | hy
   ·exact (HR.out.2.2.2 y hy).grown hcur hg1
   ·rw [List.mem_singleton.1 hy];exact HX.out.grown hcur hg1
  obtain ⟨g',cap',rfl,hgg,hRow⟩:=row_own hown1 (by simpa using hnil) hpl
  have HRow:Hid (RowE w1 g' cap' (xs ++ [x])):=hRow
  have HG:Hid (w.grownBy w1 (some g)):=hg1
  rw [HT.out.2]
  clear hown1 hgrow hnil hcur hpl hRow hg1
  go_wp2_with fail
  go_ret
  refine ⟨g',cap',rfl,?_,hgg,HG.out⟩
  rw [HT.out.1]
  exact HRow.out
 ·have hce' : ¬ ((cap:Int)=(n:Int)):=by omega
  go_enter Tryz.func104,Tryz.ntmps104
  go_wp2_with (at_builtin;refine wpList_append_own _ rfl _ _ 37 rfl g 46 i0 (.agg #[.slice none 0 0,.int .i64 0]) 2 32 Tryz.underlying37 hi0 hz0 hz1 hz2 rfl (by decide) _ _ _ rfl hown ⟨vb,0,none⟩ 1 1 C1 rfl ?qc1 ?qc2 ?qc3 ?qc4 ?qc5 ?qc6 ?_)
  case qc1=>exact HL.out
  case qc2=>exact fun j u hj=>by rw [plain_add,Nat.zero_add];exact HV.out j u hj
  case qc3=>exact H1.out
  case qc4=>simp only [maxLen];omega
  case qc5=>omega
  case qc6=>exact hgs
  intro v' w1 hown1 hgrow hnil
  rw [←HE.out,←HT.out.2] at hown1
  have hg1:w.grownBy w1 (some g):=hgrow
  obtain ⟨⟨cur,hcur,-,-⟩,-⟩:=HR.out
  have hpl:∀ y∈xs ++ [x],PlTy w1 y.A y.c y.e.pl:=fun y hy=>by
   rcases List.mem_append.1 hy with hy | hy
   ·exact (HR.out.2.2.2 y hy).grown hcur hg1
   ·rw [List.mem_singleton.1 hy];exact HX.out.grown hcur hg1
  obtain ⟨g',cap',rfl,hgg,hRow⟩:=row_own hown1 (by simpa using hnil) hpl
  have HRow:Hid (RowE w1 g' cap' (xs ++ [x])):=hRow
  have HG:Hid (w.grownBy w1 (some g)):=hg1
  rw [HT.out.2]
  clear hown1 hgrow hnil hcur hpl hRow hg1
  go_wp2_with fail
  go_ret
  refine ⟨g',cap',rfl,?_,hgg,HG.out⟩
  rw [HT.out.1]
  exact HRow.out
theorem ent_over (w:World) (g vb o lb cb kB:Nat) (x:EnL) (cur:Array Value) (hvb:vb≠g) (hv:OneE w vb x) (hg:w.heap[g]?=some (.cells cur 46 (0,0))) (hk:cur.size=kB) (hk0:kB≠0) :
  (callFunc 133 #[.slice (some ⟨vb,0,none⟩) 1 1,.slice (some ⟨g,o,none⟩) lb cb]).run Tryz.prog w=.ok (.value (.bool false)) w:=by
 rw [run_callFunc_extern Tryz.func133 (by kernel_rfl) (by kernel_rfl) (by kernel_rfl) (e:=Extern.SlicesOverlaps.overlaps #[37,37] #[4]) (by kernel_rfl),
  Lib.run_overlaps_apart w 37 4 46 Tryz.underlying37 2 Tryz.sizeOf46 ⟨vb,0,none⟩ ⟨g,o,none⟩ 1 1 lb cb hvb 46 46 2 kB (by simp [World.shape?,show w.heap[vb]?=_ from hv]) (by simp [World.shape?,hg,hk]) hk0 (Lib.frozen_of_heap hv 0) (Lib.frozen_of_heap hv 2)]
 rfl
set_option maxHeartbeats 4000000 in
theorem insert_shift (g cap i vb:Nat) (xs:List EnL) (x:EnL) (w:World) (hn:xs.length≤3000) (hi:i<xs.length) (hroom:xs.length+1≤cap) (hvb:vb≠g) (hR:RowE w g cap xs) (hx:PlTy w x.A x.c x.e.pl) (hv:OneE w vb x) :
  Calls Tryz.prog 104 #[.slice (some ⟨g,0,none⟩) xs.length cap,.int .i64 i,.slice (some ⟨vb,0,none⟩) 1 1] w fun e w'=>Inserted w g i xs x e w':=by
 obtain ⟨i0,hi0,hz0,hz1,hz2⟩:=info_parts Tryz.infoEnt
 have hsz:(Tryz.prog.info? 46).map (·.size)=some 2:=by rw [hi0];simp [hz1]
 have hcm:=hR.2.2.1
 unfold maxLen at hcm
 obtain ⟨⟨cur,hcur,hcs,hct⟩,-,-,hpl⟩:=id hR
 have hov:∀ o lb cb,(callFunc 133 #[.slice (some ⟨vb,0,none⟩) 1 1,.slice (some ⟨g,o,none⟩) lb cb]).run Tryz.prog w=.ok (.value (.bool false)) w:=fun o lb cb=>ent_over w g vb o lb cb (cap*2) x cur hvb hv hcur hcs (by omega)
 obtain ⟨n,hnn⟩:∃ n,xs.length=n:=⟨_,rfl⟩
 have hdl:(cellsE (xs.drop i)).length=(n-i)*2:=by rw [cellsE_len,List.length_drop,hnn]
 obtain ⟨C1,hC1⟩:∃ C1,C1=cur.toList.take ((i+1)*2) ++ cellsE (xs.drop i) ++ cur.toList.drop ((i+1)*2+(cellsE (xs.drop i)).length):=⟨_,rfl⟩
 obtain ⟨C2,hC2⟩:∃ C2,C2=C1.take (i*2) ++ cellsE [x] ++ C1.drop (i*2+(cellsE [x]).length):=⟨_,rfl⟩
 have hlen:(xs.length+1)*2≤cur.toList.length:=by
  have h1:cur.toList.length=cap*2:=by simpa using hcs
  omega
 obtain ⟨hl2,ht2⟩:=ins_cells hct hlen (Nat.le_of_lt hi) hC1 hC2
 have hl1:C1.length=cur.size:=by
  rw [hC1]
  simp only [List.length_append,List.length_take,List.length_drop,hdl,Array.length_toList,hcs]
  omega
 have hcp1:∀ ty dc sc,(Builtin.copy_ #[37,37] ty #[.slice (some ⟨g,(i+1)*2,none⟩) (n-i) dc,.slice (some ⟨g,i*2,none⟩) (n+1-i) sc]).run Tryz.prog w.drew=.ok (goInt (Nat.min (n+1-i) (n-i))) (w.drew.setRow g C1.toArray):=fun ty dc sc=>by
  rw [hC1]
  exact run_copy_k 2 w.drew _ _ ty 46 g ((i+1)*2) (n-i) dc ⟨g,i*2,none⟩ (n+1-i) sc cur 46 (cellsE (xs.drop i)) Tryz.underlying37 hsz hcur (by rw [hdl];simp only [Nat.min_def];split <;> omega)
   (fun j v hj=>by
    rw [plain_add]
    refine hR.cells (i*2+j) v ?_
    rw [←cellsE_drop,List.getElem?_drop] at hj
    exact hj)
   (by rw [hdl];omega) (cellsE_one _)
 have hW1:(w.drew.setRow g C1.toArray).heap[g]?=some (.cells C1.toArray 46 (0,0)):=setRow_heap w.drew g cur _ _ _ hcur
 have hcp2:∀ (W:World),W.heap=(w.drew.setRow g C1.toArray).heap→∀ ty dc,(Builtin.copy_ #[37,37] ty #[.slice (some ⟨g,i*2,none⟩) (n+1-i) dc,.slice (some ⟨vb,0,none⟩) 1 1]).run Tryz.prog W=.ok (goInt (Nat.min 1 (n+1-i))) (W.setRow g C2.toArray):=fun W hW ty dc=>by
  have h:=run_copy_k (P:=Tryz.prog) 2 W _ 37 ty 46 g (i*2) (n+1-i) dc ⟨vb,0,none⟩ 1 1 C1.toArray 46 (cellsE [x]) Tryz.underlying37 hsz (by rw [hW];exact hW1) (by rw [cellsE_len];simp only [Nat.min_def];split <;> simp <;> omega)
   (fun j v hj=>by
    rw [plain_add,Nat.zero_add]
    have hb:W.heap[vb]?=w.heap[vb]?:=by rw [hW,setRow_other _ _ _ _ hvb];rfl
    exact (World.cell?_of_block (a:=⟨vb,j,none⟩) hb).trans (hv.cells j v hj))
   (by rw [cellsE_len];simp [hl1,hcs];omega) (cellsE_one _)
  rw [h,hC2]
 have HFin:Hid (∀ w',w'.heap=((w.drew.setRow g C1.toArray).setRow g C2.toArray).heap→w'.os=w.os→w'.tape=w.tape→w'.output=w.output→RowE w' g cap (xs.take i ++ x :: xs.drop i)∧w.grownBy w' (some g)):=by
  intro w' hw' h1 h2 h3
  rw [setRow_setRow] at hw'
  have hg':w.grownBy w' (some g):=⟨h1,h2,h3,by rw [hw',setRow_size];exact Nat.le_refl _,fun k hk hne=>by rw [hw',setRow_other _ _ _ _ fun e=>hne (by rw [e])];rfl⟩
  refine ⟨⟨⟨C2.toArray,by rw [hw'];exact setRow_heap w.drew g cur _ _ _ hcur,by rw [List.size_toArray,hl2,Array.length_toList,hcs],ht2⟩,by simp;omega,hR.2.2.1,fun y hy=>?_⟩,hg'⟩
  refine PlTy.grown ?_ hcur hg'
  rcases List.mem_append.1 hy with hy | hy
  ·exact hpl y (List.mem_of_mem_take hy)
  ·rcases List.mem_cons.1 hy with rfl | hy
   ·exact hx
   ·exact hpl y (List.mem_of_mem_drop hy)
 unfold Inserted
 rw [hnn] at hn hi hroom ⊢
 have hn':(n:Int)≤3000:=by omega
 have hi':(i:Int)<(n:Int):=by omega
 have hr':(n:Int)+1≤(cap:Int):=by omega
 have hz2 : ¬ ((i:Int)=(n:Int)):=by omega
 have hb2 : ¬ (cap=i+1):=by omega
 have hb4 : ¬ (cap=i):=by omega
 have hw1:IntKind.i64.wrap ((i:Int)+1)=(i:Int)+1:=by rw [IntKind.wrap_i64];omega
 have hb1:(0:Int)≤(i:Int)+1:=by omega
 have htn:((i:Int)+1).toNat=i+1:=by omega
 have hin:i≤n:=by omega
 have hb3:(i:Int)≤(n:Int)+1:=by omega
 clear hcm hpl hnn hl1 hl2 ht2 hC1 hC2 hlen hdl hW1 hcur hcs hct hR hx hv
 go_enter Tryz.func104,Tryz.ntmps104
 go_wp2_with (simp only [hov])
 go_region_law (refine step_copy_runI rfl _ _ 37 37 rfl _ _ (by simp [Act.eval,Act.put]) (by simp [Act.eval,Act.put]) (hcp1 _ _ _) ?_)
 go_wp2_with (at_builtin;refine wpList_copy_runI _ rfl _ _ 37 37 rfl _ _ rfl rfl (hcp2 _ rfl _ _) ?_)
 go_ret
 obtain ⟨h1,h2⟩:=HFin.out _ rfl rfl rfl rfl
 exact ⟨g,cap,rfl,h1,Nat.le_refl _,h2⟩
theorem zero_size (k:Nat):(Builtin.zeroCells (Value.agg #[.slice none 0 0,.int .i64 0]).cells k).size=k*2:=by
 simp [Builtin.zeroCells,Value.cells]
set_option maxHeartbeats 4000000 in
theorem insert_grow (g cap i vb:Nat) (xs:List EnL) (x:EnL) (w:World) (hn:xs.length≤3000) (hi:i<xs.length) (hroom:cap<xs.length+1) (hR:RowE w g cap xs) (hx:PlTy w x.A x.c x.e.pl) (hv:OneE w vb x) :
  Calls Tryz.prog 104 #[.slice (some ⟨g,0,none⟩) xs.length cap,.int .i64 i,.slice (some ⟨vb,0,none⟩) 1 1] w fun e w'=>Inserted w g i xs x e w':=by
 obtain ⟨i0,hi0,hz0,hz1,hz2⟩:=info_parts Tryz.infoEnt
 have hsz:(Tryz.prog.info? 46).map (·.size)=some 2:=by rw [hi0];simp [hz1]
 have hcm:=hR.2.2.1
 unfold maxLen at hcm
 have hnc:=hR.2.1
 have hgw:g<w.heap.size:=hR.lt
 have hvw:vb<w.heap.size:=(Array.getElem?_eq_some_iff.1 hv).1
 obtain ⟨n,hnn⟩:∃ n,xs.length=n:=⟨_,rfl⟩
 rw [hnn] at hn hi hroom hnc
 have hdl:(cellsE (xs.drop i)).length=(n-i)*2:=by rw [cellsE_len,List.length_drop,hnn]
 have htl:(cellsE (xs.take i)).length=i*2:=by rw [cellsE_len,List.length_take,hnn,Nat.min_eq_left (by omega)]
 have hkk:(n:Int)+1-(i:Int)=((n+1-i:Nat):Int):=by omega
 have hik:i+(n+1-i)=n+1:=by omega
 have hold:(Builtin.firstCells i0.size i (.slice (some ⟨g,0,none⟩) i cap)).run Tryz.prog w.drew=.ok (cellsE (xs.take i)).toArray w.drew:=by
  rw [hz1]
  exact run_firstCells_some w.drew 2 i ⟨g,0,none⟩ i cap (cellsE (xs.take i)) htl (fun j v hj=>by
   rw [plain_add,Nat.zero_add]
   rw [←cellsE_take,List.getElem?_take] at hj
   split at hj
   ·exact hR.cells j v hj
   ·cases hj)
 obtain ⟨G,hG⟩:∃ G,G=grownCap w (n+1) cap 46:=⟨_,rfl⟩
 obtain ⟨ROW,hROW⟩:∃ ROW:Array Value,ROW=(cellsE (xs.take i)).toArray ++ Builtin.zeroCells (Value.agg #[.slice none 0 0,.int .i64 0]).cells (n+1-i) ++ Builtin.zeroCells (Value.agg #[.slice none 0 0,.int .i64 0]).cells (G-(n+1)):=⟨_,rfl⟩
 have hrz:∀ ty,(Builtin.append_ #[37,3] ty #[.slice (some ⟨g,0,none⟩) i cap,.int .i64 ((n:Int)+1-(i:Int))]).run Tryz.prog w=.ok (.slice (some ⟨w.heap.size,0,none⟩) (n+1) G) (w.drew.alloc (.cells ROW 46)):=fun ty=>by
  have h:=Lib.run_append_grow_zeros w 37 3 ty 46 i0 _ .i64 .i64 Tryz.underlying37 Tryz.underlying3 hi0 hz0 (some ⟨g,0,none⟩) i cap (cellsE (xs.take i)) hold (n+1-i) (by omega) (by omega) (by omega) (by omega) (by rw [hz2];omega) (by rw [hz2,hik];exact growslice_fits hroom (by omega))
  rw [hik] at h
  rw [hkk,hROW,hG]
  exact h
 have hGn:n+1≤G:=by rw [hG];exact grownCap_ge w _ _ _
 have hG63:G≤maxLen:=by
  rw [hG]
  exact grownCap_le_maxLen w (n+1) cap 46 (by unfold maxLen;omega)
 have hRs:ROW.size=G*2:=by
  rw [hROW,Array.size_append,Array.size_append,zero_size,zero_size,List.size_toArray,htl]
  omega
 obtain ⟨C1,hC1⟩:∃ C1,C1=ROW.toList.take (i*2) ++ cellsE [x] ++ ROW.toList.drop (i*2+(cellsE [x]).length):=⟨_,rfl⟩
 obtain ⟨C2,hC2⟩:∃ C2,C2=C1.take ((i+1)*2) ++ cellsE (xs.drop i) ++ C1.drop ((i+1)*2+(cellsE (xs.drop i)).length):=⟨_,rfl⟩
 have hRl:ROW.toList.length=G*2:=by simpa using hRs
 have hRt:ROW.toList.take (i*2)=cellsE (xs.take i):=by
  rw [hROW,Array.toList_append,Array.toList_append,List.append_assoc]
  exact take_join htl
 obtain ⟨hl2,ht2⟩:=grow_cells (xs:=xs) (x:=x) (i:=i) hRt (by rw [hRl,hnn];omega) (by omega) hC1 hC2
 have hx2:(cellsE [x]).length=2:=by rw [cellsE_len];rfl
 have hl1:C1.length=G*2:=by
  rw [hC1]
  simp only [List.length_append,List.length_take,List.length_drop,hx2,hRl]
  omega
 have hW1:(w.drew.alloc (.cells ROW 46)).heap[w.heap.size]?=some (.cells ROW 46 (0,0)):=heap_alloc_new w.drew _
 have hOld:∀ k,k<w.heap.size→(w.drew.alloc (.cells ROW 46)).heap[k]?=w.heap[k]?:=fun k hk=>Below.heap_alloc w.drew _ k hk
 have hcpA:∀ (W:World),W.heap=(w.drew.alloc (.cells ROW 46)).heap→∀ ty dc,(Builtin.copy_ #[37,37] ty #[.slice (some ⟨w.heap.size,i*2,none⟩) (n+1-i) dc,.slice (some ⟨vb,0,none⟩) 1 1]).run Tryz.prog W=.ok (goInt (Nat.min 1 (n+1-i))) (W.setRow w.heap.size C1.toArray):=fun W hW ty dc=>by
  have h:=run_copy_k (P:=Tryz.prog) 2 W _ 37 ty 46 w.heap.size (i*2) (n+1-i) dc ⟨vb,0,none⟩ 1 1 ROW 46 (cellsE [x]) Tryz.underlying37 hsz (by rw [hW];exact hW1) (by rw [hx2];simp only [Nat.min_def];split <;> omega)
   (fun j v hj=>by
    rw [plain_add,Nat.zero_add]
    have hb:W.heap[vb]?=w.heap[vb]?:=by rw [hW];exact hOld vb hvw
    exact (World.cell?_of_block (a:=⟨vb,j,none⟩) hb).trans (hv.cells j v hj))
   (by rw [hx2,hRs];omega) (cellsE_one _)
  rw [h,hC1]
 have hW2:((w.drew.alloc (.cells ROW 46)).setRow w.heap.size C1.toArray).heap[w.heap.size]?=some (.cells C1.toArray 46 (0,0)):=setRow_heap _ _ ROW _ _ _ hW1
 have hcpB:∀ (W:World),W.heap=((w.drew.alloc (.cells ROW 46)).setRow w.heap.size C1.toArray).heap→∀ ty dc sc,(Builtin.copy_ #[37,37] ty #[.slice (some ⟨w.heap.size,(i+1)*2,none⟩) (n-i) dc,.slice (some ⟨g,i*2,none⟩) (n-i) sc]).run Tryz.prog W=.ok (goInt (Nat.min (n-i) (n-i))) (W.setRow w.heap.size C2.toArray):=fun W hW ty dc sc=>by
  have h:=run_copy_k (P:=Tryz.prog) 2 W _ 37 ty 46 w.heap.size ((i+1)*2) (n-i) dc ⟨g,i*2,none⟩ (n-i) sc C1.toArray 46 (cellsE (xs.drop i)) Tryz.underlying37 hsz (by rw [hW];exact hW2) (by rw [hdl];simp only [Nat.min_def];split <;> omega)
   (fun j v hj=>by
    rw [plain_add]
    have hb:W.heap[g]?=w.heap[g]?:=by rw [hW,setRow_other _ _ _ _ (Nat.ne_of_lt hgw)];exact hOld g hgw
    refine (World.cell?_of_block (a:=⟨g,i*2+j,none⟩) hb).trans (hR.cells (i*2+j) v ?_)
    rw [←cellsE_drop,List.getElem?_drop] at hj
    exact hj)
   (by rw [hdl,List.size_toArray,hl1];omega) (cellsE_one _)
  rw [h,hC2]
 have HFin:Hid (∀ w',w'.heap=(((w.drew.alloc (.cells ROW 46)).setRow w.heap.size C1.toArray).setRow w.heap.size C2.toArray).heap→w'.os=w.os→w'.tape=w.tape→w'.output=w.output→RowE w' w.heap.size G (xs.take i ++ x :: xs.drop i)∧w.grownBy w' (some g)):=by
  intro w' hw' h1 h2 h3
  rw [setRow_setRow] at hw'
  have hB:Below w.heap.size w w':=⟨h1,h2,h3,by rw [hw',setRow_size];show w.heap.size≤(w.alloc _).heap.size;simp,fun k hk=>by rw [hw',setRow_other _ _ _ _ (Nat.ne_of_lt hk)];exact hOld k hk⟩
  refine ⟨⟨⟨C2.toArray,by rw [hw'];exact setRow_heap _ _ ROW _ _ _ hW1,by rw [List.size_toArray,hl2,hRl],ht2⟩,by simp;omega,hG63,fun y hy=>?_⟩,grown_below hB⟩
  refine PlTy.later ?_ hB
  rcases List.mem_append.1 hy with hy | hy
  ·exact hR.2.2.2 y (List.mem_of_mem_take hy)
  ·rcases List.mem_cons.1 hy with rfl | hy
   ·exact hx
   ·exact hR.2.2.2 y (List.mem_of_mem_drop hy)
 have hE1:((w.alloc (.cells ROW 46)).drew).heap=(w.drew.alloc (.cells ROW 46)).heap:=rfl
 have hF1:(((w.alloc (.cells ROW 46)).drew.setRow w.heap.size C1.toArray).drew).heap=((w.drew.alloc (.cells ROW 46)).setRow w.heap.size C1.toArray).heap:=rfl
 unfold Inserted
 rw [hnn]
 unfold maxLen at hG63
 have hn':(n:Int)≤3000:=by omega
 have hi':(i:Int)<(n:Int):=by omega
 have hr':(cap:Int)<(n:Int)+1:=by omega
 have hne : ¬ ((i:Int)=(n:Int)):=by omega
 have hGi : ¬ (G=i):=by omega
 have hGim : ¬ (G=i+1):=by omega
 have hci : ¬ (cap=i):=by omega
 have hw1:IntKind.i64.wrap ((i:Int)+1)=(i:Int)+1:=by rw [IntKind.wrap_i64];omega
 have hb1:(0:Int)≤(i:Int)+1:=by omega
 have htn:((i:Int)+1).toNat=i+1:=by omega
 have hin:i≤n:=by omega
 have hb3:(i:Int)≤(n:Int)+1:=by omega
 have hgl:g≤w.heap.size:=Nat.le_of_lt hgw
 clear hnn hl1 hl2 ht2 hC1 hC2 hdl htl hW1 hW2 hR hx hv hkk hik hold hROW hG hRs hRl hRt hx2 hOld
 go_enter Tryz.func104,Tryz.ntmps104
 go_wp2_with (first
  | (at_builtin;refine Lib.wpList_append_run _ rfl _ _ _ _ rfl _ _ rfl rfl _ _ (hrz _) ?_)
  | (at_builtin;refine wpList_copy_runI _ rfl _ _ 37 37 rfl _ _ rfl rfl (hcpA _ hE1 _ _) ?_))
 go_region_law (refine step_copy_runI rfl _ _ 37 37 rfl (.slice (some ⟨w.heap.size,(i+1)*2,none⟩) (n-i) (G-(i+1))) (.slice (some ⟨g,i*2,none⟩) (n-i) (cap-i)) (by simp [Act.eval,Act.put]) (by simp [Act.eval,Act.put]) (hcpB _ hF1 3 (G-(i+1)) (cap-i)) ?_)
 go_wp2_with fail
 go_ret
 obtain ⟨h1,h2⟩:=HFin.out (((w.alloc (.cells ROW 46)).drew.setRow w.heap.size C1.toArray).drew.setRow w.heap.size C2.toArray) rfl rfl rfl rfl
 exact ⟨w.heap.size,G,rfl,h1,hgl,h2⟩
theorem insert_any (g cap i vb:Nat) (xs:List EnL) (x:EnL) (w:World) (hn:xs.length≤3000) (hi:i≤xs.length) (hvb:vb≠g) (hR:RowE w g cap xs) (hx:PlTy w x.A x.c x.e.pl) (hv:OneE w vb x) :
  Calls Tryz.prog 104 #[.slice (some ⟨g,0,none⟩) xs.length cap,.int .i64 i,.slice (some ⟨vb,0,none⟩) 1 1] w fun e w'=>Inserted w g i xs x e w':=by
 rcases Nat.eq_or_lt_of_le hi with rfl | hlt
 ·exact insert_end g cap vb xs x w hn hR hx hv
 ·rcases Nat.lt_or_ge cap (xs.length+1) with hc | hc
  ·exact insert_grow g cap i vb xs x w hn hlt hc hR hx hv
  ·exact insert_shift g cap i vb xs x w hn hlt hc hvb hR hx hv
end Go.Proofs.YtfngmnhkhfgmjagGreatDoor
namespace Go.Proofs.YtfngmnhkhfgmjagGreatDoor
open Go.ChangeShapes Go.WideShapes Go.ChangeAt Go.RowKit Go.Lib
set_option maxRecDepth 20000
theorem RowE.put {w:World} {g cap:Nat} {zs:List EnL} (h:RowE w g cap zs) (hk:zs.length<cap) {x:EnL} (hx:PlTy w x.A x.c x.e.pl):RowE ((w.setCell ⟨g,zs.length*2,none⟩ (.slice x.A x.e.pl.length x.c)).setCell ⟨g,zs.length*2+1,none⟩ (.int .i64 x.e.n)) g cap (zs ++ [x])∧w.grownBy ((w.setCell ⟨g,zs.length*2,none⟩ (.slice x.A x.e.pl.length x.c)).setCell ⟨g,zs.length*2+1,none⟩ (.int .i64 x.e.n)) (some g):=by
 obtain ⟨⟨cur,h1,h2,h3⟩,h4,h5,h6⟩:=id h
 have e:(w.setCell ⟨g,zs.length*2,none⟩ (.slice x.A x.e.pl.length x.c)).setCell ⟨g,zs.length*2+1,none⟩ (.int .i64 x.e.n)=w.setCells g (zs.length*2) (cellsE [x]):=rfl
 have hx2:(cellsE [x]).length=2:=by rw [cellsE_len];rfl
 have hl:cur.toList.length=cap*2:=by simpa using h2
 rw [e,setCells_row g 46 (cellsE [x]) (zs.length*2) cur w h1 (by rw [hx2];omega)]
 refine ⟨h.lay ?_ ?_ (by simp;omega) fun y hy=>?_,grown_setRow ..⟩
 ·simp only [List.length_append,List.length_take,List.length_drop,hx2,hl]
  omega
 ·rw [cellsE_append,h3]
  exact take_join (by simp only [List.length_append,cellsE_len,List.length_cons,List.length_nil];omega)
 ·rcases List.mem_append.1 hy with hy | hy
  ·exact h6 y hy
  ·rw [List.mem_singleton.1 hy];exact hx
theorem grown_set {w w':World} {g:Nat} (h:w.grownBy w' (some g)) (o:Nat) (v:Value):w.grownBy (w'.setCell ⟨g,o,none⟩ v) (some g) :=
 ⟨h.os,h.tape,h.output,by simpa using h.size,fun i hi hr=>(Below.heap_setCell w' ⟨g,o,none⟩ v i fun e=>hr (by rw [e])).trans (h.block i hi hr)⟩
theorem grown_new {w w':World} {r:Option Nat} (h:w.grownBy w' r) (o:Obj):w.grownBy (w'.alloc o) r :=
 ⟨h.os,h.tape,h.output,by have:=h.size;simp;omega,fun i hi hr=>(Below.heap_alloc w' o i (Nat.lt_of_lt_of_le hi h.size)).trans (h.block i hi hr)⟩
theorem keepG {W w':World} {g q:Nat} {u v:Value} (h:q<W.heap.size∧q≠g∧W.cell? ⟨q,0,none⟩=some u∧W.cell? ⟨q,1,none⟩=some v) (hG:W.grownBy w' (some g)):W.grownBy w' (some g)∧w'.cell? ⟨q,0,none⟩=some u∧w'.cell? ⟨q,1,none⟩=some v:=by
 have hb:w'.heap[q]?=W.heap[q]?:=hG.block q h.1 fun e=>h.2.1 (by simpa using e)
 exact ⟨hG,(World.cell?_of_block (a:=⟨q,0,none⟩) hb).trans h.2.2.1,(World.cell?_of_block (a:=⟨q,1,none⟩) hb).trans h.2.2.2⟩
set_option maxHeartbeats 8000000 in
theorem fresh_new (AE:Option Addr) (ce:Nat) (xs:List EnL) (w:World) (hn:xs.length≤3000) (hS:∀ k,k<xs.length→(xs.getD k noL).e.pl.length≤4) (hE:EnsV w AE ce xs) :
  Calls Tryz.prog 69 #[.slice AE xs.length ce] w fun e w'=>(∃ ys,e=.returned (.slice (some ⟨w.heap.size,0,none⟩) xs.length xs.length)∧RowE w' w.heap.size xs.length ys∧lE ys=lE xs∧NewE w.heap.size ys)∧Below w.heap.size w w':=by
 obtain ⟨i0,hi0,hz0,hz1,hz2⟩:=info_parts Tryz.infoEnt
 have HE:Hid (EnsV w AE ce xs):=hE
 have HS:Hid (∀ k,k<xs.length→(xs.getD k noL).e.pl.length≤4):=hS
 obtain ⟨n,hnn⟩:∃ n,xs.length=n:=⟨_,rfl⟩
 have HN:Hid (xs.length=n):=hnn
 rw [hnn] at hn ⊢
 have hmk:∀ w',(Instr.makeSlice 37 (.int .i64 n) (.int .i64 n)).run Tryz.prog w'=.ok (.slice (some ⟨w'.heap.size,0,none⟩) n n) (w'.alloc (.cells (madeCells (Value.agg #[.slice none 0 0,.int .i64 0]).cells (n*2)) 46)):=fun w'=>by
  have h:=run_make (P:=Tryz.prog) w' 37 46 i0 _ Tryz.underlying37 hi0 hz0 .i64 .i64 n n (by omega) (Int.le_refl _) (by rw [hz2];omega) (by omega)
  rw [hz1] at h
  simpa using h
 have HR0:Hid (RowE (w.alloc (.cells (madeCells (Value.agg #[.slice none 0 0,.int .i64 0]).cells (n*2)) 46)) w.heap.size n []):=⟨⟨_,heap_alloc_new w _,size_madeCells _ _,by simp [cellsE]⟩,Nat.zero_le _,by unfold maxLen;omega,fun x hx=>by cases hx⟩
 have hn':(n:Int)≤3000:=by omega
 clear hE hS hnn
 go_enter Tryz.func69,Tryz.ntmps69
 go_wp2_with fail
 clear hmk
 go_loopg [11] n (fun g s11 wr => ∃ (k:Nat) (zs:List EnL),k≤n∧g=n-k∧s11=.int .i64 k∧zs.length=k∧Hid (lE zs=(lE xs).take k∧NewE w.heap.size zs)∧RowE wr w.heap.size n zs∧Below w.heap.size w wr)
 case atStart=>exact ⟨0,[],Nat.zero_le _,rfl,rfl,rfl,(⟨by simp [lE],fun _ h=>by cases h⟩:lE []=(lE xs).take 0∧NewE w.heap.size []),HR0.out,by go_grown⟩
 case round =>
  obtain ⟨k,zs,hk,rfl,rfl,hzl,HZ,hRow,hBw⟩:=hrel
  have HRow:Hid (RowE wr w.heap.size n zs):=hRow
  have HBw:Hid (Below w.heap.size w wr):=hBw
  have HZL:Hid (zs.length=k):=hzl
  by_cases hlt:k<n
  ·have hkx:k<xs.length:=by rw [HN.out];exact hlt
   have hki:(k:Int)<(n:Int):=by omega
   obtain ⟨-,-,h0 | ⟨b,o,rfl,hEs⟩⟩:=HE.out.later hBw
   ·have:=HN.out;rw [h0] at this;simp at this;omega
   obtain ⟨c1,c2⟩:=hEs.at hkx
   have HCl:Hid (∀ w',Below wr.heap.size wr w'→Calls Tryz.prog 105 #[.slice (xs.getD k noL).A (xs.getD k noL).e.pl.length (xs.getD k noL).c] w' fun e w''=>(∃ A' c',e=.returned (.slice A' (xs.getD k noL).e.pl.length c')∧PlTy w'' A' c' (xs.getD k noL).e.pl∧NewA w.heap.size A')∧Below w'.heap.size w' w''):=fun w' hw'=>(clone_new _ _ _ w' (HS.out k hkx) ((hEs.pl hkx).later hw')).mono fun _ _ ⟨⟨A',c',h1,h2,h3⟩,h4⟩=>⟨⟨A',c',h1,h2,h3.le (Nat.le_trans HBw.out.size hw'.size)⟩,h4⟩
   have hBo:=ownEn_below wr (xs.getD k noL).A (xs.getD k noL).e.pl.length (xs.getD k noL).c (xs.getD k noL).e.n 46
   have HBo:Hid (Below wr.heap.size wr (ownEn wr (xs.getD k noL).A (xs.getD k noL).e.pl.length (xs.getD k noL).c (xs.getD k noL).e.n 46)):=hBo
   have hzo:=ownEn_size wr (xs.getD k noL).A (xs.getD k noL).e.pl.length (xs.getD k noL).c (xs.getD k noL).e.n 46
   have ho0:=ownEn_0 wr (xs.getD k noL).A (xs.getD k noL).e.pl.length (xs.getD k noL).c (xs.getD k noL).e.n 46
   have ho1:=ownEn_1 wr (xs.getD k noL).A (xs.getD k noL).e.pl.length (xs.getD k noL).c (xs.getD k noL).e.n 46
   have HLE:Hid ((lE xs).take (k+1)=(lE xs).take k ++ [(xs.getD k noL).e]):=by
    show _=_
    rw [List.take_succ_eq_append_getElem (by rw [lE_len];exact hkx),←lE_at,List.getD_eq_getElem?_getD,List.getElem?_eq_getElem (by rw [lE_len];exact hkx)]
    rfl
   have hwg:w.heap.size<wr.heap.size:=hRow.lt
   generalize xs.getD k noL=x at c1 c2 HCl HBo hzo ho0 ho1 HLE
   clear hEs hBo hRow hBw hzl
   have HPut:Hid (∀ (w3:World) (A':Option Addr) (c':Nat),RowE w3 w.heap.size n zs→PlTy w3 A' c' x.e.pl→RowE ((w3.setCell ⟨w.heap.size,k*2,none⟩ (.slice A' x.e.pl.length c')).setCell ⟨w.heap.size,k*2+1,none⟩ (.int .i64 x.e.n)) w.heap.size n (zs ++ [⟨x.e,A',c'⟩])∧w3.grownBy ((w3.setCell ⟨w.heap.size,k*2,none⟩ (.slice A' x.e.pl.length c')).setCell ⟨w.heap.size,k*2+1,none⟩ (.int .i64 x.e.n)) (some w.heap.size)):=fun w3 A' c' h1 h2=>by
    have h3:=h1.put (by rw [HZL.out];exact hlt) (x:=⟨x.e,A',c'⟩) h2
    rw [HZL.out] at h3
    exact h3
   have HLN:Hid (∀ A' c',NewA w.heap.size A'→lE (zs ++ [⟨x.e,A',c'⟩])=(lE xs).take (k+1)∧NewE w.heap.size (zs ++ [⟨x.e,A',c'⟩])):=fun A' c' hn'=>⟨by rw [lE_append,HZ.out.1,HLE.out];rfl,fun y hy=>by
    rcases List.mem_append.1 hy with hy | hy
    ·exact HZ.out.2 y hy
    ·rw [List.mem_singleton.1 hy];exact hn'⟩
   generalize hxl:x.e.pl.length=m at c1 HCl HBo hzo ho0 ho1 HPut
   generalize x.e.n=N at c2 HBo hzo ho0 ho1 HPut
   clear hxl HLE
   go_wp2_with fail
   obtain ⟨W2,hW2⟩:∃ W2,wr.alloc (.cells #[.slice x.A m x.c,.int .i64 N] 46)=W2:=⟨_,rfl⟩
   have hBo:Below wr.heap.size wr W2:=by rw [←hW2];exact HBo.out
   have hz2:wr.heap.size<W2.heap.size:=by rw [←hW2];show _<(ownEn wr x.A m x.c N 46).heap.size;rw [hzo];omega
   have HBox:Hid (wr.heap.size<W2.heap.size∧wr.heap.size≠w.heap.size∧W2.cell? ⟨wr.heap.size,0,none⟩=some (.slice x.A m x.c)∧W2.cell? ⟨wr.heap.size,1,none⟩=some (.int .i64 N)):=by rw [←hW2];exact ⟨by rw [hW2];exact hz2,by omega,ho0,ho1⟩
   have HB2:Hid (Below wr.heap.size wr W2):=hBo
   have HRow2:Hid (RowE W2 w.heap.size n zs):=HRow.out.later hBo
   rw [hW2]
   clear hW2 hBo hzo ho0 ho1 HBo c1 c2
   go_region_held3 (fun w'=>W2.grownBy w' (some w.heap.size)∧w'.cell? ⟨wr.heap.size,0,none⟩=some (.slice x.A m x.c)∧w'.cell? ⟨wr.heap.size,1,none⟩=some (.int .i64 N))
    ((refine keepG HBox.out ?_;(repeat (first | exact grown_refl _ _ | assumption | refine grown_drew ?_ | refine grown_set ?_ _ _));done))
    (first | (go_at_call 105;refine (HCl.out _ (onB HB2.out (by go_grown))).mono ?_;rintro e w3 ⟨⟨A',c',rfl,hPT,hNw⟩,hb3⟩;have hN3:=onB (W0:=W2) (by go_grown) hb3;have HNw:Hid (NewA w.heap.size A'):=hNw;clear hNw;have hG3:W2.grownBy w3 (some w.heap.size):=grown_below hN3;have HB3:Hid (Below W2.heap.size W2 w3):=hN3;have HPT:Hid (PlTy w3 A' c' x.e.pl):=hPT;obtain ⟨u0,d0⟩:=Option.isSome_iff_exists.1 ((HRow2.out.later hN3).full (j:=k*2) (by omega));obtain ⟨u1,d1⟩:=Option.isSome_iff_exists.1 ((HRow2.out.later hN3).full (j:=k*2+1) (by omega));have f0:=(HRow2.out.later hN3).frozen (k*2);have f1:=(HRow2.out.later hN3).frozen (k*2+1);clear hb3 hN3 hPT))
   clear d0 d1 f0 f1 hG3
   go_wp2_with fail
   go_roundg (n-(k+1))
   case measure=>omega
   case rel =>
    obtain ⟨h1,h2⟩:=HPut.out w3 A' c' (HRow2.out.later HB3.out) HPT.out
    refine ⟨k+1,_,by omega,rfl,by go_num,?_,HLN.out A' c' HNw.out,h1,?_⟩
    ·rw [List.length_append,HZL.out];rfl
    ·exact below_grown (onB HBw.out (onB HB2.out HB3.out)) h2 (onB HBw.out (onB HB2.out HB3.out)).size (Nat.le_refl _)
  ·have hke:k=n:=by omega
   subst hke
   have HFin:Hid (lE zs=lE xs∧NewE w.heap.size zs):=⟨by rw [HZ.out.1,List.take_of_length_le (by rw [lE_len,HN.out];exact Nat.le_refl _)],HZ.out.2⟩
   clear hRow hBw hzl
   go_wp2_with fail
   go_ret
   exact ⟨⟨zs,rfl,HRow.out,HFin.out⟩,HBw.out⟩
theorem fresh_any (AE:Option Addr) (ce:Nat) (xs:List EnL) (w:World) (hn:xs.length≤3000) (hS:∀ k,k<xs.length→(xs.getD k noL).e.pl.length≤4) (hE:EnsV w AE ce xs) :
  Calls Tryz.prog 69 #[.slice AE xs.length ce] w fun e w'=>(∃ ys,e=.returned (.slice (some ⟨w.heap.size,0,none⟩) xs.length xs.length)∧RowE w' w.heap.size xs.length ys∧lE ys=lE xs)∧Below w.heap.size w w' :=
 (fresh_new AE ce xs w hn hS hE).mono fun _ _ ⟨⟨ys,h1,h2,h3,_⟩,h4⟩=>⟨⟨ys,h1,h2,h3⟩,h4⟩
def Edited (M:Nat) (w:World) (g:Nat) (E:Int) (l:List En) (e:Ending) (w':World):Prop :=
 (∃ B c ys,e=.returned (.tuple #[.slice B ys.length c,errV E])∧((E≠0∧B=none∧c=0∧ys=[])∨(E=0∧∃ g',B=some ⟨g',0,none⟩∧g≤g'∧RowE w' g' c ys∧lE ys=l∧NewE M ys)))∧w.grownBy w' (some g)
theorem edit_set (D:Nat→Dm) (n:Nat) (l:List En) (p:List Int) (N:Int):editErr D n l ⟨p,N,false⟩=entOne D n ⟨p,N⟩:=by
 unfold editErr entOne
 rfl
set_option maxHeartbeats 8000000 in
theorem iset1_any {M:Nat} (A0:Option Addr) (cap n:Nat) (D:Nat→Dm) (A:Nat→Option Addr) (C:Nat→Nat) (g cg:Nat) (xs:List EnL) (Ap:Option Addr) (cp:Nat) (p:List Int) (N:Int) (w:World) (hM:DimsV w A0 cap n D A C) (hP:PlAt w Ap cp p) (hR:RowE w g cg xs) (hEs:Ens D n (lE xs)) (hMx:NewE M xs) (hMw:M≤w.heap.size) :
  Calls Tryz.prog 68 #[.agg #[.slice A0 n cap],.slice (some ⟨g,0,none⟩) xs.length cg,.agg #[.slice Ap p.length cp,.int .i64 N]] w fun e w'=>Edited M w g (editErr D n (lE xs) ⟨p,N,false⟩) (setL (lE xs) p N) e w':=by
 rw [edit_set]
 have hB0:=ownOE_below w A0 n cap Ap p.length cp N
 have h:=icheck1_any A0 cap n D A C Ap cp ⟨p,N⟩ (ownOE w A0 n cap Ap p.length cp N) hEs.right (hM.later hB0) (hP.later hB0)
 have HB0:Hid (Below w.heap.size w (ownOE w A0 n cap Ap p.length cp N)):=hB0
 have hS0:=ownOE_size w A0 n cap Ap p.length cp N
 have h00:=ownOE_0 w A0 n cap Ap p.length cp N
 have h01:=ownOE_1 w A0 n cap Ap p.length cp N
 have HP:Hid (PlAt w Ap cp p):=hP
 have HR:Hid (RowE w g cg xs):=hR
 have HEs:Hid (Ens D n (lE xs)):=hEs
 have hgw:g<w.heap.size:=hR.lt
 have hfew:=few_of hEs
 unfold Edited
 clear hM hP hB0 hR
 by_cases he:entOne D n ⟨p,N⟩=0
 ·obtain ⟨hI,-,-⟩:=entOne_right hEs.right he
  have HF:Hid (∀ w',Below w.heap.size w w'→Calls Tryz.prog 103 #[.slice (some ⟨g,0,none⟩) xs.length cg,.slice Ap p.length cp] w' fun e w''=>e=.returned (.tuple #[.int .i64 (cntE (lE xs) p:Nat),.bool (hasE (lE xs) p)])∧Below w'.heap.size w' w''):=fun w' hw'=>ifind_any _ _ xs Ap cp p w' hfew ((HR.out.later hw').ensV) HEs.out.rise (short_of HEs.out hI) (HP.out.later hw')
  have HCl:Hid (∀ w',Below w.heap.size w w'→Calls Tryz.prog 105 #[.slice Ap p.length cp] w' fun e w''=>(∃ A' c',e=.returned (.slice A' p.length c')∧PlTy w'' A' c' p∧NewA M A')∧Below w'.heap.size w' w''):=fun w' hw'=>(clone_new _ _ _ w' (inO_short hI) (HP.out.later hw')).mono fun _ _ ⟨⟨A',c',h1,h2,h3⟩,h4⟩=>⟨⟨A',c',h1,h2,h3.le (Nat.le_trans hMw hw'.size)⟩,h4⟩
  have hcl:=cnt_le (lE xs) p
  rw [lE_len] at hcl
  rw [he,errV_zero] at h ⊢
  clear he hI
  cases hh:hasE (lE xs) p
  ·-- nothing stood there
   have HIn:Hid (∀ (w3:World) (A':Option Addr) (c':Nat),Below w.heap.size w w3→PlTy w3 A' c' p∧NewA M A'→Calls Tryz.prog 104 #[.slice (some ⟨g,0,none⟩) xs.length cg,.int .i64 (cntE (lE xs) p:Nat),.slice (some ⟨w3.heap.size,0,none⟩) 1 1] (ownEn w3 A' p.length c' N 46) fun e w' => ∃ g' cap' ys,e=.returned (.slice (some ⟨g',0,none⟩) (xs.length+1) cap')∧ys.length=xs.length+1∧RowE w' g' cap' ys∧lE ys=setL (lE xs) p N∧NewE M ys∧g≤g'∧(ownEn w3 A' p.length c' N 46).grownBy w' (some g)):=fun w3 A' c' hw' hT=>by
    have hb:=ownEn_below w3 A' p.length c' N 46
    have h1:=insert_any g cg (cntE (lE xs) p) w3.heap.size xs ⟨⟨p,N⟩,A',c'⟩ (ownEn w3 A' p.length c' N 46) hfew hcl (by have:=hw'.size;omega) ((HR.out.later hw').later hb) (hT.1.later hb) (heap_alloc_new w3 _)
    refine h1.mono ?_
    rintro e w' ⟨g',cap',rfl,hRow,hgg,hgr⟩
    exact ⟨g',cap',_,rfl,by simp;omega,hRow,by rw [lE_ins,set_new hh],hMx.put hT.2,hgg,hgr⟩
   have HFF:Hid (∀ w',Below w.heap.size w w'→Calls Tryz.prog 103 #[.slice (some ⟨g,0,none⟩) xs.length cg,.slice Ap p.length cp] w' fun e w''=>e=.returned (.tuple #[.int .i64 (cntE (lE xs) p:Nat),.bool false])∧Below w'.heap.size w' w''):=fun w' hw'=>by have h1:=HF.out w' hw';rw [hh] at h1;exact h1
   clear HF hh
   generalize cntE (lE xs) p=i at HFF HIn hcl
   obtain ⟨m,hm⟩:∃ m,p.length=m:=⟨_,rfl⟩
   obtain ⟨nx,hnx⟩:∃ nx,xs.length=nx:=⟨_,rfl⟩
   rw [hm] at h HB0 hS0 h00 h01 HCl HFF HIn ⊢
   rw [hnx] at HFF HIn hfew hcl ⊢
   clear hm hnx
   go_enter Tryz.func68,Tryz.ntmps68
   go_wp2_with fail
   refine h.mono ?_
   rintro e w1 ⟨rfl,hb1⟩
   have hB1:Below w.heap.size w w1:=onB HB0.out hb1
   have HB1:Hid (Below w.heap.size w w1):=hB1
   have c0:w1.cell? ⟨w.heap.size+1,0,none⟩=some (.slice Ap m cp):=(hb1.cell (p:=⟨w.heap.size+1,0,none⟩) (by show w.heap.size+1<_;omega)).trans h00
   have c1:w1.cell? ⟨w.heap.size+1,1,none⟩=some (.int .i64 N):=(hb1.cell (p:=⟨w.heap.size+1,1,none⟩) (by show w.heap.size+1<_;omega)).trans h01
   have hz1:w.heap.size+1<w1.heap.size:=by have:=hb1.size;omega
   have h2:=HFF.out w1 hB1
   clear hb1 h hB1 h00 h01 hS0
   go_wp2_with fail
   refine h2.mono ?_
   rintro e w2 ⟨rfl,hb2⟩
   have HB2:Hid (Below w.heap.size w w2):=onB HB1.out hb2
   have d0:w2.cell? ⟨w.heap.size+1,0,none⟩=some (.slice Ap m cp):=(hb2.cell (p:=⟨w.heap.size+1,0,none⟩) hz1).trans c0
   have d1:w2.cell? ⟨w.heap.size+1,1,none⟩=some (.int .i64 N):=(hb2.cell (p:=⟨w.heap.size+1,1,none⟩) hz1).trans c1
   have HBox:Hid (w.heap.size+1<w2.heap.size∧w.heap.size+1≠g∧w2.cell? ⟨w.heap.size+1,0,none⟩=some (.slice Ap m cp)∧w2.cell? ⟨w.heap.size+1,1,none⟩=some (.int .i64 N)):=⟨Nat.lt_of_lt_of_le hz1 hb2.size,by omega,d0,d1⟩
   clear hb2 c0 c1 h2 d0 d1
   go_wp2_with fail
   go_region_held3 (fun w'=>w2.grownBy w' (some g)∧w'.cell? ⟨w.heap.size+1,0,none⟩=some (.slice Ap m cp)∧w'.cell? ⟨w.heap.size+1,1,none⟩=some (.int .i64 N))
    ((refine keepG HBox.out ?_;(repeat (first | exact grown_refl _ _ | assumption | refine grown_drew ?_ | refine grown_set ?_ _ _ | refine grown_new ?_ _));done))
    (first | (go_at_call 105;refine (HCl.out _ (onB HB2.out (by go_grown))).mono ?_;rintro e w3 ⟨⟨A',c',rfl,hPT,hNw⟩,hb3⟩;have hN3:=onB (W0:=w2) (by go_grown) hb3;have hG3:w2.grownBy w3 (some g):=grown_below hN3;have HB3:Hid (Below w2.heap.size w2 w3):=hN3;have HPT:Hid (PlTy w3 A' c' p∧NewA M A'):=⟨hPT,hNw⟩;clear hb3 hN3 hPT hNw) | (go_at_call 104;refine (HIn.out w3 A' c' (onB HB2.out HB3.out) HPT.out).mono ?_;rintro e w4 ⟨g',cap',ys,rfl,hyl,hRow,hle,hnw,hgg,hgr⟩;have hG4:w2.grownBy w4 (some g):=grown_trans (grown_trans hG3 (grown_below (ownEn_below ..))) hgr;have HRow:Hid (RowE w4 g' cap' ys):=hRow;have HLE:Hid (lE ys=setL (lE xs) p N∧NewE M ys):=⟨hle,hnw⟩;have HYL:Hid (ys.length=nx+1):=hyl;clear hRow hle hgr hyl hnw))
   go_wp2_with fail
   go_ret2
   exact ⟨⟨some ⟨g',0,none⟩,cap',ys,by rw [HYL.out];rfl,Or.inr ⟨by trivial,g',rfl,hgg,HRow.out,HLE.out⟩⟩,grown_trans (grown_below HB2.out) hG4⟩
  ·-- something stood there
   obtain ⟨hso,hil,-⟩:=set_old hh N
   have HSN:Hid (∀ w',Below w.heap.size w w'→RowE (w'.setCell ⟨g,cntE (lE xs) p*2+1,none⟩ (.int .i64 N)) g cg (xs.set (cntE (lE xs) p) ⟨⟨(xs.getD (cntE (lE xs) p) noL).e.pl,N⟩,(xs.getD (cntE (lE xs) p) noL).A,(xs.getD (cntE (lE xs) p) noL).c⟩)∧w'.grownBy (w'.setCell ⟨g,cntE (lE xs) p*2+1,none⟩ (.int .i64 N)) (some g)):=fun w' hw'=>(HR.out.later hw').setN (by rw [lE_len] at hil;exact hil) N
   have HLE:Hid (lE (xs.set (cntE (lE xs) p) ⟨⟨(xs.getD (cntE (lE xs) p) noL).e.pl,N⟩,(xs.getD (cntE (lE xs) p) noL).A,(xs.getD (cntE (lE xs) p) noL).c⟩)=setL (lE xs) p N∧NewE M (xs.set (cntE (lE xs) p) ⟨⟨(xs.getD (cntE (lE xs) p) noL).e.pl,N⟩,(xs.getD (cntE (lE xs) p) noL).A,(xs.getD (cntE (lE xs) p) noL).c⟩)):=⟨by rw [lE_set,hso,lE_at],hMx.set (by rw [lE_len] at hil;exact hil) _ _⟩
   have HFF:Hid (∀ w',Below w.heap.size w w'→Calls Tryz.prog 103 #[.slice (some ⟨g,0,none⟩) xs.length cg,.slice Ap p.length cp] w' fun e w''=>e=.returned (.tuple #[.int .i64 (cntE (lE xs) p:Nat),.bool true])∧Below w'.heap.size w' w''):=fun w' hw'=>by have h1:=HF.out w' hw';rw [hh] at h1;exact h1
   have HYL:Hid ((xs.set (cntE (lE xs) p) ⟨⟨(xs.getD (cntE (lE xs) p) noL).e.pl,N⟩,(xs.getD (cntE (lE xs) p) noL).A,(xs.getD (cntE (lE xs) p) noL).c⟩).length=xs.length):=List.length_set
   rw [lE_len] at hil
   clear HF hh hso
   generalize xs.set (cntE (lE xs) p) ⟨⟨(xs.getD (cntE (lE xs) p) noL).e.pl,N⟩,(xs.getD (cntE (lE xs) p) noL).A,(xs.getD (cntE (lE xs) p) noL).c⟩=ys at HSN HLE HYL
   generalize cntE (lE xs) p=i at HFF HSN hcl hil
   obtain ⟨m,hm⟩:∃ m,p.length=m:=⟨_,rfl⟩
   obtain ⟨nx,hnx⟩:∃ nx,xs.length=nx:=⟨_,rfl⟩
   rw [hm] at h HB0 hS0 h00 h01 HCl HFF ⊢
   rw [hnx] at HFF hfew hcl hil HYL ⊢
   have hil':(i:Int)<(nx:Int):=by omega
   have hcg:nx≤cg:=by rw [←hnx];exact HR.out.2.1
   clear hm hnx HCl
   go_enter Tryz.func68,Tryz.ntmps68
   go_wp2_with fail
   refine h.mono ?_
   rintro e w1 ⟨rfl,hb1⟩
   have hB1:Below w.heap.size w w1:=onB HB0.out hb1
   have HB1:Hid (Below w.heap.size w w1):=hB1
   have c0:w1.cell? ⟨w.heap.size+1,0,none⟩=some (.slice Ap m cp):=(hb1.cell (p:=⟨w.heap.size+1,0,none⟩) (by show w.heap.size+1<_;omega)).trans h00
   have c1:w1.cell? ⟨w.heap.size+1,1,none⟩=some (.int .i64 N):=(hb1.cell (p:=⟨w.heap.size+1,1,none⟩) (by show w.heap.size+1<_;omega)).trans h01
   have hz1:w.heap.size+1<w1.heap.size:=by have:=hb1.size;omega
   have h2:=HFF.out w1 hB1
   clear hb1 h hB1 h00 h01 hS0
   go_wp2_with fail
   refine h2.mono ?_
   rintro e w2 ⟨rfl,hb2⟩
   have hB2:Below w.heap.size w w2:=onB HB1.out hb2
   have HB2:Hid (Below w.heap.size w w2):=hB2
   have d1:w2.cell? ⟨w.heap.size+1,1,none⟩=some (.int .i64 N):=(hb2.cell (p:=⟨w.heap.size+1,1,none⟩) hz1).trans c1
   obtain ⟨u,hu⟩:=Option.isSome_iff_exists.1 ((HR.out.later hB2).full (j:=i*2+1) (by omega))
   have hf:=(HR.out.later hB2).frozen (i*2+1)
   clear hb2 c0 c1 h2 hB2
   go_wp2_with fail
   go_ret2
   obtain ⟨r1,r2⟩:=HSN.out w2 HB2.out
   exact ⟨⟨some ⟨g,0,none⟩,cg,ys,by rw [HYL.out];rfl,Or.inr ⟨by trivial,g,rfl,Nat.le_refl _,r1,HLE.out⟩⟩,grown_trans (grown_below HB2.out) r2⟩
 ·have HV:Hid (errV (entOne D n ⟨p,N⟩)=.iface 95 (.int .i64 (entOne D n ⟨p,N⟩))):=errV_some he
  rw [errV_some he] at h
  have HE:Hid (entOne D n ⟨p,N⟩≠0):=he
  generalize entOne D n ⟨p,N⟩=E at h HV HE
  generalize p.length=m at h HB0
  generalize xs.length=nx
  clear he hS0 h00 h01 hfew
  go_enter Tryz.func68,Tryz.ntmps68
  go_wp2_with fail
  refine h.mono ?_
  rintro e w1 ⟨rfl,hb1⟩
  have HB1:Hid (Below w.heap.size w w1):=onB HB0.out hb1
  clear hb1
  go_wp2_with fail
  go_ret2
  rw [HV.out]
  exact ⟨⟨none,0,[],rfl,Or.inl ⟨HE.out,rfl,rfl,rfl⟩⟩,grown_below HB1.out⟩
def pickL (E:Int) (l:List En):List En:=if E=0 then l else []
theorem pickL_bad {E:Int} (h:E≠0) (l:List En):pickL E l=[]:=by unfold pickL;rw [if_neg h]
theorem pickL_in (l:List En):pickL 0 l=l:=rfl
def Answer (w:World) (E:Int) (l:List En) (e:Ending) (w':World):Prop:=(∃ B c zs,e=.returned (.tuple #[.slice B zs.length c,errV E])∧EnsV w' B c zs∧lE zs=pickL E l)∧Below w.heap.size w w'
theorem edited_ens {M:Nat} {w':World} {g c:Nat} {E:Int} {l:List En} {B:Option Addr} {ys:List EnL} (h:(E≠0∧B=none∧c=0∧ys=[])∨(E=0∧∃ g',B=some ⟨g',0,none⟩∧g≤g'∧RowE w' g' c ys∧lE ys=l∧NewE M ys)):EnsV w' B c ys∧lE ys=pickL E l:=by
 rcases h with ⟨h1,rfl,rfl,rfl⟩ | ⟨h1,g',rfl,_,h2,h3,_⟩
 ·exact ⟨EnsV.nil _ _ _ (by decide),by rw [pickL_bad h1];rfl⟩
 ·exact ⟨h2.ensV,by rw [h1,pickL_in,h3]⟩
def changeErr (D:Nat→Dm) (n:Nat) (l:List En) (x:Ed):Int:=if entsErr D n l≠0 then entsErr D n l else editErr D n l x
theorem change_bad {D:Nat→Dm} {n:Nat} {l:List En} (x:Ed) (h:entsErr D n l≠0):changeErr D n l x=entsErr D n l:=by unfold changeErr;rw [if_pos h]
theorem change_in {D:Nat→Dm} {n:Nat} {l:List En} (x:Ed) (h:entsErr D n l=0):changeErr D n l x=editErr D n l x:=by unfold changeErr;rw [if_neg (by simpa using h)]
theorem keepO {W w':World} {q:Nat} {u:Value} (h:q<W.heap.size∧W.cell? ⟨q,0,none⟩=some u) (hB:Below W.heap.size W w'):Below W.heap.size W w'∧w'.cell? ⟨q,0,none⟩=some u:=⟨hB,(hB.cell (p:=⟨q,0,none⟩) h.1).trans h.2⟩
theorem fresh_of {D:Nat→Dm} {n:Nat} {xs:List EnL} (hEs:Ens D n (lE xs)):∀ k,k<xs.length→(xs.getD k noL).e.pl.length≤4:=fun k hk=>by
 have h1:(xs.getD k noL).e∈lE xs:=List.mem_map.2 ⟨_,enl_mem hk,rfl⟩
 exact inO_short (hEs.each _ h1).1
theorem len_eq {xs ys:List EnL} (h:lE ys=lE xs):ys.length=xs.length:=by rw [←lE_len,h,lE_len]
set_option maxHeartbeats 8000000 in
theorem iset_any (A0:Option Addr) (cap n:Nat) (D:Nat→Dm) (A:Nat→Option Addr) (C:Nat→Nat) (AE:Option Addr) (ce:Nat) (xs:List EnL) (Ap:Option Addr) (cp:Nat) (p:List Int) (N:Int) (w:World) (hM:DimsV w A0 cap n D A C) (hE:EnsV w AE ce xs) (hP:PlAt w Ap cp p) :
  Calls Tryz.prog 30 #[.agg #[.slice A0 n cap],.slice AE xs.length ce,.slice Ap p.length cp,.int .i64 N] w fun e w'=>Answer w (changeErr D n (lE xs) ⟨p,N,false⟩) (setL (lE xs) p N) e w':=by
 have hB0:=ownOut_below w A0 n cap 29
 have h:=icheck_any A0 cap n D A C AE ce xs (ownOut w A0 n cap 29) (hM.later hB0) (hE.later hB0)
 have HB0:Hid (Below w.heap.size w (ownOut w A0 n cap 29)):=hB0
 have HM:Hid (DimsV w A0 cap n D A C):=hM
 have HE:Hid (EnsV w AE ce xs):=hE
 have HP:Hid (PlAt w Ap cp p):=hP
 unfold Answer
 clear hM hE hP hB0
 by_cases he:entsErr D n (lE xs)=0
 ·have hEs:=ens_of he
  have HFr:Hid (∀ w',Below w.heap.size w w'→Calls Tryz.prog 69 #[.slice AE xs.length ce] w' fun e w'' => ∃ g ys,e=.returned (.slice (some ⟨g,0,none⟩) xs.length xs.length)∧w'.heap.size≤g∧RowE w'' g xs.length ys∧lE ys=lE xs∧Below w'.heap.size w' w''):=fun w' hw'=>by
   refine (fresh_any AE ce xs w' (few_of hEs) (fresh_of hEs) (HE.out.later hw')).mono ?_
   rintro e w'' ⟨⟨ys,rfl,hRow,hle⟩,hb⟩
   exact ⟨w'.heap.size,ys,rfl,Nat.le_refl _,hRow,hle,hb⟩
  have HSt:Hid (∀ (w3:World) (g:Nat) (ys:List EnL),Below w.heap.size w w3→RowE w3 g xs.length ys→lE ys=lE xs→Calls Tryz.prog 68 #[.agg #[.slice A0 n cap],.slice (some ⟨g,0,none⟩) xs.length xs.length,.agg #[.slice Ap p.length cp,.int .i64 N]] w3 fun e w'=>(∃ B c zs,e=.returned (.tuple #[.slice B zs.length c,errV (changeErr D n (lE xs) ⟨p,N,false⟩)])∧EnsV w' B c zs∧lE zs=pickL (changeErr D n (lE xs) ⟨p,N,false⟩) (setL (lE xs) p N))∧w3.grownBy w' (some g)):=fun w3 g ys hw3 hRow hle=>by
   have h1:=iset1_any (M:=0) A0 cap n D A C g xs.length ys Ap cp p N w3 (HM.out.later hw3) (HP.out.later hw3) hRow (by rw [hle];exact hEs) (NewE.zero _) (Nat.zero_le _)
   rw [hle,len_eq hle,←change_in _ he] at h1
   refine h1.mono ?_
   rintro e w' ⟨⟨B,c,zs,rfl,hc⟩,hg⟩
   obtain ⟨h2,h3⟩:=edited_ens hc
   exact ⟨⟨B,c,zs,rfl,h2,h3⟩,hg⟩
  rw [he,errV_zero] at h
  generalize changeErr D n (lE xs) ⟨p,N,false⟩=E at HSt
  obtain ⟨m,hm⟩:∃ m,p.length=m:=⟨_,rfl⟩
  obtain ⟨nx,hnx⟩:∃ nx,xs.length=nx:=⟨_,rfl⟩
  rw [hm] at HSt ⊢
  rw [hnx] at h HFr HSt ⊢
  clear he hEs hm hnx
  go_enter Tryz.func30,Tryz.ntmps30
  go_wp2_with fail
  refine h.mono ?_
  rintro e w1 ⟨rfl,hb1⟩
  have HB1:Hid (Below w.heap.size w w1):=onB HB0.out hb1
  have c0:w1.cell? ⟨w.heap.size,0,none⟩=some (.slice A0 n cap):=(hb1.cell (p:=⟨w.heap.size,0,none⟩) (by show w.heap.size<_;rw [ownOut_size];omega)).trans (ownOut_at ..)
  have HBox:Hid (w.heap.size<w1.heap.size∧w1.cell? ⟨w.heap.size,0,none⟩=some (.slice A0 n cap)):=⟨by have:=hb1.size;rw [ownOut_size] at this;omega,c0⟩
  clear hb1 h c0
  go_wp2_with fail
  go_region_held3 (fun w'=>Below w1.heap.size w1 w'∧w'.cell? ⟨w.heap.size,0,none⟩=some (.slice A0 n cap))
   ((refine keepO HBox.out ?_;go_grown;done))
   (first | (go_at_call 69;refine (HFr.out _ (onB HB1.out (by go_grown))).mono ?_;rintro e w3 ⟨g,ys,rfl,hgg,hRow,hle,hb3⟩;have hN3:=onB (W0:=w1) (by go_grown) hb3;have hy3:=hN3.size;have HG3:Hid (w1.heap.size≤g):=hgg;have HB3:Hid (Below w1.heap.size w1 w3):=hN3;have HRow:Hid (RowE w3 g nx ys):=hRow;have HLE:Hid (lE ys=lE xs):=hle;clear hb3 hgg hRow hle) | (go_at_call 68;refine (HSt.out w3 g ys (onB HB1.out HB3.out) HRow.out HLE.out).mono ?_;rintro e w4 ⟨⟨B,c,zs,rfl,hV,hl⟩,hgr⟩;have hN4:Below w1.heap.size w1 w4:=below_grown HB3.out hgr HB3.out.size HG3.out;have hy4:=hN4.size;have HV:Hid (EnsV w4 B c zs):=hV;have HL:Hid (lE zs=pickL E (setL (lE xs) p N)):=hl;clear hgr hV hl))
  have HB4:Hid (Below w.heap.size w w4):=onB HB1.out hN4
  clear hN3 hN4 hy3 hy4
  go_wp2_with fail
  go_ret2
  exact ⟨⟨B,c,zs,rfl,HV.out,HL.out⟩,HB4.out⟩
 ·have hc:=change_bad (⟨p,N,false⟩:Ed) he
  have HV:Hid (errV (changeErr D n (lE xs) ⟨p,N,false⟩)=.iface 95 (.int .i64 (entsErr D n (lE xs)))∧changeErr D n (lE xs) ⟨p,N,false⟩≠0):=by rw [hc];exact ⟨errV_some he,he⟩
  rw [errV_some he] at h
  clear hc he
  generalize entsErr D n (lE xs)=F at h HV
  generalize changeErr D n (lE xs) ⟨p,N,false⟩=E at HV
  generalize xs.length=nx at h
  generalize p.length=m
  go_enter Tryz.func30,Tryz.ntmps30
  go_wp2_with fail
  refine h.mono ?_
  rintro e w1 ⟨rfl,hb1⟩
  have HB1:Hid (Below w.heap.size w w1):=onB HB0.out hb1
  clear hb1
  go_wp2_with fail
  go_ret2
  rw [HV.out.1,pickL_bad HV.out.2]
  exact ⟨⟨none,0,[],rfl,EnsV.nil _ _ _ (by decide),rfl⟩,HB1.out⟩
end Go.Proofs.YtfngmnhkhfgmjagGreatDoor
namespace Go.Proofs.YtfngmnhkhfgmjagGreatDoor
open Go.ChangeShapes Go.WideShapes Go.ChangeAt Go.RowKit
set_option maxRecDepth 20000
theorem pair_set {w:World} {q:Nat} {x y a b:Value} {T:Nat} (h:w.heap[q]?=some (.cells #[x,y] T)):((w.setCell ⟨q,0,none⟩ a).setCell ⟨q,1,none⟩ b).heap[q]?=some (.cells #[a,b] T):=by
 simp [World.setCell,Array.getElem?_modify,h]
theorem pair_grown {w w':World} {q:Nat} {a b:Value} (h:w.grownBy w' (some q)):w.grownBy ((w'.setCell ⟨q,0,none⟩ a).setCell ⟨q,1,none⟩ b) (some q) :=
 ⟨h.os,h.tape,h.output,by simpa [World.setCell] using h.size,fun i hi hr=>(Below.heap_setCell _ ⟨q,1,none⟩ b i fun e=>hr (by rw [e])).trans ((Below.heap_setCell w' ⟨q,0,none⟩ a i fun e=>hr (by rw [e])).trans (h.block i hi hr))⟩
theorem grown_then {w w1 w2:World} {r:Option Nat} (h:w.grownBy w1 r) (k:Below w1.heap.size w1 w2):w.grownBy w2 r :=
 ⟨k.os.trans h.os,k.tape.trans h.tape,k.output.trans h.output,Nat.le_trans h.size k.size,fun i hi hr=>(k.block i (Nat.lt_of_lt_of_le hi h.size)).trans (h.block i hi hr)⟩
theorem pair_at {w:World} {q:Nat} {x y:Value} {T:Nat} (h:w.heap[q]?=some (.cells #[x,y] T)):w.cell? ⟨q,0,none⟩=some x∧w.cell? ⟨q,1,none⟩=some y∧w.frozen? ⟨q,0,none⟩=false∧w.frozen? ⟨q,1,none⟩=false :=
 ⟨by rw [Lib.cell_of_heap h];rfl,by rw [Lib.cell_of_heap h];rfl,Lib.frozen_of_heap h 0,Lib.frozen_of_heap h 1⟩
theorem take_part {M:Nat→Mem} {at':Int→Int×Int} {P:List Int} {k:Nat} (h:k<P.length):(P.take (k+1)).foldl (partStep M at') (0,0)=partStep M at' ((P.take k).foldl (partStep M at') (0,0)) (P.getD k 0):=by
 rw [List.take_succ_eq_append_getElem h,List.foldl_append,List.getD_eq_getElem?_getD,List.getElem?_eq_getElem h]
 rfl
def BoxN (w:World) (q:Nat) (v:Value):Prop:=q<w.heap.size∧w.cell? ⟨q,0,none⟩=some v
theorem BoxN.same {w w':World} {q:Nat} {v:Value} (h:BoxN w q v) (hz:w.heap.size≤w'.heap.size) (hb:w'.heap[q]?=w.heap[q]?):BoxN w' q v :=
 ⟨Nat.lt_of_lt_of_le h.1 hz,(World.cell?_of_block (a:=⟨q,0,none⟩) hb).trans h.2⟩
theorem BoxN.later {w w':World} {q:Nat} {v:Value} (h:BoxN w q v) (hB:Below w.heap.size w w'):BoxN w' q v:=h.same hB.size (hB.block q h.1)
theorem cel_grown {w w':World} {g i j:Nat} {a b:Value} (h:w.grownBy w' (some g)):w.grownBy ((w'.setCell ⟨g,i,none⟩ a).setCell ⟨g,j,none⟩ b) (some g) :=
 ⟨h.os,h.tape,h.output,by simpa [World.setCell] using h.size,fun k hk hr=>(Below.heap_setCell _ ⟨g,j,none⟩ b k fun e=>hr (by rw [e])).trans ((Below.heap_setCell w' ⟨g,i,none⟩ a k fun e=>hr (by rw [e])).trans (h.block k hk hr))⟩
theorem boxn_other {w w':World} {q g:Nat} {v:Value} (h:BoxN w q v) (hne:q≠g) (hG:w.grownBy w' (some g)):BoxN w' q v:=h.same hG.size (hG.block q h.1 fun e=>hne (by simpa using e))
end Go.Proofs.YtfngmnhkhfgmjagGreatDoor
