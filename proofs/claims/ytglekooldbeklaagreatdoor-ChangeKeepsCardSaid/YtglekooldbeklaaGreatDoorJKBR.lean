/-
  What is told at elder places stays where a member is called otherwise, or one more comes under none; plain data.
-/
import Derived.Test.YtglekooldbeklaaGreatDoorJKBQ
namespace Go.Proofs.YtglekooldbeklaaGreatDoor
open Go.ChangeShapes Go.WideShapes Go.ChangeAt Go.RowKit Go.Lib
structure FitD (d d':Dm):Prop where
 solve:d'.solve=d.solve
 leaf:∀ i,i<d.n→leafB d'.mem d'.n i=leafB d.mem d.n i
 one:∀ (a:Int→Int×Int) i,i<d.n→oneV d' a i=oneV d a i
theorem FitD.solves {D:Nat→Dm} {k:Nat} {d':Dm} (h:FitD (D k) d') (j:Nat):(putD D k d' j).solve=(D j).solve:=by
 by_cases e:j=k
 ·subst e
  rw [putD_at]
  exact h.solve
 ·rw [putD_off D _ e]
theorem FitD.leafs {D:Nat→Dm} {k:Nat} {d':Dm} (h:FitD (D k) d') {j i:Nat} (hi:i<(D j).n):leafB (putD D k d' j).mem (putD D k d' j).n i=leafB (D j).mem (D j).n i:=by
 by_cases e:j=k
 ·subst e
  rw [putD_at]
  exact h.leaf i hi
 ·rw [putD_off D _ e]
theorem FitD.ones {D:Nat→Dm} {k:Nat} {d':Dm} (h:FitD (D k) d') (a:Int→Int×Int) {j i:Nat} (hi:i<(D j).n):oneV (putD D k d' j) a i=oneV (D j) a i:=by
 by_cases e:j=k
 ·subst e
  rw [putD_at]
  exact h.one a i hi
 ·rw [putD_off D _ e]
theorem by_keep {D:Nat→Dm} {n k:Nat} {d':Dm} (h:FitD (D k) d') {p:List Int} (hp:InO D n p):∀ m,m≤n→byTo (putD D k d') p m=byTo D p m
 | 0,_=>rfl
 | m+1,hm=>by
  have ih:=by_keep h hp m (by omega)
  have h0:=hp.lo m (by omega)
  have h1:=hp.hi m (by omega)
  unfold byTo
  rw [ih,h.leafs (j:=m) (by omega),h.solves,h.solves]
theorem solF_keep {D:Nat→Dm} {n k:Nat} {d':Dm} (h:FitD (D k) d') (hR:AllR D n) (inp:List Int→Int×Int):∀ (f:Nat) (p:List Int),InO D n p→solF (putD D k d') n inp f p=solF D n inp f p
 | 0,_,_=>rfl
 | f+1,p,hp=>by
  unfold solF
  rw [by_keep h hp n (Nat.le_refl _)]
  rcases by_in D p n with hb | ⟨b,h1,h2⟩
  ·rw [hb,if_pos (by omega),if_pos (by omega)]
  ·rw [h1,if_neg (by omega),if_neg (by omega),Int.toNat_natCast]
   obtain ⟨hd,hm,-,-⟩:=rErr_right (hR b h2)
   obtain ⟨hp0,hp1⟩:0≤p.getD b 0∧p.getD b 0<((D b).n:Int):=⟨hp.lo b h2,hp.hi b h2⟩
   rw [h.ones _ (by omega)]
   refine oneV_same hd (hm _ (by omega)) fun x hx=>?_
   have hxi:=mNd_in hx
   exact solF_keep h hR inp f _ (inO_set hp h2 hxi.1 hxi.2)
theorem solV_keep {D:Nat→Dm} {n k:Nat} {d':Dm} (h:FitD (D k) d') (hR:AllR D n) (hR':AllR (putD D k d') n) (inp:List Int→Int×Int) {p:List Int} (hp:InO D n p) (hp':InO (putD D k d') n p):solV (putD D k d') n inp p=solV D n inp p:=by
 unfold solV
 rw [sol_same hR' inp _ (msrTo D p n+msrTo (putD D k d') p n+1) p hp' (by omega) (by omega),solF_keep h hR inp _ p hp]
 exact sol_same hR inp _ _ p hp (by omega) (by omega)
/-! a member called otherwise -/
def renTr (old new:ByteArray):Tre→Tre
 | .num n=>.num n
 | .ref s=>if same s old=true then .ref new else .ref s
 | .bin o a b=>.bin o (renTr old new a) (renTr old new b)
theorem renTr_none {old new:ByteArray}:∀ t:Tre,(∀ s∈refsT t,same s old=false)→renTr old new t=t
 | .num _,_=>rfl
 | .ref s,h=>by
  have:=h s (by simp [refsT])
  show (if same s old=true then _ else _)=_
  rw [if_neg (by rw [this];decide)]
 | .bin o a b,h=>by
  rw [renTr,renTr_none a fun s hs=>h s (by simp [refsT,hs]),renTr_none b fun s hs=>h s (by simp [refsT,hs])]
theorem renTr_val {old new:ByteArray} (E F:ByteArray→Int×Int):∀ t:Tre,(∀ s∈refsT t,(if same s old=true then E new else E s)=F s)→valG E (renTr old new t)=valG F t
 | .num _,_=>rfl
 | .ref s,h=>by
  have h1:=h s (by simp [refsT])
  show valG E (if same s old=true then _ else _)=F s
  rw [←h1]
  split <;> rfl
 | .bin o a b,h=>by
  rw [renTr,valG,valG,renTr_val E F a fun s hs=>h s (by simp [refsT,hs]),renTr_val E F b fun s hs=>h s (by simp [refsT,hs])]
theorem trF_ren (old new:ByteArray) (l:List Nd):∀ f i,trF (renL old new l) f i=renTr old new (trF l f i)
 | 0,_=>rfl
 | f+1,i=>by
  have e:=renL_at old new l i
  have hr:(renN old new (l.getD i noN)).op=(l.getD i noN).op∧(renN old new (l.getD i noN)).n=(l.getD i noN).n∧(renN old new (l.getD i noN)).left=(l.getD i noN).left∧(renN old new (l.getD i noN)).right=(l.getD i noN).right:=by
   unfold renN
   split <;> exact ⟨rfl,rfl,rfl,rfl⟩
  rw [trF,trF,e,hr.1,hr.2.1,hr.2.2.1,hr.2.2.2]
  by_cases h1:(l.getD i noN).op=1
  ·rw [if_pos h1,if_pos h1]
   rfl
  rw [if_neg h1,if_neg h1]
  by_cases h2:(l.getD i noN).op=2
  ·rw [if_pos h2,if_pos h2]
   unfold renN
   show _=(if same (l.getD i noN).name old=true then _ else _)
   by_cases h3:same (l.getD i noN).name old=true
   ·rw [if_pos ⟨h2,h3⟩,if_pos h3]
   ·rw [if_neg (by intro h;exact h3 h.2),if_neg h3]
  rw [if_neg h2,if_neg h2,trF_ren old new l f,trF_ren old new l f]
  rfl
theorem refT_tree {old new t:ByteArray} (hn:nameErr new=0) (h0:t.size≠0) (hp:prsE t=0) (hs:(refT old new t).size≤100):(refT old new t).size≠0∧treeOf (prsL (refT old new t)) ((prsL (refT old new t)).length-1)=renTr old new (treeOf (prsL t) ((prsL t).length-1)):=by
 have hfo:=form_prs hp
 have hR:refT old new t=if hasN old (prsL t)=true then printT (renL old new (prsL t)) else t:=by unfold refT;rw [if_neg h0]
 rw [hR] at hs ⊢
 by_cases hh:hasN old (prsL t)=true
 ·rw [if_pos hh] at hs ⊢
  have hf2:=ren_form (old:=old) hn hfo
  obtain ⟨b1,b2,b3,-⟩:=back_print hf2 hs
  obtain ⟨f1,-,f3,-⟩:=form_right hf2
  have hk:=ok_tree f3 ((renL old new (prsL t)).length-1) (by omega)
  refine ⟨fun e=>?_,?_⟩
  ·rw [ba_nil e] at b1
   revert b1
   decide +kernel
  ·rw [b2,tree_post _ hk,renL_len]
   exact trF_ren old new _ _ _
 ·rw [if_neg hh] at hs ⊢
  refine ⟨h0,(renTr_none _ fun s hs=>?_).symm⟩
  obtain ⟨j,hj,h2,h3⟩:=(refs_mem hfo s).1 hs
  cases hc:same s old
  ·rfl
  ·refine absurd ?_ hh
   unfold hasN
   rw [List.any_eq_true]
   refine ⟨_,List.getElem_mem hj,?_⟩
   rw [List.getD_eq_getElem?_getD,List.getElem?_eq_getElem hj] at h2 h3
   simp only [Option.getD_some] at h2 h3
   rw [h2,h3,hc]
   rfl
theorem same_eq {s t:ByteArray}:same s t=true↔s=t:=by
 unfold same
 rw [ByteArray.toList_eq,ByteArray.toList_eq]
 constructor
 ·intro h
  apply ByteArray.ext
  apply Array.toList_inj.1
  simpa using h
 ·intro h
  subst h
  simp
theorem fit_ren {d:Dm} {i:Nat} {new:ByteArray} (hi:i<d.n) (hr:(rErr d).2=0) (hn:nameErr new=0) (hr':(rErr (renD d i new)).2=0):FitD d (renD d i new):=by
 obtain ⟨hd,hm,-,-⟩:=rErr_right hr
 obtain ⟨hd',hm',-,-⟩:=rErr_right hr'
 have hsz:∀ x,x<d.n→(refT (d.mem i).name new (d.mem x).formula).size≤100:=fun x hx=>by
  have:=(dimErr_right hd').2.2.2 x hx
  unfold memErr at this
  refine Classical.byContradiction fun hc=>?_
  have hc:100<((renD d i new).mem x).formula.size:=Nat.lt_of_not_le hc
  repeat' split at this
  all_goals first | omega | (cases this)
 have hfm:∀ x,x<d.n→(((renD d i new).mem x).formula.size=0↔(d.mem x).formula.size=0):=fun x hx=>by
  show (refT (d.mem i).name new (d.mem x).formula).size=0↔_
  by_cases h0:(d.mem x).formula.size=0
  ·unfold refT
   rw [if_pos h0]
  ·have:=(refT_tree (old:=(d.mem i).name) hn h0 (mErr_prsE h0 (hm x hx)) (hsz x hx)).1
   exact ⟨fun e=>absurd e this,fun e=>absurd e h0⟩
 refine ⟨rfl,fun x hx=>?_,fun a x hx=>?_⟩
 ·unfold leafB
  have e:=hfm x hx
  have:decide (((renD d i new).mem x).formula.size=0)=decide ((d.mem x).formula.size=0):=by rw [decide_eq_decide];exact e
  rw [this]
  rfl
 ·unfold oneV
  by_cases h0:(d.mem x).formula.size=0
  ·rw [if_pos h0,if_pos ((hfm x hx).2 h0)]
   rfl
  ·rw [if_neg h0,if_neg fun e=>h0 ((hfm x hx).1 e)]
   have hp:=mErr_prsE h0 (hm x hx)
   have ht:=(refT_tree (old:=(d.mem i).name) hn h0 hp (hsz x hx)).2
   rw [show treF (renD d i new) x=renTr (d.mem i).name new (treF d x) from ht]
   refine renTr_val _ _ _ fun s hs=>?_
   have hin:=tre_names hp hs
   have hme:=hm x hx
   unfold mErr at hme
   rw [if_neg h0,if_neg (by simpa using hp)] at hme
   have hno : ¬ whL d s.data.toList<0:=fun hc=>by
    rw [if_pos (List.any_eq_true.2 ⟨_,hin,decide_eq_true hc⟩)] at hme
    cases hme
   rcases whL_cases d s.data.toList with ⟨h1,-⟩ | ⟨y,h1,h2,h3⟩
   ·omega
   ·by_cases hsm:same s (d.mem i).name=true
    ·have he:=same_eq.1 hsm
     rw [if_pos hsm,he,whL_own hd hi]
     have:whL (renD d i new) new.data.toList=(i:Int):=by
      have:=whL_own hd' (k:=i) hi
      rw [show ((renD d i new).mem i).name=new from if_pos rfl] at this
      exact this
     rw [this]
    ·have hyi:y≠i:=fun e=>by
      subst e
      refine hsm (same_eq.2 ?_)
      apply ByteArray.ext
      apply Array.toList_inj.1
      exact h3.symm
     rw [if_neg hsm,h1]
     have:=whL_own hd' (k:=y) h2
     rw [show ((renD d i new).mem y).name=(d.mem y).name from if_neg hyi,h3] at this
     rw [this]
/-! a member more, under none -/
theorem fit_add {d:Dm} {m:Mem} (hr:(rErr d).2=0) (hr':(rErr (addD d m)).2=0) (hp:m.parent = -1):FitD d (addD d m):=by
 obtain ⟨hd,hm,-,-⟩:=rErr_right hr
 obtain ⟨hd',-,-,-⟩:=rErr_right hr'
 have hmm:∀ x,x<d.n→(addD d m).mem x=d.mem x:=fun x hx=>if_neg (by omega)
 have hpb:∀ (i:Nat) x,x<d.n→partB (addD d m).mem i x=partB d.mem i x:=fun i x hx=>by
  unfold partB
  rw [hmm x hx]
 have hpn:∀ i:Nat,partB (addD d m).mem i d.n=false:=fun i=>by
  unfold partB
  rw [show (addD d m).mem d.n=m from if_pos rfl,hp]
  exact beq_false_of_ne (by omega)
 refine ⟨rfl,fun x hx=>?_,fun a x hx=>?_⟩
 ·unfold leafB
  rw [hmm x hx]
  have:(0≤findFrom (partB (addD d m).mem x) (addD d m).n 0)↔(0≤findFrom (partB d.mem x) d.n 0):=by
   have hN:(addD d m).n=d.n+1:=rfl
   constructor
   ·intro h5
    rcases findFrom_cases (partB (addD d m).mem x) (addD d m).n 0 with ⟨h6,_⟩ | ⟨j,_,_,h7,h8,_⟩
    ·omega
    ·by_cases e:j=d.n
     ·subst e
      rw [hpn x] at h8
      cases h8
     ·exact findFrom_nonneg (i:=j) (by omega) (by rw [←hpb x j (by omega)];exact h8)
   ·intro h5
    rcases findFrom_cases (partB d.mem x) d.n 0 with ⟨h6,_⟩ | ⟨j,_,_,h7,h8,_⟩
    ·omega
    ·exact findFrom_nonneg (i:=j) (by omega) (by rw [hpb x j (by omega)];exact h8)
  rw [show decide (0≤findFrom (partB (addD d m).mem x) (addD d m).n 0)=decide (0≤findFrom (partB d.mem x) d.n 0) by rw [decide_eq_decide];exact this]
 ·unfold oneV
  rw [hmm x hx]
  by_cases h0:(d.mem x).formula.size=0
  ·rw [if_pos h0,if_pos h0]
   have hP:partsOf (addD d m).mem (addD d m).n x=partsOf d.mem d.n x:=by
    show selTo (partB (addD d m).mem x) (d.n+1)=selTo (partB d.mem x) d.n
    rw [selTo_miss (hpn x)]
    exact selTo_congr fun j hj=>hpb x j hj
   rw [hP]
   have hall:∀ (P:List Int) (c:Int×Int),(∀ y∈P,y∈partsOf d.mem d.n x)→P.foldl (partStep (addD d m).mem a) c=P.foldl (partStep d.mem a) c:=by
    intro P
    induction P with
    | nil=>intro c _;rfl
    | cons y r ih =>
     intro c hy
     rw [List.foldl_cons,List.foldl_cons]
     obtain ⟨z,rfl,hz,-⟩:=selTo_mem y (hy y (by simp))
     have e:partStep (addD d m).mem a c (z:Int)=partStep d.mem a c (z:Int):=by
      unfold partStep
      rw [Int.toNat_natCast,hmm z hz]
     rw [e]
     exact ih _ fun y' hy'=>hy y' (List.mem_cons_of_mem _ hy')
   exact hall _ _ fun y hy=>hy
  ·rw [if_neg h0,if_neg h0]
   have hT:treF (addD d m) x=treF d x:=by
    unfold treF
    rw [hmm x hx]
   rw [hT]
   have hp2:=mErr_prsE h0 (hm x hx)
   refine valG_same _ _ _ fun s hs=>?_
   have hin:=tre_names hp2 hs
   have hme:=hm x hx
   unfold mErr at hme
   rw [if_neg h0,if_neg (by simpa using hp2)] at hme
   have hno : ¬ whL d s.data.toList<0:=fun hc=>by
    rw [if_pos (List.any_eq_true.2 ⟨_,hin,decide_eq_true hc⟩)] at hme
    cases hme
   rcases whL_cases d s.data.toList with ⟨h1,-⟩ | ⟨y,h1,h2,h3⟩
   ·omega
   ·rw [h1]
    have:=whL_own hd' (k:=y) (show y<d.n+1 by omega)
    rw [hmm y h2,h3] at this
    rw [this]
theorem ch_parts {D:Nat→Dm} {n:Nat} {l:List En} {c:Chg} (h:chE D n l c=0):cuErr D n l=0∧∃ k:Nat,c.dim=k∧k<n∧cgE (D k) l k c=0∧chD D c=putD D k (cgD (D k) c)∧chL D n l c=cgL l k c:=by
 have hL:chL D n l c=cgL l c.dim.toNat c:=if_pos h
 unfold chE at h
 by_cases hcu:cuErr D n l=0
 case neg=>rw [if_pos hcu] at h;exact absurd h hcu
 rw [if_neg (by simpa using hcu)] at h
 by_cases hd:c.dim<0∨(n:Int)≤c.dim
 ·rw [if_pos hd] at h
  cases h
 rw [if_neg hd] at h
 obtain ⟨k,hk⟩:∃ k:Nat,c.dim=k:=⟨c.dim.toNat,by omega⟩
 rw [hk,Int.toNat_natCast] at h hL
 refine ⟨hcu,k,hk,by omega,?_,?_,hL⟩
 ·by_cases hs:cgE (D k) l k c=0
  ·exact hs
  ·rw [if_pos hs] at h
   exact absurd h hs
 ·unfold chD
  rw [hk,Int.toNat_natCast]
theorem prod_same {D D':Nat→Dm}:∀ n,(∀ i,i<n→(D' i).n=(D i).n)→prodN D' n=prodN D n
 | 0,_=>rfl
 | n+1,h=>by rw [prodN,prodN,prod_same n fun i hi=>h i (by omega),h n (by omega)]
theorem numI_same {D D':Nat→Dm} {p:List Int}:∀ n,(∀ i,i<n→(D' i).n=(D i).n)→numI D' p n=numI D p n
 | 0,_=>rfl
 | n+1,h=>by rw [numI,numI,numI_same n fun i hi=>h i (by omega),h n (by omega)]
theorem prod_more {D D':Nat→Dm} {k:Nat} (hk:(D k).n<(D' k).n):∀ n,(∀ i,i<n→1≤(D i).n∧(D i).n≤(D' i).n)→prodN D n≤prodN D' n∧(k<n→prodN D n<prodN D' n)
 | 0,_=>⟨Nat.le_refl _,fun h=>absurd h (Nat.not_lt_zero _)⟩
 | n+1,h=>by
  obtain ⟨h1,h2⟩:=prod_more hk n fun i hi=>h i (by omega)
  obtain ⟨h3,h4⟩:=h n (by omega)
  have hp:1≤prodN D n:=prodN_pos fun j hj=>(h j (by omega)).1
  rw [prodN,prodN]
  refine ⟨Nat.mul_le_mul h1 h4,fun h5=>?_⟩
  by_cases e:k=n
  ·subst e
   calc prodN D k*(D k).n<prodN D k*(D' k).n:=Nat.mul_lt_mul_of_pos_left hk hp
    _≤prodN D' k*(D' k).n:=Nat.mul_le_mul_right _ h1
  ·calc prodN D n*(D n).n<prodN D' n*(D n).n:=Nat.mul_lt_mul_of_pos_right (h2 (by omega)) h3
    _≤prodN D' n*(D' n).n:=Nat.mul_le_mul_left _ h4
section
variable {D:Nat→Dm} {n:Nat} {l:List En} {c:Chg}
theorem keeps_mb (h:chE D n l c=0) (h1:c.what≠1):∃ k i:Nat,c.dim=k∧k<n∧c.mb=i∧i<(D k).n:=by
 obtain ⟨-,k,hk,hkn,hs,-,-⟩:=ch_parts h
 unfold cgE at hs
 rw [if_neg h1] at hs
 by_cases hm:c.mb<0∨((D k).n:Int)≤c.mb
 ·rw [if_pos hm] at hs
  cases hs
 ·exact ⟨k,c.mb.toNat,hk,hkn,by omega,by omega⟩
theorem keeps_ren (h:chE D n l c=0) (hw:c.what=3):caL (chD D c) n (chL D n l c)=caL D n l:=by
 have hcu':=keeps_cu h
 obtain ⟨hcu,k,hk,hkn,hs,hD,hL⟩:=ch_parts h
 obtain ⟨k',i,hk',-,hmi,hi⟩:=keeps_mb h (by omega)
 obtain rfl:k'=k:=by omega
 have hL2:chL D n l c=l:=by
  rw [hL]
  unfold cgL
  rw [if_neg (by omega)]
 have hcg:cgD (D k') c=renD (D k') i c.name:=by
  unfold cgD
  rw [if_neg (by omega),if_neg (by omega),if_pos hw,hmi,Int.toNat_natCast]
 rw [hcg] at hD
 rw [hL2] at hcu' ⊢
 rw [hD] at hcu' ⊢
 have hn:nameErr c.name=0:=by
  unfold cgE at hs
  rw [if_neg (by omega),if_neg (by omega),if_neg (by omega),if_pos hw] at hs
  unfold renE at hs
  by_cases e:nameErr c.name=0
  ·exact e
  ·rw [if_pos e] at hs
   exact absurd hs e
 have hsz:∀ j,(putD D k' (renD (D k') i c.name) j).n=(D j).n:=fun j=>by
  by_cases e:j=k'
  ·subst e
   rw [putD_at]
   rfl
  ·rw [putD_off D _ e]
 obtain ⟨hr0,hens⟩:=cu_parts hcu
 obtain ⟨hr1,hens'⟩:=cu_parts hcu'
 obtain ⟨hA,hR⟩:=ru_parts hr0
 obtain ⟨hA',hR'⟩:=ru_parts hr1
 have hRk:=hR' k' hkn
 rw [putD_at] at hRk
 have hF:=fit_ren hi (hR k' hkn) hn hRk
 have hp:=prod_same (D:=D) (D':=putD D k' (renD (D k') i c.name)) n fun j _=>hsz j
 refine ca_eq hcu (by rw [caL_len hcu',hp]) fun j hj=>?_
 rw [caL_at hcu' (by rw [hp];exact hj)]
 have hI:=placeL_in (D:=D) (n:=n) (x:=j) hA
 have hI':InO (putD D k' (renD (D k') i c.name)) n (placeL D n j):=⟨hA',hI.len,hI.lo,fun j hj=>by rw [hsz j];exact hI.hi j hj⟩
 have hpl:placeL (putD D k' (renD (D k') i c.name)) n j=placeL D n j:=by
  have e:=place_num hI'
  rw [numI_same (D:=D) n fun j _=>hsz j,num_place hA hj,Int.toNat_natCast] at e
  exact e
 rw [hpl]
 exact solV_keep hF hR hR' _ hI hI'
theorem add_put (h:chE D n l c=0) (hw:c.what=1):∃ k:Nat,k<n∧chD D c=putD D k (addD (D k) (newM c))∧chL D n l c=l∧∀ j,(D j).n≤(chD D c j).n:=by
 obtain ⟨-,k,-,hkn,-,hD,hL⟩:=ch_parts h
 have hcg:cgD (D k) c=addD (D k) (newM c):=by
  unfold cgD
  rw [if_pos hw]
 rw [hcg] at hD
 refine ⟨k,hkn,hD,?_,fun j=>?_⟩
 ·rw [hL]
  unfold cgL
  rw [if_neg (by omega)]
 ·rw [hD]
  by_cases e:j=k
  ·subst e
   rw [putD_at]
   exact Nat.le_succ _
  ·rw [putD_off D _ e]
   exact Nat.le_refl _
theorem keeps_more (h:chE D n l c=0) (hw:c.what=1):(caL D n l).length<(caL (chD D c) n (chL D n l c)).length:=by
 have hcu':=keeps_cu h
 obtain ⟨hcu,-⟩:=ch_parts h
 obtain ⟨k,hkn,hD,-,hle⟩:=add_put h hw
 obtain ⟨hA,-⟩:=ru_parts (cu_parts hcu).1
 obtain ⟨-,-,-,hd⟩:=allErr_some hA
 rw [caL_len hcu,caL_len hcu']
 refine (prod_more (k:=k) (by rw [hD,putD_at];exact Nat.lt_succ_self _) n fun i hi=>⟨(hd i hi).1,hle i⟩).2 hkn
theorem keeps_add (h:chE D n l c=0) (hw:c.what=1) (ht:c.tgt = -1) {j:Nat} (hj:j<prodN D n):placeErr (chD D c) n (placeL D n j)=0∧∃ m:Nat,numV (chD D c) n (placeL D n j)=(m:Int)∧m<prodN (chD D c) n∧(caL (chD D c) n (chL D n l c)).getD m noC=(caL D n l).getD j noC:=by
 have hcu':=keeps_cu h
 obtain ⟨hcu,-⟩:=ch_parts h
 obtain ⟨k,hkn,hD,hL,hle⟩:=add_put h hw
 obtain ⟨hr0,hens⟩:=cu_parts hcu
 obtain ⟨hr1,hens'⟩:=cu_parts hcu'
 obtain ⟨hA,hR⟩:=ru_parts hr0
 obtain ⟨hA',hR'⟩:=ru_parts hr1
 have hI:=placeL_in (D:=D) (n:=n) (x:=j) hA
 have hI':InO (chD D c) n (placeL D n j):=⟨hA',hI.len,hI.lo,fun i hi=>by have:=hI.hi i hi;have:=hle i;omega⟩
 obtain ⟨m,hm,hmp,hpl⟩:=num_lt hI'
 refine ⟨hI'.ok,m,by unfold numV;rw [if_pos hI'.ok,hm],hmp,?_⟩
 rw [caL_at hcu' hmp,caL_at hcu hj,hpl,hL]
 rw [hD] at hR' hI' ⊢
 have hRk:=hR' k hkn
 rw [putD_at] at hRk
 exact solV_keep (fit_add (hR k hkn) hRk ht) hR hR' _ hI hI'
end
end Go.Proofs.YtglekooldbeklaaGreatDoor
