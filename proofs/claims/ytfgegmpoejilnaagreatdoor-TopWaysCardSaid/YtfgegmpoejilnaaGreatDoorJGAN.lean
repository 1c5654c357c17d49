/-
  What was written, on plain data: places in order, entries that rise, what stands at a place, with a number there, without; that what is written is there, and all else as it was.
-/
import Derived.Laws.CopyRow
import Derived.Laws.CopyOwn
import Derived.Laws.IdiomCopy
import Derived.Deep.CutBlock
import Derived.Test.YtfgegmpoejilnaaGreatDoorJGAM
namespace Go.Proofs.YtfgegmpoejilnaaGreatDoor
def lessL:List Int→List Int→Bool
 | [],[]=>false
 | [],_ :: _=>true
 | _ :: _,[]=>false
 | a :: r,b :: t=>if a=b then lessL r t else decide (a<b)
theorem lessL_self (a:List Int):lessL a a=false:=by
 induction a with
 | nil=>rfl
 | cons x r ih=>simp [lessL,ih]
theorem lessL_trans:∀ (a b c:List Int),lessL a b=true→lessL b c=true→lessL a c=true
 | [],[],_,h,_=>by simp [lessL] at h
 | [],_ :: _,[],_,h=>by simp [lessL] at h
 | [],_ :: _,_ :: _,_,_=>rfl
 | _ :: _,[],_,h,_=>by simp [lessL] at h
 | _ :: _,_ :: _,[],_,h=>by simp [lessL] at h
 | x :: r,y :: t,z :: u,h1,h2=>by
  simp only [lessL] at h1 h2 ⊢
  by_cases e1:x=y
  ·by_cases e2:y=z
   ·rw [if_pos e1] at h1
    rw [if_pos e2] at h2
    rw [if_pos (e1.trans e2)]
    exact lessL_trans r t u h1 h2
   ·rw [if_neg e2] at h2
    rw [if_neg (by rw [e1];exact e2),e1]
    exact h2
  ·rw [if_neg e1] at h1
   have h3:=of_decide_eq_true h1
   by_cases e2:y=z
   ·rw [if_neg (by rw [←e2];exact e1),←e2]
    exact h1
   ·rw [if_neg e2] at h2
    have h4:=of_decide_eq_true h2
    rw [if_neg (by omega)]
    exact decide_eq_true (by omega)
theorem lessL_total:∀ (a b:List Int),a≠b→lessL a b=true∨lessL b a=true
 | [],[],h=>absurd rfl h
 | [],_ :: _,_=>Or.inl rfl
 | _ :: _,[],_=>Or.inr rfl
 | x :: r,y :: t,h=>by
  simp only [lessL]
  by_cases e:x=y
  ·rw [if_pos e,if_pos e.symm]
   exact lessL_total r t fun h1=>h (by rw [e,h1])
  ·rw [if_neg e,if_neg fun h1=>e h1.symm]
   rcases Int.lt_or_gt_of_ne e with h1 | h1
   ·exact Or.inl (decide_eq_true h1)
   ·exact Or.inr (decide_eq_true h1)
theorem lessL_ne {a b:List Int} (h:lessL a b=true):a≠b:=fun e=>by rw [e,lessL_self] at h;cases h
theorem lessL_eq {a b:List Int} (h1:lessL a b=false) (h2:lessL b a=false):a=b :=
 Decidable.byContradiction fun e=>by
  rcases lessL_total a b e with h | h
  ·rw [h] at h1;cases h1
  ·rw [h] at h2;cases h2
theorem lessL_part:∀ (a b:List Int),a.length=b.length→lessL a b=true→∃ j,j<a.length∧(∀ i,i<j→a.getD i 0=b.getD i 0)∧a.getD j 0<b.getD j 0
 | [],[],_,h=>by simp [lessL] at h
 | [],_ :: _,h,_=>by simp at h
 | _ :: _,[],h,_=>by simp at h
 | x :: r,y :: t,hl,h=>by
  simp only [lessL] at h
  by_cases e:x=y
  ·rw [if_pos e] at h
   obtain ⟨j,h1,h2,h3⟩:=lessL_part r t (by simpa using hl) h
   refine ⟨j+1,by simpa using h1,fun i hi=>?_,by simpa using h3⟩
   cases i with
   | zero=>simpa using e
   | succ i=>simpa using h2 i (by omega)
  ·rw [if_neg e] at h
   exact ⟨0,by simp,fun i hi=>by omega,by simpa using of_decide_eq_true h⟩
theorem less_num {D:Nat→Dm} {n:Nat} {a b:List Int} (ha:InO D n a) (hb:InO D n b) (h:lessL a b=true):numI D a n<numI D b n:=by
 obtain ⟨j,hj,he,hlt⟩:=lessL_part a b (by rw [ha.len,hb.len]) h
 rw [ha.len] at hj
 have h1:∀ k,k≤j→numI D a k=numI D b k:=by
  intro k
  induction k with
  | zero=>intro _;rfl
  | succ k ih=>intro hk;rw [numI,numI,ih (by omega),he k (by omega)]
 have h2:∀ k,j<k→k≤n→numI D a k+1≤numI D b k:=by
  intro k
  induction k with
  | zero=>intro h;omega
  | succ k ih =>
   intro hjk hk
   rw [numI,numI]
   have a2:=ha.hi k (by omega)
   have b1:=hb.lo k (by omega)
   by_cases e:k=j
   ·rw [h1 k (by omega),e];omega
   ·have h3:=ih (by omega) (by omega)
    have h4:(numI D a k+1)*((D k).n:Int)≤numI D b k*((D k).n:Int):=Int.mul_le_mul_of_nonneg_right h3 (by omega)
    rw [Int.add_mul,Int.one_mul] at h4
    omega
 exact h2 n hj (Nat.le_refl _)
structure En where
 pl:List Int
 n:Int
def numOk (x:Int):Bool:=decide (-1000000≤x) && decide (x≤1000000)
def entOne (D:Nat→Dm) (n:Nat) (e:En):Int:=if shapeErr D n e.pl≠0 then shapeErr D n e.pl else if leafV D n e.pl=false then 6 else if numOk e.n=false then 1 else 0
def aheadOk:Option (List Int)→List Int→Bool
 | none,_=>true
 | some a,b=>lessL a b
def entFrom (D:Nat→Dm) (n:Nat):Option (List Int)→List En→Int
 | _,[]=>0
 | q,e :: r=>if entOne D n e≠0 then entOne D n e else if aheadOk q e.pl=true then entFrom D n (some e.pl) r else 7
def entsErr (D:Nat→Dm) (n:Nat) (l:List En):Int:=if (allErr D n).2.2≠0 then (allErr D n).2.2 else entFrom D n none l
structure Ens (D:Nat→Dm) (n:Nat) (l:List En):Prop where
 right:(allErr D n).2.2=0
 each:∀ e∈l,InO D n e.pl∧leafV D n e.pl=true∧numOk e.n=true
 rise:l.Pairwise fun a b=>lessL a.pl b.pl=true
theorem entOne_right {D:Nat→Dm} {n:Nat} {e:En} (hR:(allErr D n).2.2=0) (h:entOne D n e=0):InO D n e.pl∧leafV D n e.pl=true∧numOk e.n=true:=by
 unfold entOne at h
 split at h
 ·rename_i h1;exact absurd h h1
 ·split at h
  ·cases h
  ·split at h
   ·cases h
   ·rename_i h1 h2 h3
    exact ⟨inO_of (by rw [pe1 hR];simpa using h1),by simpa using h2,by simpa using h3⟩
theorem entOne_ok {D:Nat→Dm} {n:Nat} {e:En} (h:InO D n e.pl∧leafV D n e.pl=true∧numOk e.n=true):entOne D n e=0:=by
 have h1:shapeErr D n e.pl=0:=by rw [←pe1 h.1.right];exact h.1.ok
 unfold entOne
 rw [if_neg (by simpa using h1),if_neg (by simp [h.2.1]),if_neg (by simp [h.2.2])]
theorem entFrom_right {D:Nat→Dm} {n:Nat} (hR:(allErr D n).2.2=0):∀ (l:List En) (q:Option (List Int)),entFrom D n q l=0→(∀ e∈l,InO D n e.pl∧leafV D n e.pl=true∧numOk e.n=true)∧(∀ a,q=some a→∀ e∈l,lessL a e.pl=true)∧l.Pairwise fun a b=>lessL a.pl b.pl=true
 | [],_,_=>⟨fun _ h=>(by cases h),fun _ _ _ h=>(by cases h),List.Pairwise.nil⟩
 | e :: r,q,h=>by
  rw [entFrom] at h
  by_cases h1:entOne D n e=0
  ·rw [if_neg (by simpa using h1)] at h
   have go:∀ (h2:entFrom D n (some e.pl) r=0) (h3:∀ a,q=some a→lessL a e.pl=true),(∀ x∈e :: r,InO D n x.pl∧leafV D n x.pl=true∧numOk x.n=true)∧(∀ a,q=some a→∀ x∈e :: r,lessL a x.pl=true)∧(e :: r).Pairwise fun a b=>lessL a.pl b.pl=true:=fun h2 h3=>by
    obtain ⟨g1,g2,g3⟩:=entFrom_right hR r _ h2
    refine ⟨fun x hx=>?_,fun a ha x hx=>?_,List.Pairwise.cons (fun x hx=>g2 _ rfl x hx) g3⟩
    ·rcases List.mem_cons.1 hx with rfl | hx
     ·exact entOne_right hR h1
     ·exact g1 x hx
    ·rcases List.mem_cons.1 hx with rfl | hx
     ·exact h3 a ha
     ·exact lessL_trans _ _ _ (h3 a ha) (g2 _ rfl x hx)
   split at h
   ·rename_i h4
    exact go h fun b hb=>by rw [hb] at h4;exact h4
   ·cases h
  ·rw [if_pos (by simpa using h1)] at h
   exact absurd h h1
theorem ens_of {D:Nat→Dm} {n:Nat} {l:List En} (h:entsErr D n l=0):Ens D n l:=by
 unfold entsErr at h
 split at h
 ·rename_i h1;exact absurd h h1
 ·rename_i h1
  have hR:(allErr D n).2.2=0:=by simpa using h1
  obtain ⟨g1,_,g3⟩:=entFrom_right hR l none h
  exact ⟨hR,g1,g3⟩
theorem entFrom_ok {D:Nat→Dm} {n:Nat}:∀ (l:List En) (q:Option (List Int)),(∀ e∈l,InO D n e.pl∧leafV D n e.pl=true∧numOk e.n=true)→(∀ a,q=some a→∀ e∈l,lessL a e.pl=true)→(l.Pairwise fun a b=>lessL a.pl b.pl=true)→entFrom D n q l=0
 | [],_,_,_,_=>rfl
 | e :: r,q,h1,h2,h3=>by
  obtain ⟨h4,h5⟩:=List.pairwise_cons.1 h3
  have h6:=entFrom_ok r (some e.pl) (fun x hx=>h1 x (List.mem_cons_of_mem _ hx)) (fun a ha x hx=>by cases ha;exact h4 x hx) h5
  rw [entFrom,if_neg (by simpa using entOne_ok (h1 e (List.mem_cons_self ..)))]
  rw [if_pos]
  ·exact h6
  ·cases q with
   | none=>rfl
   | some a=>exact h2 a rfl e (List.mem_cons_self ..)
theorem Ens.ok {D:Nat→Dm} {n:Nat} {l:List En} (h:Ens D n l):entsErr D n l=0:=by
 unfold entsErr
 rw [if_neg (by simpa using h.right)]
 exact entFrom_ok l none h.each (fun a ha=>by cases ha) h.rise
theorem Ens.few {D:Nat→Dm} {n:Nat} {l:List En} (h:Ens D n l):l.length≤3000:=by
 have hp:=(allErr_some h.right).2.2.1
 have key:∀ (m:List En) (lo:Int),(∀ e∈m,InO D n e.pl)→(m.Pairwise fun a b=>lessL a.pl b.pl=true)→(∀ e∈m,lo≤numI D e.pl n)→0≤lo→lo≤(prodN D n:Int)→lo+(m.length:Int)≤(prodN D n:Int):=by
  intro m
  induction m with
  | nil=>intro lo _ _ _ _ h5;simpa using h5
  | cons e r ih =>
   intro lo h1 h2 h3 h4 h5
   obtain ⟨h6,h7⟩:=List.pairwise_cons.1 h2
   have he:=h1 e (List.mem_cons_self ..)
   have h8:=h3 e (List.mem_cons_self ..)
   have h9:=(numI_bound he (Nat.le_refl n)).2.1
   have:=ih (numI D e.pl n+1) (fun x hx=>h1 x (List.mem_cons_of_mem _ hx)) h7 (fun x hx=>by have:=less_num he (h1 x (List.mem_cons_of_mem _ hx)) (h6 x hx);omega) (by omega) (by omega)
   rw [List.length_cons]
   omega
 have:=key l 0 (fun e he=>(h.each e he).1) h.rise (fun e he=>(numI_bound (h.each e he).1 (Nat.le_refl n)).1) (Int.le_refl _) (by omega)
 omega
def cntE (l:List En) (p:List Int):Nat:=(l.takeWhile fun e=>lessL e.pl p).length
def hasE (l:List En) (p:List Int):Bool:=match l.drop (cntE l p) with
 | []=>false
 | e :: _ => !lessL p e.pl
def getE (l:List En) (p:List Int):Int×Int:=match l.drop (cntE l p) with
 | []=>(0,0)
 | e :: _=>if lessL p e.pl=true then (0,0) else (1,e.n)
def setL (l:List En) (p:List Int) (x:Int):List En:=l.take (cntE l p) ++ ⟨p,x⟩ :: l.drop (cntE l p+(if hasE l p=true then 1 else 0))
def clrL (l:List En) (p:List Int):List En:=l.take (cntE l p) ++ l.drop (cntE l p+1)
theorem drop_while {α:Type} (q:α→Bool) (l:List α):l.drop (l.takeWhile q).length=l.dropWhile q:=by
 induction l with
 | nil=>rfl
 | cons x r ih =>
  by_cases h:q x=true
  ·rw [List.takeWhile_cons,List.dropWhile_cons,if_pos h,if_pos h,List.length_cons,List.drop_succ_cons,ih]
  ·rw [List.takeWhile_cons,List.dropWhile_cons,if_neg h,if_neg h];rfl
theorem take_while {α:Type} (q:α→Bool) (l:List α):l.take (l.takeWhile q).length=l.takeWhile q:=by
 induction l with
 | nil=>rfl
 | cons x r ih =>
  by_cases h:q x=true
  ·rw [List.takeWhile_cons,if_pos h,List.length_cons,List.take_succ_cons,ih]
  ·rw [List.takeWhile_cons,if_neg h];rfl
theorem mem_while {α:Type} {q:α→Bool} {l:List α} {x:α} (h:x∈l.takeWhile q):q x=true:=by
 induction l with
 | nil=>cases h
 | cons y r ih =>
  by_cases hy:q y=true
  ·rw [List.takeWhile_cons,if_pos hy] at h
   rcases List.mem_cons.1 h with rfl | h
   ·exact hy
   ·exact ih h
  ·rw [List.takeWhile_cons,if_neg hy] at h
   cases h
theorem head_while {α:Type} {q:α→Bool} {l r:List α} {x:α} (h:l.dropWhile q=x :: r):q x=false:=by
 induction l with
 | nil=>cases h
 | cons y t ih =>
  by_cases hy:q y=true
  ·rw [List.dropWhile_cons,if_pos hy] at h;exact ih h
  ·rw [List.dropWhile_cons,if_neg hy] at h
   cases h
   simpa using hy
theorem cut_rise {l:List En} (h:l.Pairwise fun a b=>lessL a.pl b.pl=true) (p:List Int) :
  ∃ A B,l.take (cntE l p)=A∧(∀ e∈A,lessL e.pl p=true)∧(∀ e∈B,lessL p e.pl=true) ∧
   ((hasE l p=false∧l.drop (cntE l p)=B∧l=A ++ B∧getE l p=(0,0))∨∃ x,hasE l p=true∧l.drop (cntE l p)=⟨p,x⟩ :: B∧l=A ++ ⟨p,x⟩ :: B∧getE l p=(1,x)):=by
 have e1:l.take (cntE l p)=l.takeWhile fun e=>lessL e.pl p:=take_while _ _
 have e2:l.drop (cntE l p)=l.dropWhile fun e=>lessL e.pl p:=drop_while _ _
 have e3:l.take (cntE l p) ++ l.drop (cntE l p)=l:=List.take_append_drop _ _
 have hA:∀ e∈l.take (cntE l p),lessL e.pl p=true:=fun e he=>by rw [e1] at he;exact mem_while (q:=fun e:En=>lessL e.pl p) he
 cases hd:l.drop (cntE l p) with
 | nil =>
  refine ⟨_,[],rfl,hA,fun _ h=>(by cases h),Or.inl ⟨?_,rfl,?_,?_⟩⟩
  ·unfold hasE;rw [hd]
  ·conv=>lhs;rw [←e3,hd]
  ·unfold getE;rw [hd]
 | cons x r =>
  have hx:lessL x.pl p=false:=by rw [e2] at hd;exact head_while (q:=fun e:En=>lessL e.pl p) hd
  have hpw:(x :: r).Pairwise fun a b=>lessL a.pl b.pl=true:=by rw [←hd];exact h.sublist (List.drop_sublist _ _)
  obtain ⟨h4,_⟩:=List.pairwise_cons.1 hpw
  by_cases hl:lessL p x.pl=true
  ·refine ⟨_,x :: r,rfl,hA,fun e he=>?_,Or.inl ⟨?_,rfl,?_,?_⟩⟩
   ·rcases List.mem_cons.1 he with rfl | he
    ·exact hl
    ·exact lessL_trans _ _ _ hl (h4 e he)
   ·unfold hasE;rw [hd];simp [hl]
   ·conv=>lhs;rw [←e3,hd]
   ·unfold getE;rw [hd];simp [hl]
  ·have hl':lessL p x.pl=false:=by simpa using hl
   have hp:x.pl=p:=lessL_eq hx hl'
   have hxe:x=⟨p,x.n⟩:=by cases x;simp at hp ⊢;exact hp
   refine ⟨_,r,rfl,hA,fun e he=>by rw [←hp];exact h4 e he,Or.inr ⟨x.n,?_,?_,?_,?_⟩⟩
   ·unfold hasE;rw [hd];simp [hl']
   ·rw [←hxe]
   ·conv=>lhs;rw [←e3,hd]
    rw [←hxe]
   ·unfold getE;rw [hd];simp [hl']
theorem get_mem {l:List En} (h:l.Pairwise fun a b=>lessL a.pl b.pl=true) {e:En} (he:e∈l):getE l e.pl=(1,e.n):=by
 obtain ⟨A,B,_,hA,hB,⟨_,_,h2,_⟩ | ⟨x,_,_,h2,h3⟩⟩:=cut_rise h e.pl
 ·rw [h2] at he
  rcases List.mem_append.1 he with h4 | h4
  ·have:=hA e h4;rw [lessL_self] at this;cases this
  ·have:=hB e h4;rw [lessL_self] at this;cases this
 ·rw [h3]
  have h4:e=⟨e.pl,x⟩:=by
   rw [h2] at he
   rcases List.mem_append.1 he with h4 | h4
   ·have:=hA e h4;rw [lessL_self] at this;cases this
   ·rcases List.mem_cons.1 h4 with h5 | h5
    ·exact h5
    ·have:=hB e h5;rw [lessL_self] at this;cases this
  rw [h4]
theorem get_none {l:List En} (h:l.Pairwise fun a b=>lessL a.pl b.pl=true) {p:List Int} (hp:∀ e∈l,e.pl≠p):getE l p=(0,0)∧hasE l p=false:=by
 obtain ⟨A,B,_,_,_,⟨h1,_,_,h3⟩ | ⟨x,_,_,h2,_⟩⟩:=cut_rise h p
 ·exact ⟨h3,h1⟩
 ·exact absurd rfl (hp ⟨p,x⟩ (by rw [h2];simp))
theorem get_same {l m:List En} (hl:l.Pairwise fun a b=>lessL a.pl b.pl=true) (hm:m.Pairwise fun a b=>lessL a.pl b.pl=true) {q:List Int} (h:∀ e,e.pl=q→(e∈l↔e∈m)):getE l q=getE m q:=by
 by_cases he:∃ e∈l,e.pl=q
 ·obtain ⟨e,h1,rfl⟩:=he
  rw [get_mem hl h1,get_mem hm ((h e rfl).1 h1)]
 ·have h1:∀ e∈l,e.pl≠q:=fun e h1 h2=>he ⟨e,h1,h2⟩
  have h2:∀ e∈m,e.pl≠q:=fun e h2 h3=>h1 e ((h e h3).2 h2) h3
  rw [(get_none hl h1).1,(get_none hm h2).1]
theorem rise_join {A B:List En} {p:List Int} {x:Int} (hA:∀ e∈A,lessL e.pl p=true) (hB:∀ e∈B,lessL p e.pl=true) (h1:A.Pairwise fun a b=>lessL a.pl b.pl=true) (h2:B.Pairwise fun a b=>lessL a.pl b.pl=true):(A ++ ⟨p,x⟩ :: B).Pairwise fun a b=>lessL a.pl b.pl=true:=by
 refine List.pairwise_append.2 ⟨h1,List.Pairwise.cons (fun e he=>hB e he) h2,fun a ha b hb=>?_⟩
 rcases List.mem_cons.1 hb with rfl | hb
 ·exact hA a ha
 ·exact lessL_trans _ _ _ (hA a ha) (hB b hb)
theorem set_parts {l:List En} (h:l.Pairwise fun a b=>lessL a.pl b.pl=true) (p:List Int) (x:Int) :
  (setL l p x).Pairwise (fun a b=>lessL a.pl b.pl=true)∧(∀ e,e∈setL l p x↔e=⟨p,x⟩∨(e∈l∧e.pl≠p))∧(setL l p x).length=l.length+(if hasE l p=true then 0 else 1):=by
 obtain ⟨A,B,hTA,hA,hB,⟨h1,hd,h2,_⟩ | ⟨y,h1,hd,h2,_⟩⟩:=cut_rise h p
 ·have e:setL l p x=A ++ ⟨p,x⟩ :: B:=by unfold setL;rw [hTA,h1,if_neg (by simp),Nat.add_zero,hd]
  rw [e,h1]
  have hpw:=h
  rw [h2] at hpw
  obtain ⟨p1,p2,_⟩:=List.pairwise_append.1 hpw
  refine ⟨rise_join hA hB p1 p2,fun z=>?_,by rw [h2];simp;omega⟩
  rw [h2]
  constructor
  ·intro hz
   rcases List.mem_append.1 hz with hz | hz
   ·exact Or.inr ⟨List.mem_append.2 (Or.inl hz),lessL_ne (hA z hz)⟩
   ·rcases List.mem_cons.1 hz with hz | hz
    ·exact Or.inl hz
    ·exact Or.inr ⟨List.mem_append.2 (Or.inr hz),fun e=>lessL_ne (hB z hz) e.symm⟩
  ·rintro (hz | ⟨hz,_⟩)
   ·rw [hz];simp
   ·rcases List.mem_append.1 hz with hz | hz
    ·exact List.mem_append.2 (Or.inl hz)
    ·exact List.mem_append.2 (Or.inr (List.mem_cons_of_mem _ hz))
 ·have e:setL l p x=A ++ ⟨p,x⟩ :: B:=by
   unfold setL
   rw [hTA,h1,if_pos rfl,←List.drop_drop,hd]
   rfl
  rw [e,h1]
  have hpw:=h
  rw [h2] at hpw
  obtain ⟨p1,p2,_⟩:=List.pairwise_append.1 hpw
  refine ⟨rise_join hA hB p1 (List.pairwise_cons.1 p2).2,fun z=>?_,by rw [h2];simp⟩
  rw [h2]
  constructor
  ·intro hz
   rcases List.mem_append.1 hz with hz | hz
   ·exact Or.inr ⟨List.mem_append.2 (Or.inl hz),lessL_ne (hA z hz)⟩
   ·rcases List.mem_cons.1 hz with hz | hz
    ·exact Or.inl hz
    ·exact Or.inr ⟨List.mem_append.2 (Or.inr (List.mem_cons_of_mem _ hz)),fun e=>lessL_ne (hB z hz) e.symm⟩
  ·rintro (hz | ⟨hz,hne⟩)
   ·rw [hz];simp
   ·rcases List.mem_append.1 hz with hz | hz
    ·exact List.mem_append.2 (Or.inl hz)
    ·rcases List.mem_cons.1 hz with hz | hz
     ·exact absurd (by rw [hz]) hne
     ·exact List.mem_append.2 (Or.inr (List.mem_cons_of_mem _ hz))
theorem clr_parts {l:List En} (h:l.Pairwise fun a b=>lessL a.pl b.pl=true) (p:List Int) (hh:hasE l p=true) :
  (clrL l p).Pairwise (fun a b=>lessL a.pl b.pl=true)∧(∀ e,e∈clrL l p↔e∈l∧e.pl≠p)∧(clrL l p).length+1=l.length:=by
 obtain ⟨A,B,hTA,hA,hB,⟨h1,_⟩ | ⟨y,h1,hd,h2,_⟩⟩:=cut_rise h p
 ·rw [h1] at hh;cases hh
 ·have e:clrL l p=A ++ B:=by
   unfold clrL
   rw [hTA,←List.drop_drop,hd]
   rfl
  rw [e]
  have hpw:=h
  rw [h2] at hpw
  obtain ⟨p1,p2,_⟩:=List.pairwise_append.1 hpw
  refine ⟨List.pairwise_append.2 ⟨p1,(List.pairwise_cons.1 p2).2,fun a ha b hb=>lessL_trans _ _ _ (hA a ha) (hB b hb)⟩,fun z=>?_,by rw [h2];simp;omega⟩
  rw [h2]
  constructor
  ·intro hz
   rcases List.mem_append.1 hz with hz | hz
   ·exact ⟨List.mem_append.2 (Or.inl hz),lessL_ne (hA z hz)⟩
   ·exact ⟨List.mem_append.2 (Or.inr (List.mem_cons_of_mem _ hz)),fun e=>lessL_ne (hB z hz) e.symm⟩
  ·rintro ⟨hz,hne⟩
   rcases List.mem_append.1 hz with hz | hz
   ·exact List.mem_append.2 (Or.inl hz)
   ·rcases List.mem_cons.1 hz with hz | hz
    ·exact absurd (by rw [hz]) hne
    ·exact List.mem_append.2 (Or.inr hz)
theorem Ens.set {D:Nat→Dm} {n:Nat} {l:List En} (h:Ens D n l) {p:List Int} {x:Int} (hp:InO D n p) (hf:leafV D n p=true) (hx:numOk x=true):Ens D n (setL l p x):=by
 obtain ⟨h1,h2,_⟩:=set_parts h.rise p x
 refine ⟨h.right,fun e he=>?_,h1⟩
 rcases (h2 e).1 he with rfl | ⟨h3,_⟩
 ·exact ⟨hp,hf,hx⟩
 ·exact h.each e h3
theorem Ens.clr {D:Nat→Dm} {n:Nat} {l:List En} (h:Ens D n l) {p:List Int} (hh:hasE l p=true):Ens D n (clrL l p):=by
 obtain ⟨h1,h2,_⟩:=clr_parts h.rise p hh
 exact ⟨h.right,fun e he=>h.each e ((h2 e).1 he).1,h1⟩
theorem Ens.there {D:Nat→Dm} {n:Nat} {l:List En} (h:Ens D n l) (p:List Int) (x:Int):getE (setL l p x) p=(1,x)∧hasE (setL l p x) p=true:=by
 obtain ⟨h1,h2,_⟩:=set_parts h.rise p x
 have hm:(⟨p,x⟩:En)∈setL l p x:=(h2 _).2 (Or.inl rfl)
 refine ⟨get_mem h1 hm,?_⟩
 obtain ⟨A,B,_,hA,hB,⟨_,_,h3,_⟩ | ⟨y,h3,_⟩⟩:=cut_rise h1 p
 ·rw [h3] at hm
  rcases List.mem_append.1 hm with h4 | h4
  ·have:=hA _ h4;rw [lessL_self] at this;cases this
  ·have:=hB _ h4;rw [lessL_self] at this;cases this
 ·exact h3
theorem Ens.else {D:Nat→Dm} {n:Nat} {l:List En} (h:Ens D n l) {p q:List Int} (hq:q≠p) (x:Int):getE (setL l p x) q=getE l q:=by
 obtain ⟨h1,h2,_⟩:=set_parts h.rise p x
 refine get_same h1 h.rise fun e he=>?_
 rw [h2]
 constructor
 ·rintro (h3 | h3)
  ·exact absurd (by rw [←he,h3]) hq
  ·exact h3.1
 ·exact fun h3=>Or.inr ⟨h3,by rw [he];exact hq⟩
theorem Ens.gone {D:Nat→Dm} {n:Nat} {l:List En} (h:Ens D n l) {p:List Int} (hh:hasE l p=true):getE (clrL l p) p=(0,0)∧(clrL l p).length+1=l.length:=by
 obtain ⟨h1,h2,h3⟩:=clr_parts h.rise p hh
 exact ⟨(get_none h1 fun e he=>((h2 e).1 he).2).1,h3⟩
structure Ed where
 pl:List Int
 n:Int
 clear:Bool
def editErr (D:Nat→Dm) (n:Nat) (l:List En) (x:Ed):Int :=
 if shapeErr D n x.pl≠0 then shapeErr D n x.pl
 else if x.clear=true then (if hasE l x.pl=true then 0 else 5)
 else if leafV D n x.pl=false then 6
 else if numOk x.n=false then 1
 else 0
def editV (l:List En) (x:Ed):List En:=if x.clear=true then clrL l x.pl else setL l x.pl x.n
def editsFrom (D:Nat→Dm) (n:Nat):List En→Nat→List Ed→List En×Int×Int
 | l,_,[]=>(l,0,0)
 | l,i,x :: r=>if editErr D n l x=0 then editsFrom D n (editV l x) (i+1) r else ([],(i:Int),editErr D n l x)
def editsV (D:Nat→Dm) (n:Nat) (l:List En) (xs:List Ed):List En×Int×Int :=
 if 60<xs.length then ([],0,4) else if entsErr D n l≠0 then ([],0,entsErr D n l) else editsFrom D n l 0 xs
theorem editsFrom_ok {D:Nat→Dm} {n i:Nat} {l:List En} {x:Ed} (r:List Ed) (h:editErr D n l x=0):editsFrom D n l i (x :: r)=editsFrom D n (editV l x) (i+1) r:=by rw [editsFrom,if_pos h]
theorem editsFrom_bad {D:Nat→Dm} {n i:Nat} {l:List En} {x:Ed} (r:List Ed) (h:editErr D n l x≠0):editsFrom D n l i (x :: r)=([],(i:Int),editErr D n l x):=by rw [editsFrom,if_neg h]
theorem Ens.edit {D:Nat→Dm} {n:Nat} {l:List En} (h:Ens D n l) {x:Ed} (hx:editErr D n l x=0):InO D n x.pl∧Ens D n (editV l x):=by
 unfold editErr at hx
 split at hx
 ·rename_i h1;exact absurd hx h1
 ·rename_i h1
  have hI:InO D n x.pl:=inO_of (by rw [pe1 h.right];simpa using h1)
  refine ⟨hI,?_⟩
  unfold editV
  split at hx
  ·rename_i h2
   split at hx
   ·rename_i h3
    rw [if_pos h2]
    exact h.clr h3
   ·cases hx
  ·rename_i h2
   rw [if_neg h2]
   split at hx
   ·cases hx
   ·split at hx
    ·cases hx
    ·rename_i h3 h4
     exact h.set hI (by simpa using h3) (by simpa using h4)
end Go.Proofs.YtfgegmpoejilnaaGreatDoor
namespace Go.Proofs.YtfgegmpoejilnaaGreatDoor
open Go Go.ChangeShapes Go.WideShapes Go.ChangeAt Go.RowKit Go.Deep
set_option maxRecDepth 100000
structure EnL where
 e:En
 A:Option Addr
 c:Nat
def noEn:En:=⟨[],0⟩
def noL:EnL:=⟨noEn,none,0⟩
def lE (xs:List EnL):List En:=xs.map EnL.e
theorem lE_len (xs:List EnL):(lE xs).length=xs.length:=by simp [lE]
theorem lE_at (xs:List EnL) (k:Nat):(lE xs).getD k noEn=(xs.getD k noL).e:=by
 rw [List.getD_eq_getElem?_getD,List.getD_eq_getElem?_getD,lE,List.getElem?_map]
 cases xs[k]? <;> rfl
def cellsE:List EnL→List Value
 | []=>[]
 | x :: r=>.slice x.A x.e.pl.length x.c :: .int .i64 x.e.n :: cellsE r
theorem cellsE_len (xs:List EnL):(cellsE xs).length=xs.length*2:=by
 induction xs with
 | nil=>rfl
 | cons x r ih=>simp [cellsE,ih];omega
theorem cellsE_append (a b:List EnL):cellsE (a ++ b)=cellsE a ++ cellsE b:=by
 induction a with
 | nil=>rfl
 | cons x r ih=>simp [cellsE,ih]
theorem cellsE_take (xs:List EnL):∀ k,(cellsE xs).take (k*2)=cellsE (xs.take k):=by
 induction xs with
 | nil=>intro k;simp [cellsE]
 | cons x r ih =>
  intro k
  cases k with
  | zero=>simp [cellsE]
  | succ k=>rw [show (k+1)*2=k*2+1+1 by omega];simp [cellsE,ih]
theorem cellsE_drop (xs:List EnL):∀ k,(cellsE xs).drop (k*2)=cellsE (xs.drop k):=by
 induction xs with
 | nil=>intro k;simp [cellsE]
 | cons x r ih =>
  intro k
  cases k with
  | zero=>simp
  | succ k=>rw [show (k+1)*2=k*2+1+1 by omega];simp [cellsE,ih]
theorem cellsE_one (xs:List EnL):∀ v∈cellsE xs,v.oneCell'=true:=by
 induction xs with
 | nil=>intro v hv;cases hv
 | cons x r ih =>
  intro v hv
  simp only [cellsE,List.mem_cons] at hv
  rcases hv with rfl | rfl | hv
  ·rfl
  ·rfl
  ·exact ih v hv
theorem cellsE_at (xs:List EnL):∀ k,k<xs.length→(cellsE xs)[k*2]?=some (.slice (xs.getD k noL).A (xs.getD k noL).e.pl.length (xs.getD k noL).c)∧(cellsE xs)[k*2+1]?=some (.int .i64 (xs.getD k noL).e.n):=by
 induction xs with
 | nil=>intro k hk;cases hk
 | cons x r ih =>
  intro k hk
  cases k with
  | zero=>simp [cellsE]
  | succ k =>
   rw [show (k+1)*2=k*2+1+1 by omega]
   simp only [cellsE,List.getElem?_cons_succ,List.getD_cons_succ]
   exact ih k (by simpa using hk)
theorem enl_mem {xs:List EnL} {k:Nat} (h:k<xs.length):xs.getD k noL∈xs:=by
 rw [List.getD_eq_getElem?_getD,List.getElem?_eq_getElem h]
 exact List.getElem_mem h
def EnsAt (w:World) (b o:Nat) (xs:List EnL):Prop:=b<w.heap.size∧(∀ j u,(cellsE xs)[j]?=some u→w.cell? ⟨b,o+j,none⟩=some u)∧∀ x∈xs,PlAt w x.A x.c x.e.pl
theorem EnsAt.later {w w':World} {b o:Nat} {xs:List EnL} (h:EnsAt w b o xs) (hB:Below w.heap.size w w'):EnsAt w' b o xs :=
 ⟨Nat.lt_of_lt_of_le h.1 hB.size,fun j u hj=>(hB.cell (p:=⟨b,o+j,none⟩) h.1).trans (h.2.1 j u hj),fun x hx=>(h.2.2 x hx).later hB⟩
theorem EnsAt.pl {w:World} {b o:Nat} {xs:List EnL} (h:EnsAt w b o xs) {k:Nat} (hk:k<xs.length):PlAt w (xs.getD k noL).A (xs.getD k noL).c (xs.getD k noL).e.pl:=h.2.2 _ (enl_mem hk)
theorem EnsAt.at {w:World} {b o:Nat} {xs:List EnL} (h:EnsAt w b o xs) {k:Nat} (hk:k<xs.length):w.cell? ⟨b,o+k*2,none⟩=some (.slice (xs.getD k noL).A (xs.getD k noL).e.pl.length (xs.getD k noL).c)∧w.cell? ⟨b,o+k*2+1,none⟩=some (.int .i64 (xs.getD k noL).e.n):=by
 obtain ⟨h1,h2⟩:=cellsE_at xs k hk
 exact ⟨h.2.1 _ _ h1,by rw [Nat.add_assoc];exact h.2.1 _ _ h2⟩
def EnsV (w:World) (A:Option Addr) (cap:Nat) (xs:List EnL):Prop:=xs.length≤cap∧cap≤9223372036854775807∧(xs=[]∨∃ b o,A=some ⟨b,o,none⟩∧EnsAt w b o xs)
theorem EnsV.later {w w':World} {A:Option Addr} {cap:Nat} {xs:List EnL} (h:EnsV w A cap xs) (hB:Below w.heap.size w w'):EnsV w' A cap xs:=by
 obtain ⟨h1,h0,h2 | ⟨b,o,h2,h3⟩⟩:=h
 ·exact ⟨h1,h0,Or.inl h2⟩
 ·exact ⟨h1,h0,Or.inr ⟨b,o,h2,h3.later hB⟩⟩
theorem EnsV.nil (w:World) (A:Option Addr) (cap:Nat) (h:cap≤9223372036854775807):EnsV w A cap []:=⟨Nat.zero_le _,h,Or.inl rfl⟩
structure EdL where
 x:Ed
 A:Option Addr
 c:Nat
def noD:EdL:=⟨⟨[],0,false⟩,none,0⟩
def lD (ys:List EdL):List Ed:=ys.map EdL.x
theorem lD_len (ys:List EdL):(lD ys).length=ys.length:=by simp [lD]
def EdsAt (w:World) (b o:Nat) (ys:List EdL):Prop:=b<w.heap.size∧∀ k,k<ys.length→w.cell? ⟨b,o+k*3,none⟩=some (.slice (ys.getD k noD).A (ys.getD k noD).x.pl.length (ys.getD k noD).c)∧w.cell? ⟨b,o+k*3+1,none⟩=some (.int .i64 (ys.getD k noD).x.n)∧w.cell? ⟨b,o+k*3+2,none⟩=some (.bool (ys.getD k noD).x.clear)∧PlAt w (ys.getD k noD).A (ys.getD k noD).c (ys.getD k noD).x.pl
theorem EdsAt.later {w w':World} {b o:Nat} {ys:List EdL} (h:EdsAt w b o ys) (hB:Below w.heap.size w w'):EdsAt w' b o ys:=by
 refine ⟨Nat.lt_of_lt_of_le h.1 hB.size,fun k hk=>?_⟩
 obtain ⟨h1,h2,h3,h4⟩:=h.2 k hk
 exact ⟨(hB.cell (p:=⟨b,o+k*3,none⟩) h.1).trans h1,(hB.cell (p:=⟨b,o+k*3+1,none⟩) h.1).trans h2,(hB.cell (p:=⟨b,o+k*3+2,none⟩) h.1).trans h3,h4.later hB⟩
def EdsV (w:World) (A:Option Addr) (cap:Nat) (ys:List EdL):Prop:=ys.length≤cap∧cap≤9223372036854775807∧(ys=[]∨∃ b o,A=some ⟨b,o,none⟩∧EdsAt w b o ys)
theorem EdsV.later {w w':World} {A:Option Addr} {cap:Nat} {ys:List EdL} (h:EdsV w A cap ys) (hB:Below w.heap.size w w'):EdsV w' A cap ys:=by
 obtain ⟨h1,h0,h2 | ⟨b,o,h2,h3⟩⟩:=h
 ·exact ⟨h1,h0,Or.inl h2⟩
 ·exact ⟨h1,h0,Or.inr ⟨b,o,h2,h3.later hB⟩⟩
end Go.Proofs.YtfgegmpoejilnaaGreatDoor
namespace Go.Proofs.YtfgegmpoejilnaaGreatDoor
def cmpL:List Int→List Int→Int
 | [],[]=>0
 | [],_ :: _ => -1
 | _ :: _,[]=>1
 | a :: r,b :: t=>if a<b then -1 else if b<a then 1 else cmpL r t
theorem cmpL_three:∀ a b:List Int,(cmpL a b = -1∧lessL a b=true∧a≠b)∨(cmpL a b=0∧lessL a b=false∧a=b)∨(cmpL a b=1∧lessL a b=false∧a≠b)
 | [],[]=>Or.inr (Or.inl ⟨rfl,rfl,rfl⟩)
 | [],_ :: _=>Or.inl ⟨rfl,rfl,by simp⟩
 | _ :: _,[]=>Or.inr (Or.inr ⟨rfl,rfl,by simp⟩)
 | a :: r,b :: t=>by
  simp only [cmpL,lessL]
  by_cases h1:a<b
  ·rw [if_pos h1,if_neg (by omega)]
   exact Or.inl ⟨rfl,decide_eq_true h1,by simp;omega⟩
  ·rw [if_neg h1]
   by_cases h2:b<a
   ·rw [if_pos h2,if_neg (by omega)]
    exact Or.inr (Or.inr ⟨rfl,decide_eq_false h1,by simp;omega⟩)
   ·have h3:a=b:=by omega
    rw [if_neg h2,if_pos h3]
    subst h3
    rcases cmpL_three r t with ⟨e1,e2,e3⟩ | ⟨e1,e2,e3⟩ | ⟨e1,e2,e3⟩
    ·exact Or.inl ⟨e1,e2,by simpa using e3⟩
    ·exact Or.inr (Or.inl ⟨e1,e2,by rw [e3]⟩)
    ·exact Or.inr (Or.inr ⟨e1,e2,by simpa using e3⟩)
theorem cmpL_neg (a b:List Int):decide (cmpL a b<0)=lessL a b:=by
 rcases cmpL_three a b with ⟨e1,e2,_⟩ | ⟨e1,e2,_⟩ | ⟨e1,e2,_⟩ <;> rw [e1,e2] <;> rfl
theorem cmpL_nonneg (a b:List Int):decide (0≤cmpL a b) = !lessL a b:=by
 rcases cmpL_three a b with ⟨e1,e2,_⟩ | ⟨e1,e2,_⟩ | ⟨e1,e2,_⟩ <;> rw [e1,e2] <;> rfl
theorem dropI_at (l:List Int) {k:Nat} (h:k<l.length):l.drop k=l.getD k 0 :: l.drop (k+1):=by
 rw [List.drop_eq_getElem_cons h,List.getD_eq_getElem?_getD,List.getElem?_eq_getElem h]
 rfl
theorem cmpL_in {a b:List Int} {k:Nat} (h1:k<a.length) (h2:k<b.length):cmpL (a.drop k) (b.drop k)=if a.getD k 0<b.getD k 0 then -1 else if b.getD k 0<a.getD k 0 then 1 else cmpL (a.drop (k+1)) (b.drop (k+1)):=by
 rw [dropI_at a h1,dropI_at b h2,cmpL]
theorem cmpL_long {a b:List Int} {k:Nat} (h1:k<a.length) (h2:b.length≤k):cmpL (a.drop k) (b.drop k)=1:=by
 rw [dropI_at a h1,List.drop_eq_nil_of_le h2];rfl
theorem cmpL_short {a b:List Int} {k:Nat} (h1:a.length≤k) (h2:k<b.length):cmpL (a.drop k) (b.drop k) = -1:=by
 rw [dropI_at b h2,List.drop_eq_nil_of_le h1];rfl
theorem cmpL_end {a b:List Int} {k:Nat} (h1:a.length≤k) (h2:b.length≤k):cmpL (a.drop k) (b.drop k)=0:=by
 rw [List.drop_eq_nil_of_le h1,List.drop_eq_nil_of_le h2];rfl
theorem drop_en (l:List En) {k:Nat} (h:k<l.length):l.drop k=l.getD k noEn :: l.drop (k+1):=by
 rw [List.drop_eq_getElem_cons h,List.getD_eq_getElem?_getD,List.getElem?_eq_getElem h]
 rfl
theorem cnt_at:∀ (l:List En) (p:List Int) (i:Nat),i≤l.length→(∀ t,t<i→lessL (l.getD t noEn).pl p=true)→(i<l.length→lessL (l.getD i noEn).pl p=false)→cntE l p=i
 | [],p,i,hi,_,_=>by simp at hi;subst hi;rfl
 | e :: r,p,0,_,_,h2=>by
  have h3:=h2 (by simp)
  simp at h3
  simp [cntE,h3]
 | e :: r,p,i+1,hi,h1,h2=>by
  have h3:=h1 0 (by omega)
  simp at h3
  have h4:=cnt_at r p i (by simpa using hi) (fun t ht=>by simpa using h1 (t+1) (by omega)) (fun ht=>by simpa using h2 (by simpa using ht))
  unfold cntE at h4 ⊢
  rw [List.takeWhile_cons,if_pos h3,List.length_cons,h4]
theorem cnt_le (l:List En) (p:List Int):cntE l p≤l.length:=by
 unfold cntE
 exact (List.takeWhile_sublist _).length_le
theorem has_in {l:List En} {p:List Int} {i:Nat} (h:cntE l p=i) (hi:i<l.length):hasE l p = !lessL p (l.getD i noEn).pl∧getE l p=if lessL p (l.getD i noEn).pl=true then (0,0) else (1,(l.getD i noEn).n):=by
 have e:l.drop (cntE l p)=l.getD i noEn :: l.drop (i+1):=by rw [h,drop_en l hi]
 unfold hasE getE
 rw [e]
 exact ⟨rfl,rfl⟩
theorem has_out {l:List En} {p:List Int} {i:Nat} (h:cntE l p=i) (hi:l.length≤i):hasE l p=false∧getE l p=(0,0):=by
 have e:l.drop (cntE l p)=[]:=by rw [h,List.drop_eq_nil_of_le hi]
 unfold hasE getE
 rw [e]
 exact ⟨rfl,rfl⟩
theorem rise_at {l:List En} (h:l.Pairwise fun a b=>lessL a.pl b.pl=true) {a b:Nat} (hab:a<b) (hb:b<l.length):lessL (l.getD a noEn).pl (l.getD b noEn).pl=true:=by
 have:=List.pairwise_iff_getElem.1 h a b (by omega) hb hab
 rw [List.getD_eq_getElem?_getD,List.getD_eq_getElem?_getD,List.getElem?_eq_getElem hb,List.getElem?_eq_getElem (by omega:a<l.length)]
 exact this
theorem less_mono {l:List En} (h:l.Pairwise fun a b=>lessL a.pl b.pl=true) {p:List Int} {a b:Nat} (hab:a≤b) (hb:b<l.length) (hl:lessL (l.getD b noEn).pl p=true):lessL (l.getD a noEn).pl p=true:=by
 rcases Nat.eq_or_lt_of_le hab with rfl | h1
 ·exact hl
 ·exact lessL_trans _ _ _ (rise_at h h1 hb) hl
theorem has_cmp {l:List En} {p:List Int} {i:Nat} (h:cntE l p=i) (hi:i<l.length):decide (cmpL (l.getD i noEn).pl p=0)=hasE l p:=by
 have h1:lessL (l.getD i noEn).pl p=false:=by
  have e:l.dropWhile (fun e=>lessL e.pl p)=l.getD i noEn :: l.drop (i+1):=by rw [←drop_while];show l.drop (cntE l p)=_;rw [h,drop_en l hi]
  exact head_while (q:=fun e:En=>lessL e.pl p) e
 rw [(has_in h hi).1]
 rcases cmpL_three (l.getD i noEn).pl p with ⟨_,e2,_⟩ | ⟨e1,_,e3⟩ | ⟨e1,_,e3⟩
 ·rw [e2] at h1;cases h1
 ·rw [e1,e3,lessL_self];rfl
 ·rw [e1]
  rcases lessL_total _ _ e3 with h2 | h2
  ·rw [h2] at h1;cases h1
  ·rw [h2];rfl
def qOf (l:List En):Nat→Option (List Int)
 | 0=>none
 | k+1=>some (l.getD k noEn).pl
theorem ent_step {D:Nat→Dm} {n:Nat} {l:List En} {k:Nat} (h:k<l.length):entFrom D n (qOf l k) (l.drop k)=if entOne D n (l.getD k noEn)≠0 then entOne D n (l.getD k noEn) else if aheadOk (qOf l k) (l.getD k noEn).pl=true then entFrom D n (qOf l (k+1)) (l.drop (k+1)) else 7:=by
 rw [drop_en l h,entFrom]
 rfl
theorem ent_bad {D:Nat→Dm} {n:Nat} {l:List En} {k:Nat} (h:k<l.length) (he:entOne D n (l.getD k noEn)≠0):entFrom D n (qOf l k) (l.drop k)=entOne D n (l.getD k noEn):=by rw [ent_step h,if_pos he]
theorem ent_clash {D:Nat→Dm} {n:Nat} {l:List En} {k:Nat} (h:k<l.length) (he:entOne D n (l.getD k noEn)=0) (hq:aheadOk (qOf l k) (l.getD k noEn).pl=false):entFrom D n (qOf l k) (l.drop k)=7:=by rw [ent_step h,if_neg (by simpa using he),if_neg (by rw [hq];decide)]
theorem ent_on {D:Nat→Dm} {n:Nat} {l:List En} {k:Nat} (h:k<l.length) (he:entOne D n (l.getD k noEn)=0) (hq:aheadOk (qOf l k) (l.getD k noEn).pl=true):entFrom D n (qOf l k) (l.drop k)=entFrom D n (qOf l (k+1)) (l.drop (k+1)):=by rw [ent_step h,if_neg (by simpa using he),if_pos hq]
theorem ent_end {D:Nat→Dm} {n:Nat} {l:List En} {k:Nat} (h:l.length≤k):entFrom D n (qOf l k) (l.drop k)=0:=by
 rw [List.drop_eq_nil_of_le h]
 cases qOf l k <;> rfl
theorem ents_bad {D:Nat→Dm} {n:Nat} (l:List En) (h:(allErr D n).2.2≠0):entsErr D n l=(allErr D n).2.2:=by unfold entsErr;rw [if_pos h]
theorem ents_in {D:Nat→Dm} {n:Nat} (l:List En) (h:(allErr D n).2.2=0):entsErr D n l=entFrom D n (qOf l 0) (l.drop 0):=by unfold entsErr;rw [if_neg (by simpa using h)];rfl
theorem one_place {D:Nat→Dm} {n:Nat} {e:En} (hR:(allErr D n).2.2=0) (h:placeErr D n e.pl≠0):entOne D n e=placeErr D n e.pl:=by
 rw [pe1 hR] at h ⊢
 unfold entOne
 rw [if_pos h]
theorem one_leaf {D:Nat→Dm} {n:Nat} {e:En} (hR:(allErr D n).2.2=0) (h:placeErr D n e.pl=0) (hf:leafV D n e.pl=false):entOne D n e=6:=by
 rw [pe1 hR] at h
 unfold entOne
 rw [if_neg (by simpa using h),if_pos hf]
theorem one_num {D:Nat→Dm} {n:Nat} {e:En} (hR:(allErr D n).2.2=0) (h:placeErr D n e.pl=0) (hf:leafV D n e.pl=true):entOne D n e=if numOk e.n=false then 1 else 0:=by
 rw [pe1 hR] at h
 unfold entOne
 rw [if_neg (by simpa using h),if_neg (by simp [hf])]
end Go.Proofs.YtfgegmpoejilnaaGreatDoor
namespace Go.Proofs.YtfgegmpoejilnaaGreatDoor
open Go Go.ChangeShapes Go.WideShapes Go.ChangeAt Go.RowKit
set_option maxRecDepth 20000
theorem ent_ne_int:(3:Nat)≠63:=by decide
theorem grown_trans {w w1 w2:World} {r:Option Nat} (h:w.grownBy w1 r) (k:w1.grownBy w2 r):w.grownBy w2 r :=
 ⟨k.os.trans h.os,k.tape.trans h.tape,k.output.trans h.output,Nat.le_trans h.size k.size,fun i hi hr=>(k.block i (Nat.lt_of_lt_of_le hi h.size) hr).trans (h.block i hi hr)⟩
theorem grown_below {w w':World} {r:Option Nat} (h:Below w.heap.size w w'):w.grownBy w' r:=⟨h.os,h.tape,h.output,h.size,fun i hi _=>h.block i hi⟩
theorem grown_drew {w w':World} {r:Option Nat} (h:w.grownBy w' r):w.grownBy w'.drew r:=⟨h.os,h.tape,h.output,h.size,h.block⟩
theorem grown_refl (w:World) (r:Option Nat):w.grownBy w r:=⟨rfl,rfl,rfl,Nat.le_refl _,fun _ _ _=>rfl⟩
theorem grown_setRow (w:World) (g:Nat) (cs:Array Value):w.grownBy (w.setRow g cs) (some g) :=
 ⟨rfl,rfl,rfl,by rw [setRow_size];exact Nat.le_refl _,fun i _ hr=>setRow_other w g i cs fun e=>hr (by rw [e])⟩
theorem below_grown {B:Nat} {w0 w w':World} {g:Nat} (h:Below B w0 w) (hg:w.grownBy w' (some g)) (hB:B≤w.heap.size) (hr:B≤g):Below B w0 w' :=
 h.grown hg hB fun k hk=>by cases hk;exact hr
def PlTy (w:World) (A:Option Addr) (c:Nat) (L:List Int):Prop:=L.length≤c∧(L=[]∨∃ b o cs fr,A=some ⟨b,o,none⟩∧w.heap[b]?=some (.cells cs 3 fr)∧∀ j,j<L.length→w.cell? ⟨b,o+j,none⟩=some (.int .i64 (L.getD j 0)))
theorem PlTy.pl {w:World} {A:Option Addr} {c:Nat} {L:List Int} (h:PlTy w A c L):PlAt w A c L:=by
 obtain ⟨h1,h2 | ⟨b,o,cs,fr,h2,h3,h4⟩⟩:=h
 ·exact ⟨h1,Or.inl h2⟩
 ·exact ⟨h1,Or.inr ⟨b,o,h2,(Array.getElem?_eq_some_iff.1 h3).1,h4⟩⟩
theorem PlTy.nil (w:World) (A:Option Addr) (c:Nat):PlTy w A c []:=⟨Nat.zero_le _,Or.inl rfl⟩
theorem PlTy.grown {w w':World} {A:Option Addr} {c g:Nat} {L:List Int} {cur:Array Value} {fr:Nat×Nat} (h:PlTy w A c L) (hg:w.heap[g]?=some (.cells cur 63 fr)) (hG:w.grownBy w' (some g)):PlTy w' A c L:=by
 obtain ⟨h1,h2 | ⟨b,o,cs,fr',h2,h3,h4⟩⟩:=h
 ·exact ⟨h1,Or.inl h2⟩
 ·have hne:b≠g:=fun e=>by
   rw [e,hg] at h3
   simp only [Option.some.injEq,Obj.cells.injEq] at h3
   exact ent_ne_int h3.2.1.symm
  have hb:w'.heap[b]?=w.heap[b]?:=hG.block b (Array.getElem?_eq_some_iff.1 h3).1 fun e=>hne (by simpa using e)
  exact ⟨h1,Or.inr ⟨b,o,cs,fr',h2,hb.trans h3,fun j hj=>(World.cell?_of_block (a:=⟨b,o+j,none⟩) hb).trans (h4 j hj)⟩⟩
theorem PlTy.later {w w':World} {A:Option Addr} {c:Nat} {L:List Int} (h:PlTy w A c L) (hB:Below w.heap.size w w'):PlTy w' A c L:=by
 obtain ⟨h1,h2 | ⟨b,o,cs,fr',h2,h3,h4⟩⟩:=h
 ·exact ⟨h1,Or.inl h2⟩
 ·have hb:w'.heap[b]?=w.heap[b]?:=hB.block b (Array.getElem?_eq_some_iff.1 h3).1
  exact ⟨h1,Or.inr ⟨b,o,cs,fr',h2,hb.trans h3,fun j hj=>(World.cell?_of_block (a:=⟨b,o+j,none⟩) hb).trans (h4 j hj)⟩⟩
theorem plty_own {w:World} {base:Nat} {v:Value} {L:List Int} (h:w.ownsRow base 3 1 v L.length (L.map (Value.int .i64))):∃ A c,v=.slice A L.length c∧PlTy w A c L:=by
 rcases h.2 with ⟨rfl,h0⟩ | ⟨g,cap,cur,rfl,hb,hg,hc,_,_,_⟩
 ·have:L=[]:=List.eq_nil_of_length_eq_zero h0
  subst this
  exact ⟨none,0,rfl,PlTy.nil _ _ _⟩
 ·refine ⟨_,cap,rfl,hc,Or.inr ⟨g,0,cur,_,rfl,hg,fun j hj=>?_⟩⟩
  have hx:=h.cells (g:=g) rfl j (.int .i64 (L.getD j 0)) (by simp [List.getD,List.getElem?_eq_getElem hj])
  have hadd:(⟨g,0,none⟩:Addr).add j=⟨g,j,none⟩:=by unfold Addr.add;split <;> simp_all
  rw [hadd] at hx
  rw [Nat.zero_add]
  exact hx
def RowE (w:World) (g cap:Nat) (xs:List EnL):Prop:=(∃ cur:Array Value,w.heap[g]?=some (.cells cur 63 (0,0))∧cur.size=cap*2∧cur.toList.take (xs.length*2)=cellsE xs)∧xs.length≤cap∧cap≤maxLen∧∀ x∈xs,PlTy w x.A x.c x.e.pl
section
variable {w w':World} {g cap:Nat} {xs:List EnL}
theorem RowE.lt (h:RowE w g cap xs):g<w.heap.size:=by
 obtain ⟨⟨cur,h1,_⟩,_⟩:=h
 exact (Array.getElem?_eq_some_iff.1 h1).1
theorem RowE.cells (h:RowE w g cap xs):∀ j u,(cellsE xs)[j]?=some u→w.cell? ⟨g,j,none⟩=some u:=by
 obtain ⟨⟨cur,h1,h2,h3⟩,_⟩:=h
 intro j u hj
 have hlt:=(List.getElem?_eq_some_iff.1 hj).1
 rw [cellsE_len] at hlt
 rw [←h3,List.getElem?_take,if_pos hlt,Array.getElem?_toList] at hj
 simp [World.cell?,h1,hj]
theorem RowE.full (h:RowE w g cap xs) {j:Nat} (hj:j<cap*2):(w.cell? ⟨g,j,none⟩).isSome=true:=by
 obtain ⟨⟨cur,h1,h2,h3⟩,_⟩:=h
 simp [World.cell?,h1,h2,hj]
theorem RowE.frozen (h:RowE w g cap xs) (j:Nat):w.frozen? ⟨g,j,none⟩=false:=by
 obtain ⟨⟨cur,h1,_⟩,_⟩:=h
 simp [World.frozen?,h1]
theorem RowE.ens (h:RowE w g cap xs):EnsAt w g 0 xs:=⟨h.lt,fun j u hj=>by rw [Nat.zero_add];exact h.cells j u hj,fun x hx=>(h.2.2.2 x hx).pl⟩
theorem RowE.ensV (h:RowE w g cap xs):EnsV w (some ⟨g,0,none⟩) cap xs:=⟨h.2.1,by have:=h.2.2.1;unfold maxLen at this;omega,Or.inr ⟨g,0,rfl,h.ens⟩⟩
theorem RowE.later (h:RowE w g cap xs) (hB:Below w.heap.size w w'):RowE w' g cap xs:=by
 have hlt:=h.lt
 obtain ⟨⟨cur,h1,h2,h3⟩,h4,h5,h6⟩:=h
 exact ⟨⟨cur,(hB.block g hlt).trans h1,h2,h3⟩,h4,h5,fun x hx=>(h6 x hx).later hB⟩
theorem RowE.own (h:RowE w g cap xs) {base:Nat} (hb:base≤g):w.ownsRow base 63 2 (.slice (some ⟨g,0,none⟩) xs.length cap) xs.length (cellsE xs):=by
 obtain ⟨⟨cur,h1,h2,h3⟩,h4,h5,h6⟩:=h
 exact ⟨cellsE_len xs,Or.inr ⟨g,cap,cur,rfl,hb,h1,h4,h5,h2,h3⟩⟩
theorem row_own {base:Nat} {v:Value} (h:w.ownsRow base 63 2 v xs.length (cellsE xs)) (hv:v≠.slice none 0 0) (hp:∀ x∈xs,PlTy w x.A x.c x.e.pl):∃ g cap,v=.slice (some ⟨g,0,none⟩) xs.length cap∧base≤g∧RowE w g cap xs:=by
 rcases h.2 with ⟨h0,_⟩ | ⟨g,cap,cur,rfl,hb,hg,h4,h5,h2,h3⟩
 ·exact absurd h0 hv
 ·exact ⟨g,cap,rfl,hb,⟨cur,hg,h2,h3⟩,h4,h5,hp⟩
theorem RowE.lay (h:RowE w g cap xs) {cs:List Value} {ys:List EnL} (hs:cs.length=cap*2) (ht:cs.take (ys.length*2)=cellsE ys) (hl:ys.length≤cap) (hp:∀ y∈ys,PlTy w y.A y.c y.e.pl):RowE (w.setRow g cs.toArray) g cap ys:=by
 obtain ⟨⟨cur,h1,h2,h3⟩,h4,h5,h6⟩:=h
 exact ⟨⟨cs.toArray,setRow_heap w g cur _ _ _ h1,by simpa using hs,by simpa using ht⟩,hl,h5,fun y hy=>(hp y hy).grown h1 (grown_setRow ..)⟩
end
theorem setCells_row (g:Nat) (t:TypeId):∀ (vs:List Value) (o:Nat) (cur:Array Value) (w:World),w.heap[g]?=some (.cells cur t (0,0))→o+vs.length≤cur.size→w.setCells g o vs=w.setRow g (cur.toList.take o ++ vs ++ cur.toList.drop (o+vs.length)).toArray
 | [],o,cur,w,hg,_=>by
  simp only [World.setCells,List.append_nil,List.length_nil,Nat.add_zero,List.take_append_drop,Array.toArray_toList]
  rw [setRow_self w g cur t (0,0) hg]
 | v :: r,o,cur,w,hg,hl=>by
  simp only [List.length_cons] at hl
  rw [World.setCells,setCell_eq_setRow w g o cur t (0,0) v hg,setCells_row g t r (o+1) (cur.setIfInBounds o v) _ (setRow_heap w g cur _ t _ hg) (by simp;omega),setRow_setRow]
  have e:=list_seg_step cur.toList o v r (by simp;omega)
  congr 2
  simpa [Array.toList_setIfInBounds,Nat.add_assoc] using e
variable {P:Program}
theorem run_copy_k (k:Nat) (w:World) (dT sT ty elem:TypeId) (g o dLen dCap:Nat) (a:Addr) (sLen sCap:Nat) (cur:Array Value) (t:TypeId) (cs:List Value)
  (hu:P.underlying dT=some (.slice elem)) (hs:(P.info? elem).map (·.size)=some k)
  (hg:w.heap[g]?=some (.cells cur t (0,0))) (hn:cs.length=Nat.min sLen dLen*k)
  (hsrc:∀ j v,cs[j]?=some v→w.cell? (a.add j)=some v) (hfit:o+cs.length≤cur.size) (h1:∀ v∈cs,v.oneCell'=true) :
  (Builtin.copy_ #[dT,sT] ty #[.slice (some ⟨g,o,none⟩) dLen dCap,.slice (some a) sLen sCap]).run P w =
   .ok (goInt (Nat.min sLen dLen)) (w.setRow g (cur.toList.take o ++ cs ++ cur.toList.drop (o+cs.length)).toArray):=by
 have hl:=run_loadCells_list (P:=P) w a cs hsrc
 have hst:=run_storeCells_at P g o t cs 0 cur w hg (by simpa using hfit) h1
 rw [hn] at hl
 cases hq:P.info? elem with
 | none=>simp [hq] at hs
 | some i =>
  have hi:i.size=k:=by simpa [hq] using hs
  simp [Builtin.copy_,run_underlying hu,Builtin.lenOf,Builtin.firstCells,sizeOf,typeInfo,hq,hi,hl,hst]
theorem run_clear_one (w:World) (t e ty:TypeId) (z x y:Value) (ht:P.underlying t=some (.slice e)) (hv:∀ w,(zeroValue e).run P w=.ok z w) (hz:z.cells=#[x,y]) (hx:x.oneCell'=true) (hy:y.oneCell'=true) (g o c:Nat) (cur:Array Value) (u:TypeId) (hg:w.heap[g]?=some (.cells cur u (0,0))) (hfit:o+2≤cur.size) :
  (Builtin.clear_ #[t] ty #[.slice (some ⟨g,o,none⟩) 1 c]).run P w=.ok (.tuple #[]) (w.setRow g (cur.toList.take o ++ [x,y] ++ cur.toList.drop (o+2)).toArray):=by
 have hzc:(Builtin.zeroCells z.cells 1).toList=[x,y]:=by
  rw [hz]
  apply List.ext_getElem
  ·simp [Builtin.zeroCells]
  ·intro i h1 h2
   have h3:i=0∨i=1:=by simp at h2;omega
   rcases h3 with rfl | rfl <;> simp [Builtin.zeroCells]
 have hst:=run_storeCells_at P g o u [x,y] 0 cur w hg (by simpa using hfit) (by intro v hv';simp at hv';rcases hv' with rfl | rfl <;> assumption)
 simp only [Nat.add_zero] at hst
 simp [Builtin.clear_,run_underlying ht,hv,hzc,hst]
theorem take_join {α:Type} {a b:List α} {k:Nat} (h:a.length=k):(a ++ b).take k=a:=by subst h;simp
theorem drop_join {α:Type} {a b:List α} {k:Nat} (h:a.length=k):(a ++ b).drop k=b:=by subst h;simp
theorem head_cells {C:List Value} {xs:List EnL} (hC:C.take (xs.length*2)=cellsE xs) {i:Nat} (hi:i≤xs.length):C.take (i*2)=cellsE (xs.take i):=by
 rw [←cellsE_take,←hC,List.take_take,Nat.min_eq_left (by omega)]
theorem ins_cells {C C1 C2:List Value} {xs:List EnL} {x:EnL} {i:Nat} (hC:C.take (xs.length*2)=cellsE xs) (hlen:(xs.length+1)*2≤C.length) (hi:i≤xs.length)
  (h1:C1=C.take ((i+1)*2) ++ cellsE (xs.drop i) ++ C.drop ((i+1)*2+(cellsE (xs.drop i)).length)) (h2:C2=C1.take (i*2) ++ cellsE [x] ++ C1.drop (i*2+(cellsE [x]).length)) :
  C2.length=C.length∧C2.take ((xs.take i ++ x :: xs.drop i).length*2)=cellsE (xs.take i ++ x :: xs.drop i):=by
 have hd:(cellsE (xs.drop i)).length=(xs.length-i)*2:=by rw [cellsE_len,List.length_drop]
 have hx:(cellsE [x]).length=2:=by rw [cellsE_len];rfl
 have e1:C1.take (i*2)=cellsE (xs.take i):=by
  rw [h1,List.append_assoc,List.take_append_of_le_length (by rw [List.length_take];omega),List.take_take,Nat.min_eq_left (by omega)]
  exact head_cells hC hi
 have e2:C1.drop (i*2+(cellsE [x]).length)=cellsE (xs.drop i) ++ C.drop ((i+1)*2+(cellsE (xs.drop i)).length):=by
  rw [h1,List.append_assoc,hx]
  exact drop_join (by rw [List.length_take];omega)
 rw [h2,e1,e2]
 refine ⟨?_,?_⟩
 ·simp only [List.length_append,cellsE_len,List.length_take,List.length_drop,List.length_cons,List.length_nil]
  omega
 ·have hl:(xs.take i ++ x :: xs.drop i).length=xs.length+1:=by simp;omega
  rw [hl,←List.append_assoc]
  rw [show cellsE (xs.take i ++ x :: xs.drop i)=cellsE (xs.take i) ++ cellsE [x] ++ cellsE (xs.drop i) by rw [show x :: xs.drop i=[x] ++ xs.drop i from rfl,cellsE_append,cellsE_append,List.append_assoc]]
  exact take_join (by simp only [List.length_append,cellsE_len,List.length_take,List.length_drop,List.length_cons,List.length_nil];omega)
theorem grow_cells {C C1 C2:List Value} {xs:List EnL} {x:EnL} {i:Nat} (hC:C.take (i*2)=cellsE (xs.take i)) (hlen:(xs.length+1)*2≤C.length) (hi:i≤xs.length)
  (h1:C1=C.take (i*2) ++ cellsE [x] ++ C.drop (i*2+(cellsE [x]).length)) (h2:C2=C1.take ((i+1)*2) ++ cellsE (xs.drop i) ++ C1.drop ((i+1)*2+(cellsE (xs.drop i)).length)) :
  C2.length=C.length∧C2.take ((xs.take i ++ x :: xs.drop i).length*2)=cellsE (xs.take i ++ x :: xs.drop i):=by
 have hd:(cellsE (xs.drop i)).length=(xs.length-i)*2:=by rw [cellsE_len,List.length_drop]
 have hx:(cellsE [x]).length=2:=by rw [cellsE_len];rfl
 have hc1:C1.length=C.length:=by
  rw [h1,hC]
  simp only [List.length_append,cellsE_len,List.length_take,List.length_drop,List.length_cons,List.length_nil]
  omega
 have e1:C1.take ((i+1)*2)=cellsE (xs.take i) ++ cellsE [x]:=by
  rw [h1,hC]
  exact take_join (by simp only [List.length_append,cellsE_len,List.length_take,List.length_cons,List.length_nil];omega)
 rw [h2,e1]
 refine ⟨?_,?_⟩
 ·simp only [List.length_append,cellsE_len,List.length_take,List.length_drop,List.length_cons,List.length_nil,hc1]
  omega
 ·have hl:(xs.take i ++ x :: xs.drop i).length=xs.length+1:=by simp;omega
  rw [hl]
  rw [show cellsE (xs.take i ++ x :: xs.drop i)=cellsE (xs.take i) ++ cellsE [x] ++ cellsE (xs.drop i) by rw [show x :: xs.drop i=[x] ++ xs.drop i from rfl,cellsE_append,cellsE_append,List.append_assoc]]
  exact take_join (by simp only [List.length_append,cellsE_len,List.length_take,List.length_drop,List.length_cons,List.length_nil];omega)
theorem del_cells {C C1 C2:List Value} {xs:List EnL} {z0 z1:Value} {i:Nat} (hC:C.take (xs.length*2)=cellsE xs) (hlen:xs.length*2≤C.length) (hi:i<xs.length)
  (h1:C1=C.take (i*2) ++ cellsE (xs.drop (i+1)) ++ C.drop (i*2+(cellsE (xs.drop (i+1))).length)) (h2:C2=C1.take ((xs.length-1)*2) ++ [z0,z1] ++ C1.drop ((xs.length-1)*2+2)) :
  C2.length=C.length∧C2.take ((xs.take i ++ xs.drop (i+1)).length*2)=cellsE (xs.take i ++ xs.drop (i+1)):=by
 have hd:(cellsE (xs.drop (i+1))).length=(xs.length-(i+1))*2:=by rw [cellsE_len,List.length_drop]
 have hc1:C1.length=C.length:=by
  rw [h1]
  simp only [List.length_append,cellsE_len,List.length_take,List.length_drop]
  omega
 have e1:C1.take ((xs.length-1)*2)=cellsE (xs.take i) ++ cellsE (xs.drop (i+1)):=by
  rw [h1,head_cells hC (by omega)]
  exact take_join (by simp only [List.length_append,cellsE_len,List.length_take,List.length_drop];omega)
 have hl:(xs.take i ++ xs.drop (i+1)).length=xs.length-1:=by simp;omega
 rw [h2,hl,cellsE_append,e1]
 refine ⟨?_,?_⟩
 ·simp only [List.length_append,cellsE_len,List.length_take,List.length_drop,List.length_cons,List.length_nil,hc1]
  omega
 ·rw [List.append_assoc _ _ (C1.drop _)]
  exact take_join (by simp only [List.length_append,cellsE_len,List.length_take,List.length_drop];omega)
theorem cellsE_set {xs:List EnL}:∀ {i:Nat} (n:Int),i<xs.length→(cellsE xs).set (i*2+1) (.int .i64 n)=cellsE (xs.set i ⟨⟨(xs.getD i noL).e.pl,n⟩,(xs.getD i noL).A,(xs.getD i noL).c⟩):=by
 induction xs with
 | nil=>intro i n h;cases h
 | cons x r ih =>
  intro i n h
  cases i with
  | zero=>simp [cellsE]
  | succ i =>
   rw [show (i+1)*2+1=(i*2+1)+1+1 by omega]
   simp only [cellsE,List.set_cons_succ,List.getD_cons_succ]
   rw [ih n (by simpa using h)]
theorem RowE.setN {w:World} {g cap:Nat} {xs:List EnL} (h:RowE w g cap xs) {i:Nat} (hi:i<xs.length) (n:Int):RowE (w.setCell ⟨g,i*2+1,none⟩ (.int .i64 n)) g cap (xs.set i ⟨⟨(xs.getD i noL).e.pl,n⟩,(xs.getD i noL).A,(xs.getD i noL).c⟩)∧w.grownBy (w.setCell ⟨g,i*2+1,none⟩ (.int .i64 n)) (some g):=by
 obtain ⟨⟨cur,h1,h2,h3⟩,h4,h5,h6⟩:=h
 rw [setCell_eq_setRow w g (i*2+1) cur _ (0,0) _ h1]
 refine ⟨?_,grown_setRow ..⟩
 refine ⟨⟨_,setRow_heap w g cur _ _ _ h1,by simpa using h2,?_⟩,by simpa using h4,h5,fun y hy=>?_⟩
 ·rw [Array.toList_setIfInBounds,List.length_set,←cellsE_set n hi,←h3,List.take_set]
 ·refine PlTy.grown (g:=g) ?_ h1 (grown_setRow ..)
  rcases List.mem_or_eq_of_mem_set hy with hy | rfl
  ·exact h6 y hy
  ·exact h6 (xs.getD i noL) (enl_mem hi)
theorem lE_append (a b:List EnL):lE (a ++ b)=lE a ++ lE b:=by simp [lE]
theorem lE_take (a:List EnL) (k:Nat):lE (a.take k)=(lE a).take k:=by simp [lE]
theorem lE_drop (a:List EnL) (k:Nat):lE (a.drop k)=(lE a).drop k:=by simp [lE]
theorem lE_ins (xs:List EnL) (x:EnL) (i:Nat):lE (xs.take i ++ x :: xs.drop i)=(lE xs).take i ++ x.e :: (lE xs).drop i:=by simp [lE]
theorem set_new {l:List En} {p:List Int} (h:hasE l p=false) (n:Int):setL l p n=l.take (cntE l p) ++ ⟨p,n⟩ :: l.drop (cntE l p):=by unfold setL;rw [h];rfl
theorem set_old {l:List En} {p:List Int} (h:hasE l p=true) (n:Int):setL l p n=l.set (cntE l p) ⟨(l.getD (cntE l p) noEn).pl,n⟩∧cntE l p<l.length∧(l.getD (cntE l p) noEn).pl=p:=by
 have hi:cntE l p<l.length:=by
  rcases Nat.lt_or_ge (cntE l p) l.length with h1 | h1
  ·exact h1
  ·rw [(has_out rfl h1).1] at h;cases h
 have h2:=has_cmp rfl hi
 rw [h] at h2
 have h3:(l.getD (cntE l p) noEn).pl=p:=by
  rcases cmpL_three (l.getD (cntE l p) noEn).pl p with ⟨e1,_⟩ | ⟨_,_,e3⟩ | ⟨e1,_⟩
  ·rw [e1] at h2;cases h2
  ·exact e3
  ·rw [e1] at h2;cases h2
 refine ⟨?_,hi,h3⟩
 unfold setL
 rw [h,h3,if_pos rfl,List.set_eq_take_append_cons_drop,if_pos hi]
theorem lE_set (xs:List EnL) (i:Nat) (y:EnL):lE (xs.set i y)=(lE xs).set i y.e:=by simp [lE,List.map_set]
end Go.Proofs.YtfgegmpoejilnaaGreatDoor
namespace Go.Proofs.YtfgegmpoejilnaaGreatDoor
open Go.ChangeShapes Go.WideShapes Go.ChangeAt Go.RowKit
set_option maxRecDepth 20000
theorem isnan_any (x:Int) (w:World):Calls Tryz.prog 113 #[.int .i64 x] w fun e w'=>e=.returned (.bool false)∧w'=w:=by
 go_enter Tryz.func113,Tryz.ntmps113
 go_wp2_with fail
 go_ret
 exact ⟨rfl,rfl⟩
def cmpI (x y:Int):Int:=if x<y then -1 else if y<x then 1 else 0
set_option maxHeartbeats 1000000 in
theorem compare_any (x y:Int) (w:World):Calls Tryz.prog 131 #[.int .i64 x,.int .i64 y] w fun e w'=>e=.returned (.int .i64 (cmpI x y))∧w'=w:=by
 have h1:=isnan_any x
 have h2:=isnan_any y
 by_cases hxy:x<y
 ·have HV:Hid (cmpI x y = -1):=by show _=_;unfold cmpI;rw [if_pos hxy]
  go_enter Tryz.func131,Tryz.ntmps131
  go_wp2_with fail
  refine (h1 _).mono ?_
  rintro e w1 ⟨rfl,rfl⟩
  go_wp2_with fail
  refine (h2 _).mono ?_
  rintro e w2 ⟨rfl,rfl⟩
  go_wp2_with fail
  go_ret
  rw [HV.out]
  exact ⟨rfl,rfl⟩
 ·by_cases hyx:y<x
  ·have HV:Hid (cmpI x y=1):=by show _=_;unfold cmpI;rw [if_neg hxy,if_pos hyx]
   go_enter Tryz.func131,Tryz.ntmps131
   go_wp2_with fail
   refine (h1 _).mono ?_
   rintro e w1 ⟨rfl,rfl⟩
   go_wp2_with fail
   refine (h2 _).mono ?_
   rintro e w2 ⟨rfl,rfl⟩
   go_wp2_with fail
   go_ret
   rw [HV.out]
   exact ⟨rfl,rfl⟩
  ·have HV:Hid (cmpI x y=0):=by show _=_;unfold cmpI;rw [if_neg hxy,if_neg hyx]
   have e:x=y:=by omega
   subst e
   go_enter Tryz.func131,Tryz.ntmps131
   go_wp2_with fail
   refine (h1 _).mono ?_
   rintro e w1 ⟨rfl,rfl⟩
   go_wp2_with fail
   refine (h2 _).mono ?_
   rintro e w2 ⟨rfl,rfl⟩
   go_wp2_with fail
   go_ret
   rw [HV.out]
   exact ⟨rfl,rfl⟩
set_option maxHeartbeats 2000000 in
theorem scompare_any (A B:Option Addr) (ca cb:Nat) (a b:List Int) (w:World) (ha:a.length≤4) (hb:b.length≤4) (hA:PlAt w A ca a) (hB:PlAt w B cb b):Calls Tryz.prog 96 #[.slice A a.length ca,.slice B b.length cb] w fun e w'=>e=.returned (.int .i64 (cmpL a b))∧w'=w:=by
 have HA:Hid (PlAt w A ca a):=hA
 have HB:Hid (PlAt w B cb b):=hB
 have HN:Hid (∀ k,k<a.length→k<b.length→cmpL (a.drop k) (b.drop k)=if a.getD k 0<b.getD k 0 then -1 else if b.getD k 0<a.getD k 0 then 1 else cmpL (a.drop (k+1)) (b.drop (k+1))):=fun k h1 h2=>cmpL_in h1 h2
 have HL:Hid (∀ k,k<a.length→b.length≤k→cmpL (a.drop k) (b.drop k)=1):=fun k h1 h2=>cmpL_long h1 h2
 have HS:Hid (∀ k,a.length≤k→k<b.length→cmpL (a.drop k) (b.drop k) = -1):=fun k h1 h2=>cmpL_short h1 h2
 have HE:Hid (∀ k,a.length≤k→b.length≤k→cmpL (a.drop k) (b.drop k)=0):=fun k h1 h2=>cmpL_end h1 h2
 obtain ⟨na,hna⟩:∃ na,a.length=na:=⟨_,rfl⟩
 obtain ⟨nb,hnb⟩:∃ nb,b.length=nb:=⟨_,rfl⟩
 have HNA:Hid (a.length=na):=hna
 have HNB:Hid (b.length=nb):=hnb
 rw [hna] at HN HL HS HE ha
 rw [hnb] at HN HL HS HE hb
 rw [hna,hnb]
 have ha':(na:Int)≤4:=by omega
 have hb':(nb:Int)≤4:=by omega
 clear hA hB hna hnb
 go_enter Tryz.func96,Tryz.ntmps96
 go_wp2_with fail
 go_loopg [11] na (fun g s11 wr => ∃ (k:Nat),k≤na∧k≤nb∧g=na-k∧s11=.int .i64 k∧Hid (cmpL (a.drop k) (b.drop k)=cmpL a b)∧wr=w)
 case atStart=>exact ⟨0,Nat.zero_le _,Nat.zero_le _,rfl,rfl,(rfl:cmpL (a.drop 0) (b.drop 0)=cmpL a b),rfl⟩
 case round =>
  obtain ⟨k,hk,hk2,rfl,rfl,HF,hw⟩:=hrel
  subst hw
  by_cases hlt:k<na
  ·obtain ⟨hc,h0 | ⟨g1,o1,rfl,hbw,hcell⟩⟩:=HA.out
   ·have:=HNA.out;rw [h0] at this;simp at this;omega
   have x1:=hcell k (by rw [HNA.out];exact hlt)
   have hki:(k:Int)<(na:Int):=by omega
   by_cases hlb:k<nb
   ·obtain ⟨hc',h0 | ⟨g2,o2,rfl,hbw2,hcell2⟩⟩:=HB.out
    ·have:=HNB.out;rw [h0] at this;simp at this;omega
    have x2:=hcell2 k (by rw [HNB.out];exact hlb)
    have hkb:(k:Int)<(nb:Int):=by omega
    have hst:=HN.out k hlt hlb
    have hcmp:=compare_any (a.getD k 0) (b.getD k 0) wr
    generalize a.getD k 0=x at x1 hst hcmp
    generalize b.getD k 0=y at x2 hst hcmp
    have HST:Hid (cmpL (a.drop k) (b.drop k)=if x<y then -1 else if y<x then 1 else cmpL (a.drop (k+1)) (b.drop (k+1))):=hst
    clear hcell hcell2 hst
    by_cases hxy:x<y
    ·have hv:cmpI x y = -1:=by unfold cmpI;rw [if_pos hxy]
     rw [hv] at hcmp
     have HR:Hid (cmpL a b = -1):=by show _=_;rw [←HF.out,HST.out,if_pos hxy]
     clear hv hxy
     go_wp2_with fail
     refine hcmp.mono ?_
     rintro e w1 ⟨rfl,rfl⟩
     go_wp2_with fail
     go_ret
     rw [HR.out]
     exact ⟨rfl,rfl⟩
    ·by_cases hyx:y<x
     ·have hv:cmpI x y=1:=by unfold cmpI;rw [if_neg hxy,if_pos hyx]
      rw [hv] at hcmp
      have HR:Hid (cmpL a b=1):=by show _=_;rw [←HF.out,HST.out,if_neg hxy,if_pos hyx]
      clear hv hxy hyx
      go_wp2_with fail
      refine hcmp.mono ?_
      rintro e w1 ⟨rfl,rfl⟩
      go_wp2_with fail
      go_ret
      rw [HR.out]
      exact ⟨rfl,rfl⟩
     ·have hv:cmpI x y=0:=by unfold cmpI;rw [if_neg hxy,if_neg hyx]
      rw [hv] at hcmp
      have HR:Hid (cmpL (a.drop (k+1)) (b.drop (k+1))=cmpL a b):=by show _=_;rw [←HF.out,HST.out,if_neg hxy,if_neg hyx]
      clear hv hxy hyx
      go_wp2_with fail
      refine hcmp.mono ?_
      rintro e w1 ⟨rfl,rfl⟩
      go_wp2_with fail
      go_roundg (na-(k+1))
      case measure=>omega
      case rel=>exact ⟨k+1,by omega,by omega,rfl,by go_num,HR,rfl⟩
   ·have HR:Hid (cmpL a b=1):=by show _=_;rw [←HF.out,HL.out k hlt (by omega)]
    have hkb:(nb:Int)≤(k:Int):=by omega
    clear hcell
    generalize a.getD k 0=x at x1
    go_wp2_with fail
    go_ret
    rw [HR.out]
    exact ⟨rfl,rfl⟩
  ·have hke:k=na:=by omega
   subst hke
   by_cases hlb:k<nb
   ·have HR:Hid (cmpL a b = -1):=by show _=_;rw [←HF.out,HS.out k (Nat.le_refl _) hlb]
    have hkb:(k:Int)<(nb:Int):=by omega
    go_wp2_with fail
    go_ret
    rw [HR.out]
    exact ⟨rfl,rfl⟩
   ·have HR:Hid (cmpL a b=0):=by show _=_;rw [←HF.out,HE.out k (Nat.le_refl _) (by omega)]
    have hkb:(nb:Int)≤(k:Int):=by omega
    go_wp2_with fail
    go_ret
    rw [HR.out]
    exact ⟨rfl,rfl⟩
theorem order_any (A B:Option Addr) (ca cb:Nat) (a b:List Int) (N:Int) (w:World) (ha:a.length≤4) (hb:b.length≤4) (hA:PlAt w A ca a) (hB:PlAt w B cb b):Calls Tryz.prog 63 #[.agg #[.slice A a.length ca,.int .i64 N],.slice B b.length cb] w fun e w'=>e=.returned (.int .i64 (cmpL a b))∧Below w.heap.size w w':=by
 have h0:∀ w',Below w.heap.size w w'→Calls Tryz.prog 96 #[.slice A a.length ca,.slice B b.length cb] w' fun e w''=>e=.returned (.int .i64 (cmpL a b))∧w''=w':=fun w' hw'=>scompare_any A B ca cb a b w' ha hb (hA.later hw') (hB.later hw')
 have H:Hid (∀ w',Below w.heap.size w w'→Calls Tryz.prog 96 #[.slice A a.length ca,.slice B b.length cb] w' fun e w''=>e=.returned (.int .i64 (cmpL a b))∧w''=w'):=h0
 generalize cmpL a b=c at H
 generalize a.length=na at H
 generalize b.length=nb at H
 clear hA hB h0 ha hb
 go_enter Tryz.func63,Tryz.ntmps63
 go_wp2_with fail
 refine (H.out _ (by go_grown)).mono ?_
 rintro e w1 ⟨rfl,rfl⟩
 go_wp2_with fail
 go_ret
 exact ⟨rfl,by go_grown⟩
theorem order_in:EntersO 63:=fun args w=>by simp [callFunc,Tryz.func63];rfl
def Short (xs:List EnL) (p:List Int):Prop:=(∀ k,k<xs.length→(xs.getD k noL).e.pl.length≤4)∧p.length≤4
set_option maxHeartbeats 4000000 in
theorem bsf_any (b o cap:Nat) (xs:List EnL) (Ap:Option Addr) (cp:Nat) (p:List Int) (w:World) (hn:xs.length≤3000) (hE:EnsAt w b o xs) (hr:(lE xs).Pairwise fun a b=>lessL a.pl b.pl=true) (hS:Short xs p) (hP:PlAt w Ap cp p) :
  Calls Tryz.prog 141 #[.slice (some ⟨b,o,none⟩) xs.length cap,.slice Ap p.length cp,.func (.func 63) #[] #[]] w fun e w'=>e=.returned (.tuple #[.int .i64 (cntE (lE xs) p:Nat),.bool (hasE (lE xs) p)])∧Below w.heap.size w w':=by
 have he:=order_in
 unfold EntersO at he
 have HO:Hid (∀ k wr,k<xs.length→Below w.heap.size w wr→Calls Tryz.prog 63 #[.agg #[.slice (xs.getD k noL).A (xs.getD k noL).e.pl.length (xs.getD k noL).c,.int .i64 (xs.getD k noL).e.n],.slice Ap p.length cp] wr fun e w'=>e=.returned (.int .i64 (cmpL (xs.getD k noL).e.pl p))∧Below wr.heap.size wr w'):=fun k wr hk hB=>order_any _ _ _ _ _ _ _ wr (hS.1 k hk) hS.2 ((hE.pl hk).later hB) (hP.later hB)
 have HE:Hid (EnsAt w b o xs):=hE
 have HM:Hid (∀ j k,j≤k→k<xs.length→cmpL (xs.getD k noL).e.pl p<0→cmpL (xs.getD j noL).e.pl p<0):=fun j k hjk hk h=>by
  have h1:lessL ((lE xs).getD k noEn).pl p=true:=by rw [lE_at,←cmpL_neg];exact decide_eq_true h
  have h2:=less_mono hr hjk (by rw [lE_len];exact hk) h1
  rw [lE_at,←cmpL_neg] at h2
  exact of_decide_eq_true h2
 have HC:Hid (∀ i,i≤xs.length→(∀ t,t<i→cmpL (xs.getD t noL).e.pl p<0)→(i<xs.length→¬ cmpL (xs.getD i noL).e.pl p<0)→cntE (lE xs) p=i):=fun i hi h1 h2=>cnt_at _ _ i (by rw [lE_len];exact hi) (fun t ht=>by rw [lE_at,←cmpL_neg];exact decide_eq_true (h1 t ht)) (fun h3=>by rw [lE_len] at h3;rw [lE_at,←cmpL_neg];exact decide_eq_false (h2 h3))
 have HH:Hid (∀ i,cntE (lE xs) p=i→i<xs.length→hasE (lE xs) p=decide (cmpL (xs.getD i noL).e.pl p=0)):=fun i h1 h2=>by rw [←lE_at];exact (has_cmp h1 (by rw [lE_len];exact h2)).symm
 have HH2:Hid (∀ i,cntE (lE xs) p=i→xs.length≤i→hasE (lE xs) p=false):=fun i h1 h2=>(has_out h1 (by rw [lE_len];exact h2)).1
 obtain ⟨n,hnn⟩:∃ n,xs.length=n:=⟨_,rfl⟩
 obtain ⟨np,hnp⟩:∃ np,p.length=np:=⟨_,rfl⟩
 have HN:Hid (xs.length=n):=hnn
 rw [hnn] at hn HO HM HC HH HH2 ⊢
 rw [hnp] at HO ⊢
 generalize cntE (lE xs) p=cnt at HC HH HH2
 generalize hasE (lE xs) p=has at HH HH2
 have hn':(n:Int)≤3000:=by omega
 clear hE hr hS hP hnn hnp
 go_enter Tryz.func141,Tryz.ntmps141
 go_wp2_with fail
 go_loopg [9,10] n (fun g s9 s10 wr => ∃ (lo hi:Nat),lo≤hi∧hi≤n∧g=hi-lo∧s9=.int .i64 lo∧s10=.int .i64 hi∧Hid (∀ t,t<lo→cmpL (xs.getD t noL).e.pl p<0)∧Hid (∀ t,hi≤t→t<n→¬ cmpL (xs.getD t noL).e.pl p<0)∧Below w.heap.size w wr)
 case atStart=>exact ⟨0,n,Nat.zero_le _,Nat.le_refl _,rfl,rfl,rfl,fun t ht=>absurd ht (Nat.not_lt_zero _),fun t h1 h2=>absurd h2 (Nat.not_lt.2 h1),Below.refl _ _⟩
 case round =>
  obtain ⟨lo,hi,hlh,hhn,rfl,rfl,rfl,HL,HU,hBw⟩:=hrel
  have HBw:Hid (Below w.heap.size w wr):=hBw
  have hhn':(hi:Int)≤(n:Int):=by omega
  by_cases hlt:lo<hi
  ·obtain ⟨c1,c2⟩:=(HE.out.later hBw).at (k:=(lo+hi) / 2) (by rw [HN.out];omega)
   have hc:=HO.out ((lo+hi) / 2) wr (by omega) hBw
   have hlt':(lo:Int)<(hi:Int):=by omega
   obtain ⟨c,hcc⟩:∃ c,cmpL (xs.getD ((lo+hi) / 2) noL).e.pl p=c:=⟨_,rfl⟩
   have HCC:Hid (cmpL (xs.getD ((lo+hi) / 2) noL).e.pl p=c):=hcc
   rw [hcc] at hc
   generalize (xs.getD ((lo+hi) / 2) noL).A=A1 at c1 hc
   generalize (xs.getD ((lo+hi) / 2) noL).c=k1 at c1 hc
   generalize (xs.getD ((lo+hi) / 2) noL).e.pl.length=m1 at c1 hc
   generalize (xs.getD ((lo+hi) / 2) noL).e.n=n1 at c2 hc
   clear hcc hBw
   by_cases hneg:c<0
   ·go_wp2_with fail
    refine hc.mono ?_
    rintro e w1 ⟨rfl,hb1⟩
    go_wp2_with fail
    go_roundg (hi-((lo+hi) / 2+1))
    case measure=>omega
    case rel=>exact ⟨(lo+hi) / 2+1,hi,by omega,hhn,rfl,by congr 1,rfl,fun t ht=>HM.out t ((lo+hi) / 2) (by omega) (by omega) (by rw [HCC.out];exact hneg),HU,onB HBw.out hb1⟩
   ·go_wp2_with fail
    refine hc.mono ?_
    rintro e w1 ⟨rfl,hb1⟩
    go_wp2_with fail
    go_roundg ((lo+hi) / 2-lo)
    case measure=>omega
    case rel=>exact ⟨lo,(lo+hi) / 2,by omega,by omega,rfl,rfl,by congr 1,HL,fun t h1 h2=>Int.not_lt.1 fun h3=>by have h4:=HM.out ((lo+hi) / 2) t h1 h2 h3;rw [HCC.out] at h4;omega,onB HBw.out hb1⟩
  ·have hle:hi=lo:=by omega
   subst hle
   have HCN:Hid (cnt=hi):=HC.out hi hhn (fun t ht=>HL.out t ht) (fun h=>by have h4:=HU.out hi (Nat.le_refl _) h;omega)
   by_cases hln:hi<n
   ·obtain ⟨c1,c2⟩:=(HE.out.later hBw).at (k:=hi) (by rw [HN.out];exact hln)
    have hc:=HO.out hi wr hln hBw
    have HHI:Hid (has=decide (cmpL (xs.getD hi noL).e.pl p=0)):=HH.out hi HCN.out hln
    generalize cmpL (xs.getD hi noL).e.pl p=c at hc HHI
    generalize (xs.getD hi noL).A=A1 at c1 hc
    generalize (xs.getD hi noL).c=k1 at c1 hc
    generalize (xs.getD hi noL).e.pl.length=m1 at c1 hc
    generalize (xs.getD hi noL).e.n=n1 at c2 hc
    have hln':(hi:Int)<(n:Int):=by omega
    clear hBw
    go_wp2_with fail
    refine hc.mono ?_
    rintro e w1 ⟨rfl,hb1⟩
    go_wp2_with fail
    go_ret2
    rw [HCN.out,HHI.out]
    exact ⟨rfl,onB HBw.out hb1⟩
   ·have HHI:Hid (has=false):=HH2.out hi HCN.out (by omega)
    have hln':(n:Int)≤(hi:Int):=by omega
    go_wp2_with fail
    go_ret2
    rw [HCN.out,HHI.out]
    exact ⟨rfl,hBw⟩
theorem bsf_none (A:Option Addr) (cap:Nat) (Ap:Option Addr) (cp np:Nat) (w:World):Calls Tryz.prog 141 #[.slice A 0 cap,.slice Ap np cp,.func (.func 63) #[] #[]] w fun e w'=>e=.returned (.tuple #[.int .i64 0,.bool false])∧Below w.heap.size w w':=by
 go_enter Tryz.func141,Tryz.ntmps141
 go_wp2_with fail
 refine wp_loop_rounds 1 ?_
 rw [rounds_succ]
 go_wp2_with fail
 go_ret2
 exact ⟨rfl,Below.refl _ _⟩
theorem ifind_any (A:Option Addr) (cap:Nat) (xs:List EnL) (Ap:Option Addr) (cp:Nat) (p:List Int) (w:World) (hn:xs.length≤3000) (hE:EnsV w A cap xs) (hr:(lE xs).Pairwise fun a b=>lessL a.pl b.pl=true) (hS:Short xs p) (hP:PlAt w Ap cp p) :
  Calls Tryz.prog 108 #[.slice A xs.length cap,.slice Ap p.length cp] w fun e w'=>e=.returned (.tuple #[.int .i64 (cntE (lE xs) p:Nat),.bool (hasE (lE xs) p)])∧Below w.heap.size w w':=by
 have h:Calls Tryz.prog 141 #[.slice A xs.length cap,.slice Ap p.length cp,.func (.func 63) #[] #[]] w fun e w'=>e=.returned (.tuple #[.int .i64 (cntE (lE xs) p:Nat),.bool (hasE (lE xs) p)])∧Below w.heap.size w w':=by
  obtain ⟨-,-,rfl | ⟨b,o,rfl,hA⟩⟩:=hE
  ·exact bsf_none A cap Ap cp p.length w
  ·exact bsf_any b o cap xs Ap cp p w hn hA hr hS hP
 generalize cntE (lE xs) p=cnt at h
 generalize hasE (lE xs) p=has at h
 generalize xs.length=n at h
 generalize p.length=np at h
 clear hE hr hS hP hn
 go_enter Tryz.func108,Tryz.ntmps108
 go_wp2_with fail
 refine h.mono ?_
 rintro e w1 ⟨rfl,hb1⟩
 go_wp2_with fail
 go_ret2
 exact ⟨rfl,hb1⟩
def ownEn (w:World) (A:Option Addr) (m c:Nat) (N:Int) (T:Nat):World:=w.alloc (.cells #[.slice A m c,.int .i64 N] T)
theorem ownEn_size (w:World) (A:Option Addr) (m c:Nat) (N:Int) (T:Nat):(ownEn w A m c N T).heap.size=w.heap.size+1:=by unfold ownEn;simp
theorem ownEn_below (w:World) (A:Option Addr) (m c:Nat) (N:Int) (T:Nat):Below w.heap.size w (ownEn w A m c N T):=by unfold ownEn;go_grown
theorem ownEn_0 (w:World) (A:Option Addr) (m c:Nat) (N:Int) (T:Nat):(ownEn w A m c N T).cell? ⟨w.heap.size,0,none⟩=some (.slice A m c):=by unfold ownEn;simp
theorem ownEn_1 (w:World) (A:Option Addr) (m c:Nat) (N:Int) (T:Nat):(ownEn w A m c N T).cell? ⟨w.heap.size,1,none⟩=some (.int .i64 N):=by unfold ownEn;simp
def ownOE (w:World) (A0:Option Addr) (n cap:Nat) (A:Option Addr) (m c:Nat) (N:Int):World:=ownEn (ownOut w A0 n cap 24) A m c N 63
theorem ownOE_size (w:World) (A0:Option Addr) (n cap:Nat) (A:Option Addr) (m c:Nat) (N:Int):(ownOE w A0 n cap A m c N).heap.size=w.heap.size+2:=by unfold ownOE;rw [ownEn_size,ownOut_size]
theorem ownOE_below (w:World) (A0:Option Addr) (n cap:Nat) (A:Option Addr) (m c:Nat) (N:Int):Below w.heap.size w (ownOE w A0 n cap A m c N):=onB (ownOut_below ..) (ownEn_below ..)
theorem ownOE_0 (w:World) (A0:Option Addr) (n cap:Nat) (A:Option Addr) (m c:Nat) (N:Int):(ownOE w A0 n cap A m c N).cell? ⟨w.heap.size+1,0,none⟩=some (.slice A m c):=by
 have h:=ownEn_0 (ownOut w A0 n cap 24) A m c N 63
 rw [ownOut_size] at h
 exact h
theorem ownOE_1 (w:World) (A0:Option Addr) (n cap:Nat) (A:Option Addr) (m c:Nat) (N:Int):(ownOE w A0 n cap A m c N).cell? ⟨w.heap.size+1,1,none⟩=some (.int .i64 N):=by
 have h:=ownEn_1 (ownOut w A0 n cap 24) A m c N 63
 rw [ownOut_size] at h
 exact h
set_option maxHeartbeats 4000000 in
theorem icheck1_any (A0:Option Addr) (cap n:Nat) (D:Nat→Dm) (A:Nat→Option Addr) (C:Nat→Nat) (Ae:Option Addr) (ce:Nat) (e:En) (w:World) (hR:(allErr D n).2.2=0) (hM:DimsV w A0 cap n D A C) (hP:PlAt w Ae ce e.pl) :
  Calls Tryz.prog 62 #[.agg #[.slice A0 n cap],.agg #[.slice Ae e.pl.length ce,.int .i64 e.n]] w fun r w'=>r=.returned (errV (entOne D n e))∧Below w.heap.size w w':=by
 have hB0:=ownOE_below w A0 n cap Ae e.pl.length ce e.n
 have h:=pleaf_any A0 cap n D A C Ae ce e.pl (ownOE w A0 n cap Ae e.pl.length ce e.n) (hM.later hB0) (hP.later hB0)
 have HB0:Hid (Below w.heap.size w (ownOE w A0 n cap Ae e.pl.length ce e.n)):=hB0
 have HS:Hid (w.heap.size+1<(ownOE w A0 n cap Ae e.pl.length ce e.n).heap.size):=by show _<_;rw [ownOE_size];omega
 have H1:Hid ((ownOE w A0 n cap Ae e.pl.length ce e.n).cell? ⟨w.heap.size+1,1,none⟩=some (.int .i64 e.n)):=ownOE_1 ..
 clear hM hP hB0
 by_cases hp:placeErr D n e.pl=0
 ·by_cases hf:leafV D n e.pl=true
  ·have hv:=one_num hR hp hf
   rw [hp,hf,errV_zero] at h
   clear hp hf
   by_cases hlo:e.n < -1000000
   ·have HV:Hid (errV (entOne D n e)=.iface 95 (.int .i64 1)):=by
     show _=_
     rw [hv,if_pos (by simp [numOk];omega)];rfl
    generalize e.pl.length=m at h HB0 HS H1
    generalize e.n=N at h HB0 HS H1 hlo
    clear hv
    go_enter Tryz.func62,Tryz.ntmps62
    go_wp2_with fail
    refine h.mono ?_
    rintro r w1 ⟨rfl,hb1⟩
    have c1:=(hb1.cell (p:=⟨w.heap.size+1,1,none⟩) HS.out).trans H1.out
    have HB1:Hid (Below w.heap.size w w1):=onB HB0.out hb1
    clear hb1
    go_wp2_with fail
    go_ret
    rw [HV.out]
    exact ⟨rfl,HB1.out⟩
   ·by_cases hhi:1000000<e.n
    ·have HV:Hid (errV (entOne D n e)=.iface 95 (.int .i64 1)):=by
      show _=_
      rw [hv,if_pos (by simp [numOk];omega)];rfl
     generalize e.pl.length=m at h HB0 HS H1
     generalize e.n=N at h HB0 HS H1 hlo hhi
     clear hv
     go_enter Tryz.func62,Tryz.ntmps62
     go_wp2_with fail
     refine h.mono ?_
     rintro r w1 ⟨rfl,hb1⟩
     have c1:=(hb1.cell (p:=⟨w.heap.size+1,1,none⟩) HS.out).trans H1.out
     have HB1:Hid (Below w.heap.size w w1):=onB HB0.out hb1
     clear hb1
     go_wp2_with fail
     go_ret
     rw [HV.out]
     exact ⟨rfl,HB1.out⟩
    ·have HV:Hid (errV (entOne D n e)=.nilIface):=by
      show _=_
      rw [hv,if_neg (by simp [numOk];omega)];rfl
     generalize e.pl.length=m at h HB0 HS H1
     generalize e.n=N at h HB0 HS H1 hlo hhi
     clear hv
     go_enter Tryz.func62,Tryz.ntmps62
     go_wp2_with fail
     refine h.mono ?_
     rintro r w1 ⟨rfl,hb1⟩
     have c1:=(hb1.cell (p:=⟨w.heap.size+1,1,none⟩) HS.out).trans H1.out
     have HB1:Hid (Below w.heap.size w w1):=onB HB0.out hb1
     clear hb1
     go_wp2_with fail
     go_ret
     rw [HV.out]
     exact ⟨rfl,HB1.out⟩
  ·have hf':leafV D n e.pl=false:=by simpa using hf
   have HV:Hid (errV (entOne D n e)=.iface 95 (.int .i64 6)):=by show _=_;rw [one_leaf hR hp hf'];rfl
   rw [hp,hf',errV_zero] at h
   generalize e.pl.length=m at h HB0
   generalize e.n=N at h HB0
   clear hp hf hf' HS H1
   go_enter Tryz.func62,Tryz.ntmps62
   go_wp2_with fail
   refine h.mono ?_
   rintro r w1 ⟨rfl,hb1⟩
   have HB1:Hid (Below w.heap.size w w1):=onB HB0.out hb1
   clear hb1
   go_wp2_with fail
   go_ret
   rw [HV.out]
   exact ⟨rfl,HB1.out⟩
 ·have HV:Hid (errV (entOne D n e)=.iface 95 (.int .i64 (placeErr D n e.pl))):=by show _=_;rw [one_place hR hp,errV_some hp]
  rw [errV_some hp] at h
  generalize placeErr D n e.pl=E at h HV
  generalize leafV D n e.pl=lf at h
  generalize e.pl.length=m at h HB0
  generalize e.n=N at h HB0
  clear hp HS H1
  go_enter Tryz.func62,Tryz.ntmps62
  go_wp2_with fail
  refine h.mono ?_
  rintro r w1 ⟨rfl,hb1⟩
  have HB1:Hid (Below w.heap.size w w1):=onB HB0.out hb1
  clear hb1
  go_wp2_with fail
  go_ret
  rw [HV.out]
  exact ⟨rfl,HB1.out⟩
theorem inO_short {D:Nat→Dm} {n:Nat} {L:List Int} (h:InO D n L):L.length≤4:=by rw [h.len];exact (allErr_some h.right).2.1
theorem keep3 {W w':World} {b b' o1 o2 o3:Nat} {u v z:Value} (h:b<W.heap.size∧b'<W.heap.size∧W.cell? ⟨b,o1,none⟩=some u∧W.cell? ⟨b,o2,none⟩=some v∧W.cell? ⟨b',o3,none⟩=some z) (hB:Below W.heap.size W w'):Below W.heap.size W w'∧w'.cell? ⟨b,o1,none⟩=some u∧w'.cell? ⟨b,o2,none⟩=some v∧w'.cell? ⟨b',o3,none⟩=some z :=
 ⟨hB,(hB.cell (p:=⟨b,o1,none⟩) h.1).trans h.2.2.1,(hB.cell (p:=⟨b,o2,none⟩) h.1).trans h.2.2.2.1,(hB.cell (p:=⟨b',o3,none⟩) h.2.1).trans h.2.2.2.2⟩
set_option maxHeartbeats 8000000 in
theorem icheck_any (A0:Option Addr) (cap n:Nat) (D:Nat→Dm) (A:Nat→Option Addr) (C:Nat→Nat) (AE:Option Addr) (ce:Nat) (xs:List EnL) (w:World) (hM:DimsV w A0 cap n D A C) (hE:EnsV w AE ce xs) :
  Calls Tryz.prog 34 #[.agg #[.slice A0 n cap],.slice AE xs.length ce] w fun r w'=>r=.returned (errV (entsErr D n (lE xs)))∧Below w.heap.size w w':=by
 have hB0:=ownOut_below w A0 n cap 24
 have h:=all_any A0 cap n D A C (ownOut w A0 n cap 24) (hM.later hB0)
 have HB0:Hid (Below w.heap.size w (ownOut w A0 n cap 24)):=hB0
 have HM:Hid (DimsV w A0 cap n D A C):=hM
 have HE:Hid (EnsV w AE ce xs):=hE
 generalize (allErr D n).1=x1 at h
 generalize (allErr D n).2.1=x2 at h
 clear hM hB0
 by_cases hR:(allErr D n).2.2=0
 ·have HR:Hid ((allErr D n).2.2=0):=hR
  have HV:Hid (entsErr D n (lE xs)=entFrom D n (qOf (lE xs) 0) ((lE xs).drop 0)):=ents_in _ hR
  rw [hR,errV_zero] at h
  obtain ⟨N,hN⟩:∃ N,xs.length=N:=⟨_,rfl⟩
  have HN:Hid (xs.length=N):=hN
  have hNb:(N:Int)≤9223372036854775807:=by have h1:=hE.1;have h2:=hE.2.1;omega
  rw [hN]
  clear hR hN hE
  go_enter Tryz.func34,Tryz.ntmps34
  go_wp2_with fail
  refine h.mono ?_
  rintro e w1 ⟨rfl,hb1⟩
  have hB:Below w.heap.size w w1:=onB HB0.out hb1
  have hz:w.heap.size<w1.heap.size:=by have:=hb1.size;rw [ownOut_size] at this;omega
  have h2:w1.cell? ⟨w.heap.size,0,none⟩=some (.slice A0 n cap):=(hb1.cell (p:=⟨w.heap.size,0,none⟩) (by show w.heap.size<_;rw [ownOut_size];omega)).trans (ownOut_at ..)
  have HM1:Hid (DimsV w1 A0 cap n D A C):=HM.out.later hB
  have HE1:Hid (EnsV w1 AE ce xs):=HE.out.later hB
  have HB:Hid (Below w.heap.size w w1):=hB
  clear hb1 h hB HM HE HB0
  go_wp2_with fail
  go_loopg [22] N (fun g s22 wr => ∃ (k:Nat),k≤N∧g=N-k∧s22=.int .i64 k∧Hid (entFrom D n (qOf (lE xs) k) ((lE xs).drop k)=entFrom D n (qOf (lE xs) 0) ((lE xs).drop 0))∧Hid (∀ j,j<k→entOne D n ((lE xs).getD j noEn)=0)∧Below w1.heap.size w1 wr)
  case atStart=>exact ⟨0,Nat.zero_le _,rfl,rfl,(rfl:entFrom D n (qOf (lE xs) 0) ((lE xs).drop 0)=entFrom D n (qOf (lE xs) 0) ((lE xs).drop 0)),fun j hj=>absurd hj (Nat.not_lt_zero _),Below.refl _ _⟩
  case round =>
   obtain ⟨k,hk,rfl,rfl,HF,HO,hBw⟩:=hrel
   have HBw:Hid (Below w1.heap.size w1 wr):=hBw
   by_cases hlt:k<N
   ·have hkx:k<xs.length:=by rw [HN.out];exact hlt
    have hki:(k:Int)<(N:Int):=by omega
    have hk1:(k:Int)+1≤9223372036854775807:=by omega
    obtain ⟨-,-,h0 | ⟨b,o,rfl,hEs⟩⟩:=HE1.out.later hBw
    ·have:=HN.out;rw [h0] at this;simp at this;omega
    obtain ⟨c1,c2⟩:=hEs.at hkx
    have hpl:=hEs.pl hkx
    have c0:wr.cell? ⟨w.heap.size,0,none⟩=some (.slice A0 n cap):=(hBw.cell (p:=⟨w.heap.size,0,none⟩) hz).trans h2
    have hzr:w.heap.size<wr.heap.size:=Nat.lt_of_lt_of_le hz hBw.size
    have hBo:=ownEn_below wr (xs.getD k noL).A (xs.getD k noL).e.pl.length (xs.getD k noL).c (xs.getD k noL).e.n 63
    have hck:=icheck1_any A0 cap n D A C (xs.getD k noL).A (xs.getD k noL).c (xs.getD k noL).e (ownEn wr (xs.getD k noL).A (xs.getD k noL).e.pl.length (xs.getD k noL).c (xs.getD k noL).e.n 63) HR.out ((HM1.out.later hBw).later hBo) (hpl.later hBo)
    have HBo:Hid (Below wr.heap.size wr (ownEn wr (xs.getD k noL).A (xs.getD k noL).e.pl.length (xs.getD k noL).c (xs.getD k noL).e.n 63)):=hBo
    have HEs:Hid (EnsAt wr b o xs):=hEs
    have HPL:Hid (PlAt wr (xs.getD k noL).A (xs.getD k noL).c (xs.getD k noL).e.pl):=hpl
    have H0:Hid ((ownEn wr (xs.getD k noL).A (xs.getD k noL).e.pl.length (xs.getD k noL).c (xs.getD k noL).e.n 63).cell? ⟨wr.heap.size,0,none⟩=some (.slice (xs.getD k noL).A (xs.getD k noL).e.pl.length (xs.getD k noL).c)):=ownEn_0 ..
    have HS:Hid (wr.heap.size<(ownEn wr (xs.getD k noL).A (xs.getD k noL).e.pl.length (xs.getD k noL).c (xs.getD k noL).e.n 63).heap.size):=by show _<_;rw [ownEn_size];omega
    clear hBw hEs hpl hBo
    by_cases he:entOne D n (xs.getD k noL).e=0
    ·have hKO:=entOne_right HR.out he
     have HK0:Hid (entOne D n ((lE xs).getD k noEn)=0):=by show _=_;rw [lE_at];exact he
     have HSh:Hid ((xs.getD k noL).e.pl.length≤4):=inO_short hKO.1
     rw [he,errV_zero] at hck
     clear he hKO
     rcases Nat.eq_zero_or_pos k with hk0 | hk0
     ·subst hk0
      have HQ:Hid (aheadOk (qOf (lE xs) 0) ((lE xs).getD 0 noEn).pl=true):=rfl
      have HST:Hid (entFrom D n (qOf (lE xs) 0) ((lE xs).drop 0)=entFrom D n (qOf (lE xs) (0+1)) ((lE xs).drop (0+1))):=ent_on (by rw [lE_len];exact hkx) HK0.out HQ.out
      generalize (xs.getD 0 noL).A=A1 at c1 hck HBo H0 HS
      generalize (xs.getD 0 noL).c=k1 at c1 hck HBo H0 HS
      generalize (xs.getD 0 noL).e.n=n1 at c2 hck HBo H0 HS
      generalize (xs.getD 0 noL).e.pl.length=m1 at c1 hck HBo H0 HS
      simp only [Nat.zero_mul,Nat.add_zero] at c1 c2
      clear HPL HSh
      go_wp2_with fail
      refine hck.mono ?_
      rintro e w2 ⟨rfl,hb2⟩
      have HB2:Hid (Below wr.heap.size wr w2):=onB HBo.out hb2
      clear hb2
      go_wp2_with fail
      go_quiet (fail)
      go_wp2_with fail
      go_roundg (N-(0+1))
      case measure=>omega
      case rel =>
       refine ⟨0+1,by omega,rfl,by go_num,HST.out.symm,fun j hj=>?_,below_drewN (onB HBw.out HB2.out) _⟩
       have:j=0:=by omega
       subst this
       exact HK0.out
     ·obtain ⟨j,hj⟩:∃ j,k=j+1:=⟨k-1,by omega⟩
      have hjx:j<xs.length:=by omega
      obtain ⟨d1,d2⟩:=HEs.out.at hjx
      have hjO:=entOne_right HR.out (HO.out j (by omega))
      rw [lE_at] at hjO
      have HJ:Hid (∀ w',Below wr.heap.size wr w'→Calls Tryz.prog 63 #[.agg #[.slice (xs.getD j noL).A (xs.getD j noL).e.pl.length (xs.getD j noL).c,.int .i64 (xs.getD j noL).e.n],.slice (xs.getD k noL).A (xs.getD k noL).e.pl.length (xs.getD k noL).c] w' fun e w''=>e=.returned (.int .i64 (cmpL (xs.getD j noL).e.pl (xs.getD k noL).e.pl))∧Below w'.heap.size w' w''):=fun w' hw'=>order_any _ _ _ _ _ _ _ w' (inO_short hjO.1) HSh.out ((HEs.out.pl hjx).later hw') (HPL.out.later hw')
      have HCN:Hid (decide (0≤cmpL (xs.getD j noL).e.pl (xs.getD k noL).e.pl) = !lessL (xs.getD j noL).e.pl (xs.getD k noL).e.pl):=cmpL_nonneg (xs.getD j noL).e.pl (xs.getD k noL).e.pl
      have HQ:Hid (aheadOk (qOf (lE xs) k) ((lE xs).getD k noEn).pl=lessL (xs.getD j noL).e.pl (xs.getD k noL).e.pl):=by show _=_;rw [←lE_at,←lE_at,hj];rfl
      have hwr:IntKind.i64.wrap ((k:Int)-1)=(j:Int):=by rw [IntKind.wrap_i64];omega
      have hj0:(0:Int)<(k:Int):=by omega
      have HKJ:Hid (k=j+1):=hj
      have hjN:(j:Int)<(N:Int):=by omega
      generalize (xs.getD k noL).A=A1 at c1 hck HBo H0 HS HJ
      generalize (xs.getD k noL).c=k1 at c1 hck HBo H0 HS HJ
      generalize (xs.getD k noL).e.n=n1 at c2 hck HBo H0 HS
      generalize (xs.getD k noL).e.pl.length=m1 at c1 hck HBo H0 HS HJ
      generalize (xs.getD j noL).A=A2 at d1 HJ
      generalize (xs.getD j noL).c=k2 at d1 HJ
      generalize (xs.getD j noL).e.n=n2 at d2 HJ
      generalize (xs.getD j noL).e.pl.length=m2 at d1 HJ
      generalize cmpL (xs.getD j noL).e.pl (xs.getD k noL).e.pl=cc at HJ HCN
      have hbb:=HEs.out.1
      clear HPL HSh hjO hj
      go_wp2_with fail
      refine hck.mono ?_
      rintro e w2 ⟨rfl,hb2⟩
      have hB2:Below wr.heap.size wr w2:=onB HBo.out hb2
      have HB2:Hid (Below wr.heap.size wr w2):=hB2
      have e1:w2.cell? ⟨b,o+j*2,none⟩=some (.slice A2 m2 k2):=(hB2.cell (p:=⟨b,o+j*2,none⟩) hbb).trans d1
      have e2:w2.cell? ⟨b,o+j*2+1,none⟩=some (.int .i64 n2):=(hB2.cell (p:=⟨b,o+j*2+1,none⟩) hbb).trans d2
      have e3:w2.cell? ⟨wr.heap.size,0,none⟩=some (.slice A1 m1 k1):=(hb2.cell (p:=⟨wr.heap.size,0,none⟩) HS.out).trans H0.out
      have hz2:wr.heap.size<w2.heap.size:=Nat.lt_of_lt_of_le HS.out hb2.size
      clear hb2 hB2 c1 c2 d1 d2
      have HC3:Hid (b<w2.heap.size∧wr.heap.size<w2.heap.size∧w2.cell? ⟨b,o+j*2,none⟩=some (.slice A2 m2 k2)∧w2.cell? ⟨b,o+j*2+1,none⟩=some (.int .i64 n2)∧w2.cell? ⟨wr.heap.size,0,none⟩=some (.slice A1 m1 k1)):=⟨Nat.lt_of_lt_of_le hbb HB2.out.size,hz2,e1,e2,e3⟩
      go_wp2_with fail
      go_cut [45] (fun s45 wx=>s45=.bool (decide (0≤cc))∧Below w2.heap.size w2 wx)
      case first =>
       go_region_held3 (fun w'=>Below w2.heap.size w2 w'∧w'.cell? ⟨b,o+j*2,none⟩=some (.slice A2 m2 k2)∧w'.cell? ⟨b,o+j*2+1,none⟩=some (.int .i64 n2)∧w'.cell? ⟨wr.heap.size,0,none⟩=some (.slice A1 m1 k1))
        ((refine keep3 HC3.out ?_;go_grown;done))
        (first | (go_at_call 63;refine (HJ.out _ (onB HB2.out (by go_grown))).mono ?_;rintro e w3 ⟨rfl,hb3⟩;have hN3:=onB (W0:=w2) (by go_grown) hb3;have hy3:=hN3.size;clear hb3))
       all_goals go_wp2_with fail
       all_goals go_meet
       all_goals exact ⟨rfl,by go_grown⟩
      case rest =>
       obtain ⟨rfl,hb3⟩:=hcut
       have HB3:Hid (Below w2.heap.size w2 wc):=hb3
       clear hb3 e1 e2 e3 HC3 HJ hz2 hwr hjN
       obtain ⟨tC,htC⟩:∃ t,decide (0≤cc)=t:=⟨_,rfl⟩
       rw [htC]
       have HTC:Hid (decide (0≤cc)=tC):=htC
       clear htC hk0 hj0 hbb hzr c0
       cases tC
       case true =>
        have HST:Hid (errV (entsErr D n (lE xs))=.iface 95 (.int .i64 7)):=by
         show _=_
         have h3:=HCN.out
         rw [HTC.out] at h3
         rw [HV.out,←HF.out,ent_clash (by rw [lE_len];exact hkx) HK0.out (by rw [HQ.out];simpa using h3)];rfl
        go_wp2_with fail
        go_ret
        rw [HST.out]
        exact ⟨rfl,onB HB.out (onB HBw.out (onB HB2.out HB3.out))⟩
       case false =>
        have HST:Hid (entFrom D n (qOf (lE xs) k) ((lE xs).drop k)=entFrom D n (qOf (lE xs) (k+1)) ((lE xs).drop (k+1))):=by
         show _=_
         have h3:=HCN.out
         rw [HTC.out] at h3
         exact ent_on (by rw [lE_len];exact hkx) HK0.out (by rw [HQ.out];simpa using h3)
        go_wp2_with fail
        go_roundg (N-(k+1))
        case measure=>omega
        case rel =>
         refine ⟨k+1,by omega,rfl,by go_num,HST.out.symm.trans HF.out,fun i hi=>?_,onB HBw.out (onB HB2.out HB3.out)⟩
         rcases Nat.lt_succ_iff_lt_or_eq.1 hi with h1 | rfl
         ·exact HO.out i h1
         ·exact HK0.out
    ·have HFin:Hid (errV (entsErr D n (lE xs))=.iface 95 (.int .i64 (entOne D n (xs.getD k noL).e))):=by
      show _=_
      rw [HV.out,←HF.out,ent_bad (by rw [lE_len];exact hkx) (by rw [lE_at];exact he),lE_at,errV_some he]
     rw [errV_some he] at hck
     generalize entOne D n (xs.getD k noL).e=E at hck HFin
     generalize (xs.getD k noL).A=A1 at c1 hck HBo H0 HS
     generalize (xs.getD k noL).c=k1 at c1 hck HBo H0 HS
     generalize (xs.getD k noL).e.n=n1 at c2 hck HBo H0 HS
     generalize (xs.getD k noL).e.pl.length=m1 at c1 hck HBo H0 HS
     clear HPL he
     go_wp2_with fail
     refine hck.mono ?_
     rintro e w2 ⟨rfl,hb2⟩
     have HB2:Hid (Below wr.heap.size wr w2):=onB HBo.out hb2
     clear hb2
     go_wp2_with fail
     go_ret
     rw [HFin.out]
     exact ⟨rfl,onB HB.out (onB HBw.out HB2.out)⟩
   ·have hke:k=N:=by omega
    subst hke
    have HFin:Hid (errV (entsErr D n (lE xs))=.nilIface):=by show _=_;rw [HV.out,←HF.out,ent_end (by rw [lE_len,HN.out];exact Nat.le_refl _)];rfl
    clear hBw
    go_wp2_with fail
    go_ret
    rw [HFin.out]
    exact ⟨rfl,onB HB.out HBw.out⟩
 ·have HV:Hid (errV (entsErr D n (lE xs))=.iface 95 (.int .i64 (allErr D n).2.2)):=by show _=_;rw [ents_bad _ hR,errV_some hR]
  rw [errV_some hR] at h
  generalize (allErr D n).2.2=E at h HV
  generalize xs.length=N
  clear hR hE HM HE
  go_enter Tryz.func34,Tryz.ntmps34
  go_wp2_with fail
  refine h.mono ?_
  rintro e w1 ⟨rfl,hb1⟩
  go_wp2_with fail
  go_ret
  rw [HV.out]
  exact ⟨rfl,onB HB0.out hb1⟩
end Go.Proofs.YtfgegmpoejilnaaGreatDoor
namespace Go.Proofs.YtfgegmpoejilnaaGreatDoor
def inTo (D:Nat→Dm) (p q:List Int):Nat→Bool
 | 0=>true
 | k+1=>inTo D p q k && inB (pathOf (D k).mem (q.getD k 0)) (p.getD k 0)
def pwTo (D:Nat→Dm) (p q:List Int):Nat→Int
 | 0=>1
 | k+1=>pwTo D p q k*weightOf (D k).mem (p.getD k 0) (q.getD k 0)
theorem pwTo_out {D:Nat→Dm} {p q:List Int} {k:Nat} (h:inTo D p q k=false):pwTo D p q k=0:=by
 induction k with
 | zero=>simp [inTo] at h
 | succ k ih =>
  simp only [inTo,Bool.and_eq_false_iff] at h
  rcases h with h | h
  ·rw [pwTo,ih h,Int.zero_mul]
  ·have h1:p.getD k 0∉pathOf (D k).mem (q.getD k 0):=by unfold inB at h;exact of_decide_eq_false h
   rw [pwTo,weightOf,wgt_out _ h1,Int.mul_zero]
theorem weight_small {D:Nat→Dm} {n:Nat} {q:List Int} (hq:InO D n q) {k:Nat} (hk:k<n) (i:Int) : -1≤weightOf (D k).mem i (q.getD k 0)∧weightOf (D k).mem i (q.getD k 0)≤1:=by
 have hd:=(allErr_right hq.right).2 k hk
 have hlo:=hq.lo k hk
 have hhi:=hq.hi k hk
 have ht:Tr (D k).mem (D k).n:=Tr.of hd
 refine wgt_small (Sg.of hd) i _ (fun j hj=>?_) 1 (by omega)
 have:=pathOf_mem ht (D k).n (q.getD k 0) hhi hhi j hj
 omega
theorem pwTo_small {D:Nat→Dm} {n:Nat} {q:List Int} (hq:InO D n q) (p:List Int):∀ k,k≤n→-1≤pwTo D p q k∧pwTo D p q k≤1
 | 0,_=>by simp [pwTo]
 | k+1,hk=>by
  rw [pwTo]
  exact small_mul (pwTo_small hq p k (by omega)) (weight_small hq (by omega) _)
def cntR (D:Nat→Dm) (n:Nat) (p:List Int) (e:En):Bool:=inTo D p e.pl n && !(pwTo D p e.pl n == 0)
def valR (D:Nat→Dm) (n:Nat) (p:List Int) (e:En):Int:=pwTo D p e.pl n*e.n
def rollN (D:Nat→Dm) (n:Nat) (p:List Int):List En→Int
 | []=>0
 | e :: r=>(if cntR D n p e=true then valR D n p e else 0)+rollN D n p r
def rollK (D:Nat→Dm) (n:Nat) (p:List Int) (l:List En):Int:=if l.any (cntR D n p)=true then 1 else 0
def rollV (D:Nat→Dm) (n:Nat) (l:List En) (p:List Int):Int×Int:=(rollK D n p l,rollN D n p l)
theorem rollN_append (D:Nat→Dm) (n:Nat) (p:List Int) (a b:List En):rollN D n p (a ++ b)=rollN D n p a+rollN D n p b:=by
 induction a with
 | nil=>simp [rollN]
 | cons e r ih=>rw [List.cons_append,rollN,rollN,ih];omega
theorem roll_bound {D:Nat→Dm} {n:Nat} (p:List Int):∀ l:List En,(∀ e∈l,InO D n e.pl∧leafV D n e.pl=true∧numOk e.n=true)→-1000000*(l.length:Int)≤rollN D n p l∧rollN D n p l≤1000000*(l.length:Int)
 | [],_=>by simp [rollN]
 | e :: r,h=>by
  obtain ⟨h1,-,h2⟩:=h e (List.mem_cons_self ..)
  have ih:=roll_bound p r fun x hx=>h x (List.mem_cons_of_mem _ hx)
  have hw:=pwTo_small h1 p n (Nat.le_refl _)
  have hn : -1000000≤e.n∧e.n≤1000000:=by simpa [numOk] using h2
  have hv : -1000000≤valR D n p e∧valR D n p e≤1000000:=by
   unfold valR
   have h3:pwTo D p e.pl n = -1∨pwTo D p e.pl n=0∨pwTo D p e.pl n=1:=by omega
   rcases h3 with h3 | h3 | h3 <;> rw [h3] <;> omega
  rw [rollN,List.length_cons]
  split <;> omega
end Go.Proofs.YtfgegmpoejilnaaGreatDoor
