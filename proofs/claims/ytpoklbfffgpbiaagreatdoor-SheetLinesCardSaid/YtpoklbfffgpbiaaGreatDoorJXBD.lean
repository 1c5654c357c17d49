/-
  A member's name, and where it lies.
-/
import Derived.Test.YtpoklbfffgpbiaaGreatDoorJXBC
namespace Go.Proofs.YtpoklbfffgpbiaaGreatDoor
open Go.ChangeShapes Go.WideShapes Go.ChangeAt Go.RowKit
theorem name_small {D:Nat→Dm} {n:Nat} (h:(allErr D n).2.2=0) {i j:Nat} (hi:i<n) (hj:j<(D i).n):((D i).mem j).name.size≤30:=by
 have h1:=(dimErr_right ((allErr_right h).2 i hi)).2.2.2 j hj
 have h2:nameErr ((D i).mem j).name=0:=by
  unfold memErr at h1
  split at h1
  ·cases h1
  ·rename_i h3;simpa using h3
 unfold nameErr at h2
 split at h2
 ·cases h2
 ·omega
end Go.Proofs.YtpoklbfffgpbiaaGreatDoor
namespace Go.Proofs.YtpoklbfffgpbiaaGreatDoor
open Go.ChangeShapes Go.WideShapes Go.ChangeAt Go.RowKit
set_option maxRecDepth 20000
theorem textTo_len {D:Nat→Dm} {n:Nat} {L:List Int} (h:InO D n L):∀ k,k≤n→(textTo D L k).length≤k*31
 | 0,_=>by simp [textTo]
 | k+1,hk=>by
  have h1:=textTo_len h k (by omega)
  have h2:(nameB D L k).size≤30:=name_small h.right (by omega) (by have:=h.lo k (by omega);have:=h.hi k (by omega);omega)
  have h3:(nameB D L k).data.toList.length=(nameB D L k).size:=by simp
  rw [textTo,List.length_append,List.length_append]
  split <;> simp at * <;> omega
end Go.Proofs.YtpoklbfffgpbiaaGreatDoor
namespace Go.Proofs.YtpoklbfffgpbiaaGreatDoor
open Go Go.ChangeShapes Go.WideShapes Go.ChangeAt Go.RowKit
set_option maxRecDepth 1000000
set_option maxHeartbeats 64000000
def sgT (x:Int):List UInt8:=if x = -1 then [45] else if x=0 then [126] else [43]
def paB (x:Int):List UInt8:=if 0≤x then Lib.itoa x else [45]
def foB (s:ByteArray):List UInt8:=if s.toList.isEmpty=true then [] else 61 :: s.data.toList
def memT (m:Mem):List UInt8:=[109,101,109,32] ++ m.name.data.toList ++ [32] ++ paB m.parent ++ [32] ++ sgT m.sign ++ foB m.formula ++ [10]
def memsT (M:Nat→Mem) (k:Nat):List UInt8:=(List.range k).flatMap fun j=>memT (M j)
def hdT (d:Dm):List UInt8:=[100,105,109,32] ++ d.name.data.toList ++ [32] ++ Lib.itoa d.solve ++ [10]
def dimsT (D:Nat→Dm) (k:Nat):List UInt8:=(List.range k).flatMap fun i=>hdT (D i) ++ memsT (D i).mem (D i).n
def celT (D:Nat→Dm) (n:Nat) (e:En):List UInt8:=[99,101,108,108,32] ++ textTo D e.pl n ++ [32] ++ Lib.itoa e.n ++ [10]
def celsT (D:Nat→Dm) (n:Nat) (l:List En):List UInt8:=l.flatMap (celT D n)
def shT (D:Nat→Dm) (n:Nat) (l:List En):List UInt8:=dimsT D n ++ celsT D n l
theorem memsT_succ (M:Nat→Mem) (k:Nat):memsT M (k+1)=memsT M k ++ memT (M k):=by simp [memsT,List.range_succ]
theorem dimsT_succ (D:Nat→Dm) (k:Nat):dimsT D (k+1)=dimsT D k ++ (hdT (D k) ++ memsT (D k).mem (D k).n):=by simp [dimsT,List.range_succ]
theorem celsT_take (D:Nat→Dm) (n:Nat) (l:List En) {k:Nat} (h:k<l.length):celsT D n (l.take (k+1))=celsT D n (l.take k) ++ celT D n (l.getD k noEn):=by
 unfold celsT
 rw [List.take_add_one,List.flatMap_append]
 congr 1
 simp [List.getElem?_eq_getElem h,List.getD]
theorem mem_right {M:Nat→Mem} {i:Nat} (h:memErr M i=0) (hi:i≤12):(M i).name.size≤30∧-1≤(M i).parent∧(M i).parent≤12∧-1≤(M i).sign∧(M i).sign≤1∧(M i).formula.size≤100:=by
 unfold memErr at h
 split at h
 ·cases h
 ·rename_i h1
  have h2:nameErr (M i).name=0:=by simpa using h1
  have h3:(M i).name.size≤30:=by
   unfold nameErr at h2
   split at h2
   ·cases h2
   ·omega
  split at h
  ·cases h
  ·split at h
   ·cases h
   ·split at h
    ·cases h
    ·split at h
     ·cases h
     ·split at h
      ·cases h
      ·refine ⟨h3,?_⟩
       omega
theorem dim_right {d:Dm} (h:(dimErr d).2=0):d.name.size≤30∧0≤d.solve∧d.solve≤9:=by
 unfold dimErr at h
 split at h
 ·simp at h
 ·rename_i h1
  have h2:nameErr d.name=0:=by simpa using h1
  have h3:d.name.size≤30:=by
   unfold nameErr at h2
   split at h2
   ·cases h2
   ·omega
  split at h
  ·simp at h
  ·exact ⟨h3,by omega,by omega⟩
theorem sgT_len (x:Int):(sgT x).length≤1:=by unfold sgT;split;simp;split <;> simp
theorem bsz (s:ByteArray):s.data.toList.length=s.size:=by simp
theorem memT_len {m:Mem} (h1:m.name.size≤30) (h2 : -1≤m.parent) (h3:m.parent≤12) (h4:m.formula.size≤100):(memT m).length≤1000:=by
 have a1:=bsz m.name
 have a2:=bsz m.formula
 have a3:=Lib.itoa_length_le m.parent (by omega) (by omega)
 have a4:=sgT_len m.sign
 have a5:(paB m.parent).length≤40:=by unfold paB;split;omega;simp
 have a6:(foB m.formula).length≤101:=by unfold foB;split;simp;simp only [List.length_cons];omega
 unfold memT
 simp only [List.length_append,List.length_cons,List.length_nil]
 omega
theorem hdT_len {d:Dm} (h1:d.name.size≤30) (h2:0≤d.solve) (h3:d.solve≤9):(hdT d).length≤1000:=by
 have a1:=bsz d.name
 have a3:=Lib.itoa_length_le d.solve (by omega) (by omega)
 unfold hdT
 simp only [List.length_append,List.length_cons,List.length_nil]
 omega
theorem memsT_len {M:Nat→Mem}:∀ k,k≤12→(∀ j,j<k→memErr M j=0)→(memsT M k).length≤k*1000
 | 0,_,_=>by simp [memsT]
 | k+1,hk,h=>by
  have h1:=memsT_len k (by omega) (fun j hj=>h j (by omega))
  obtain ⟨b1,b2,b3,-,-,b4⟩:=mem_right (h k (by omega)) (by omega)
  have h2:=memT_len b1 b2 b3 b4
  rw [memsT_succ,List.length_append]
  omega
theorem dimsT_len {D:Nat→Dm} {n:Nat} (h:∀ i,i<n→(dimErr (D i)).2=0):∀ k,k≤n→(dimsT D k).length≤k*13000
 | 0,_=>by simp [dimsT]
 | k+1,hk=>by
  have h1:=dimsT_len h k (by omega)
  obtain ⟨-,-,c1,c2⟩:=dimErr_right (h k (by omega))
  obtain ⟨b1,b2,b3⟩:=dim_right (h k (by omega))
  have h2:=hdT_len b1 b2 b3
  have h3:=memsT_len (D k).n c1 c2
  rw [dimsT_succ,List.length_append,List.length_append]
  omega
theorem celT_len {D:Nat→Dm} {n:Nat} {e:En} (hI:InO D n e.pl) (hn:numOk e.n=true):(celT D n e).length≤1000:=by
 have h1:=textTo_len hI n (Nat.le_refl _)
 have h2:n≤4:=(allErr_some hI.right).2.1
 unfold numOk at hn
 simp only [Bool.and_eq_true,decide_eq_true_eq] at hn
 have a3:=Lib.itoa_length_le e.n (by omega) (by omega)
 unfold celT
 simp only [List.length_append,List.length_cons,List.length_nil]
 omega
theorem celsT_len {D:Nat→Dm} {n:Nat}:∀ l:List En,(∀ e∈l,InO D n e.pl∧numOk e.n=true)→(celsT D n l).length≤l.length*1000
 | [],_=>by simp [celsT]
 | e :: r,h=>by
  have h1:=celsT_len r fun x hx=>h x (List.mem_cons_of_mem _ hx)
  have h2:=h e (List.mem_cons_self ..)
  have h3:=celT_len h2.1 h2.2
  unfold celsT at h1 ⊢
  rw [List.flatMap_cons,List.length_append,List.length_cons]
  omega
end Go.Proofs.YtpoklbfffgpbiaaGreatDoor
namespace Go.Proofs.YtpoklbfffgpbiaaGreatDoor
theorem num_all (u:Nat):∀ b∈Lib.decDigits u,48≤b.toNat∧b.toNat≤57:=by
 induction u using Nat.strongRecOn with
 | _ u ih =>
  intro b hb
  by_cases h:u<10
  ·rw [Lib.decDigits_one h,List.mem_singleton] at hb
   subst hb
   have e:(UInt8.ofNat (48+u)).toNat=48+u:=by simp;omega
   omega
  ·rw [Lib.decDigits,dif_neg h,List.mem_append,List.mem_singleton] at hb
   rcases hb with hb | hb
   ·exact ih (u / 10) (by omega) b hb
   ·subst hb
    have e:(UInt8.ofNat (48+u % 10)).toNat=48+u % 10:=by simp;omega
    omega
theorem name_first {s:ByteArray} (h:nameErr s=0):1≤s.size∧s.size≤8∧∀ i,i<s.size→letB (byteN s i)=true:=by
 unfold nameErr at h
 split at h
 ·cases h
 ·rename_i h1
  split at h
  ·cases h
  ·rename_i h2
   refine ⟨by omega,by omega,fun i hi=>?_⟩
   rcases findFrom_cases (badByte s) s.size 0 with ⟨_,h3⟩ | ⟨m,e,_⟩
   ·have:=h3 i (Nat.zero_le _) (by omega)
    unfold badByte badB at this
    unfold letB
    simp at this ⊢
    omega
   ·omega
def cmpL:List Int→List Int→Int
 | [],[]=>0
 | [],_ :: _ => -1
 | _ :: _,[]=>1
 | a :: r,b :: t=>if a<b then -1 else if b<a then 1 else cmpL r t
theorem cmpL_three:∀ a b:List Int,(cmpL a b = -1∧lessL a b=true∧a≠b)∨(cmpL a b=0∧lessL a b=false∧a=b)∨(cmpL a b=1∧lessL a b=false∧a≠b)
 | [],[]=>Or.inr (Or.inl ⟨rfl,rfl,rfl⟩)
 | [],_ :: _=>Or.inl ⟨rfl,rfl,by simp⟩
 | _ :: _,[]=>Or.inr (Or.inr ⟨rfl,rfl,by simp⟩)
 | a :: r,b :: t=>by
  simp only [cmpL,lessL]
  by_cases h1:a<b
  ·rw [if_pos h1,if_neg (by omega)]
   exact Or.inl ⟨rfl,decide_eq_true h1,by simp;omega⟩
  ·rw [if_neg h1]
   by_cases h2:b<a
   ·rw [if_pos h2,if_neg (by omega)]
    exact Or.inr (Or.inr ⟨rfl,decide_eq_false h1,by simp;omega⟩)
   ·have h3:a=b:=by omega
    rw [if_neg h2,if_pos h3]
    subst h3
    rcases cmpL_three r t with ⟨e1,e2,e3⟩ | ⟨e1,e2,e3⟩ | ⟨e1,e2,e3⟩
    ·exact Or.inl ⟨e1,e2,by simpa using e3⟩
    ·exact Or.inr (Or.inl ⟨e1,e2,by rw [e3]⟩)
    ·exact Or.inr (Or.inr ⟨e1,e2,by simpa using e3⟩)
theorem cmpL_nonneg (a b:List Int):decide (0≤cmpL a b) = !lessL a b:=by
 rcases cmpL_three a b with ⟨e1,e2,_⟩ | ⟨e1,e2,_⟩ | ⟨e1,e2,_⟩ <;> rw [e1,e2] <;> rfl
theorem dropI_at (l:List Int) {k:Nat} (h:k<l.length):l.drop k=l.getD k 0 :: l.drop (k+1):=by
 rw [List.drop_eq_getElem_cons h,List.getD_eq_getElem?_getD,List.getElem?_eq_getElem h]
 rfl
theorem cmpL_in {a b:List Int} {k:Nat} (h1:k<a.length) (h2:k<b.length):cmpL (a.drop k) (b.drop k)=if a.getD k 0<b.getD k 0 then -1 else if b.getD k 0<a.getD k 0 then 1 else cmpL (a.drop (k+1)) (b.drop (k+1)):=by
 rw [dropI_at a h1,dropI_at b h2,cmpL]
theorem cmpL_long {a b:List Int} {k:Nat} (h1:k<a.length) (h2:b.length≤k):cmpL (a.drop k) (b.drop k)=1:=by
 rw [dropI_at a h1,List.drop_eq_nil_of_le h2];rfl
theorem cmpL_short {a b:List Int} {k:Nat} (h1:a.length≤k) (h2:k<b.length):cmpL (a.drop k) (b.drop k) = -1:=by
 rw [dropI_at b h2,List.drop_eq_nil_of_le h1];rfl
theorem cmpL_end {a b:List Int} {k:Nat} (h1:a.length≤k) (h2:b.length≤k):cmpL (a.drop k) (b.drop k)=0:=by
 rw [List.drop_eq_nil_of_le h1,List.drop_eq_nil_of_le h2];rfl
theorem drop_en (l:List En) {k:Nat} (h:k<l.length):l.drop k=l.getD k noEn :: l.drop (k+1):=by
 rw [List.drop_eq_getElem_cons h,List.getD_eq_getElem?_getD,List.getElem?_eq_getElem h]
 rfl
def qOf (l:List En):Nat→Option (List Int)
 | 0=>none
 | k+1=>some (l.getD k noEn).pl
theorem ent_step {D:Nat→Dm} {n:Nat} {l:List En} {k:Nat} (h:k<l.length):entFrom D n (qOf l k) (l.drop k)=if entOne D n (l.getD k noEn)≠0 then entOne D n (l.getD k noEn) else if aheadOk (qOf l k) (l.getD k noEn).pl=true then entFrom D n (qOf l (k+1)) (l.drop (k+1)) else 7:=by
 rw [drop_en l h,entFrom]
 rfl
theorem ent_bad {D:Nat→Dm} {n:Nat} {l:List En} {k:Nat} (h:k<l.length) (he:entOne D n (l.getD k noEn)≠0):entFrom D n (qOf l k) (l.drop k)=entOne D n (l.getD k noEn):=by rw [ent_step h,if_pos he]
theorem ent_clash {D:Nat→Dm} {n:Nat} {l:List En} {k:Nat} (h:k<l.length) (he:entOne D n (l.getD k noEn)=0) (hq:aheadOk (qOf l k) (l.getD k noEn).pl=false):entFrom D n (qOf l k) (l.drop k)=7:=by rw [ent_step h,if_neg (by simpa using he),if_neg (by rw [hq];decide)]
theorem ent_on {D:Nat→Dm} {n:Nat} {l:List En} {k:Nat} (h:k<l.length) (he:entOne D n (l.getD k noEn)=0) (hq:aheadOk (qOf l k) (l.getD k noEn).pl=true):entFrom D n (qOf l k) (l.drop k)=entFrom D n (qOf l (k+1)) (l.drop (k+1)):=by rw [ent_step h,if_neg (by simpa using he),if_pos hq]
theorem ent_end {D:Nat→Dm} {n:Nat} {l:List En} {k:Nat} (h:l.length≤k):entFrom D n (qOf l k) (l.drop k)=0:=by
 rw [List.drop_eq_nil_of_le h]
 cases qOf l k <;> rfl
theorem ents_bad {D:Nat→Dm} {n:Nat} (l:List En) (h:(allErr D n).2.2≠0):entsErr D n l=(allErr D n).2.2:=by unfold entsErr;rw [if_pos h]
theorem ents_in {D:Nat→Dm} {n:Nat} (l:List En) (h:(allErr D n).2.2=0):entsErr D n l=entFrom D n (qOf l 0) (l.drop 0):=by unfold entsErr;rw [if_neg (by simpa using h)];rfl
theorem one_place {D:Nat→Dm} {n:Nat} {e:En} (hR:(allErr D n).2.2=0) (h:placeErr D n e.pl≠0):entOne D n e=placeErr D n e.pl:=by
 rw [pe1 hR] at h ⊢
 unfold entOne
 rw [if_pos h]
theorem one_leaf {D:Nat→Dm} {n:Nat} {e:En} (hR:(allErr D n).2.2=0) (h:placeErr D n e.pl=0) (hf:leafV D n e.pl=false):entOne D n e=6:=by
 rw [pe1 hR] at h
 unfold entOne
 rw [if_neg (by simpa using h),if_pos hf]
theorem one_num {D:Nat→Dm} {n:Nat} {e:En} (hR:(allErr D n).2.2=0) (h:placeErr D n e.pl=0) (hf:leafV D n e.pl=true):entOne D n e=if numOk e.n=false then 1 else 0:=by
 rw [pe1 hR] at h
 unfold entOne
 rw [if_neg (by simpa using h),if_neg (by simp [hf])]
end Go.Proofs.YtpoklbfffgpbiaaGreatDoor
