/-
  What places of package tree answers: the places of those of whom a question is told yes; slices.Index, IndexFunc, Contains, ContainsFunc over ints; what check of package tree answers.
-/
import Derived.Test.YtglekooldbeklaaGreatDoorJKAG
namespace Go.Proofs.YtglekooldbeklaaGreatDoor
open Go.ChangeShapes Go.WideShapes Go.ChangeAt Go.RowKit
set_option maxRecDepth 20000
def AskP (fn q r:Nat) (w:World) (n:Nat) (p:Nat→Bool):Prop := ∀ (i:Nat) (w':World),i<n→Below w.heap.size w w'→Calls Tryz.prog fn #[.int .i64 i,.pointer (some ⟨q,0,none⟩),.pointer (some ⟨r,0,none⟩)] w' fun e w''=>e=.returned (.bool (p i))∧Below w'.heap.size w' w''
set_option maxHeartbeats 1000000 in
theorem index_ints (A:Option Addr) (cap:Nat) (L:List Int) (i:Int) (w:World) (hn:L.length≤12) (hL:IntsAt w A cap L):Calls Tryz.prog 129 #[.slice A L.length cap,.int .i64 i] w fun e w'=>e=.returned (.int .i64 (findFrom (fun j=>L.getD j 0 == i) L.length 0))∧Below w.heap.size w w':=by
 obtain ⟨hc,h0 | ⟨b,rfl,hbw,hcell⟩⟩:=hL
 ·subst h0
  simp only [List.length_nil]
  go_enter Tryz.func129,Tryz.ntmps129
  go_wp2_with fail
  refine wp_loop_rounds 1 ?_
  rw [rounds_succ]
  go_wp2_with fail
  go_ret
  exact ⟨rfl,Below.refl _ _⟩
 ·have HC:Hid (∀ j,j<L.length→w.cell? ⟨b,j,none⟩=some (.int .i64 (L.getD j 0))):=hcell
  obtain ⟨p,hp⟩:∃ p:Nat→Bool,p=fun j=>L.getD j 0 == i:=⟨_,rfl⟩
  have HP:Hid (∀ j,p j=(L.getD j 0 == i)):=fun j=>by rw [hp]
  rw [←hp]
  generalize hnn:L.length=n at hn hc HC
  clear hcell hp hnn
  go_enter Tryz.func129,Tryz.ntmps129
  go_wp2_with fail
  go_loopg [8] n (fun g s8 wr => ∃ (k:Nat),k≤n∧g=n-k∧s8=.int .i64 k∧findFrom p (n-k) k=findFrom p n 0∧wr=w)
  case atStart=>exact ⟨0,Nat.zero_le _,rfl,rfl,rfl,rfl⟩
  case round =>
   obtain ⟨k,hk,rfl,rfl,hf,rfl⟩:=hrel
   have HF:Hid (findFrom p (n-k) k=findFrom p n 0):=hf
   clear hf
   by_cases hlt:k<n
   ·have hki:(k:Int)<(n:Int):=by omega
    have hcx:=HC.out k hlt
    have hsk:n-k=(n-(k+1))+1:=by omega
    have hn':(n:Int)≤12:=by omega
    have hpk:=HP.out k
    have HSK:Hid (n-k=(n-(k+1))+1):=hsk
    generalize L.getD k 0=x at hcx hpk
    clear hsk
    cases hb:p k
    ·have HK:Hid (p k=false):=hb
     rw [hb] at hpk
     have hx:(i == x)=false:=by
      have h1:x≠i:=by simpa using hpk.symm
      simpa using fun h:i=x=>h1 h.symm
     clear hb hpk
     go_wp2_with fail
     go_roundg (n-(k+1))
     case measure=>omega
     case rel=>exact ⟨k+1,by omega,rfl,by go_num,by rw [←HF.out,HSK.out,findFrom_miss _ HK.out],rfl⟩
    ·have HK:Hid (p k=true):=hb
     rw [hb] at hpk
     have hx:(i == x)=true:=by
      have h1:x=i:=by simpa using hpk.symm
      simpa using h1.symm
     clear hb hpk
     go_wp2_with fail
     go_ret
     exact ⟨by rw [←HF.out,HSK.out,findFrom_hit _ HK.out];rfl,Below.refl _ _⟩
   ·have hke:k=n:=by omega
    subst hke
    go_wp2_with fail
    go_ret
    exact ⟨by rw [←HF.out,Nat.sub_self];rfl,Below.refl _ _⟩
theorem contains_ints (A:Option Addr) (cap:Nat) (L:List Int) (i:Int) (w:World) (hn:L.length≤12) (hL:IntsAt w A cap L):Calls Tryz.prog 91 #[.slice A L.length cap,.int .i64 i] w fun e w'=>e=.returned (.bool (inB L i))∧Below w.heap.size w w':=by
 have h:=index_ints A cap L i w hn hL
 have HI:Hid (decide (0≤findFrom (fun j=>L.getD j 0 == i) L.length 0)=inB L i):=find_in L i
 generalize findFrom (fun j=>L.getD j 0 == i) L.length 0=f at h HI
 generalize L.length=n at h
 clear hL hn
 go_enter Tryz.func91,Tryz.ntmps91
 go_wp2_with fail
 refine h.mono ?_
 rintro e w1 ⟨rfl,hb1⟩
 go_wp2_with fail
 go_ret
 exact ⟨by rw [←HI.out];rfl,hb1⟩
end Go.Proofs.YtglekooldbeklaaGreatDoor
namespace Go.Proofs.YtglekooldbeklaaGreatDoor
def misC (N:List (List Int)) (out:List Int) (j:Nat):Nat:=((N.getD j []).filter fun x => !(out.contains x)).length
def usrL (N:List (List Int)) (m n:Nat):List Int:=selTo (fun j=>(N.getD j []).contains (m:Int)) n
theorem usr_mem {N:List (List Int)} {m n:Nat} {x:Int}:x∈usrL N m n↔∃ j:Nat,x=j∧j<n∧(m:Int)∈N.getD j []:=by
 unfold usrL
 constructor
 ·intro h
  obtain ⟨j,h1,h2,h3⟩:=selTo_mem x h
  exact ⟨j,h1,h2,List.contains_iff_mem.1 h3⟩
 ·rintro ⟨j,rfl,h2,h3⟩
  exact sel_has h2 (List.contains_iff_mem.2 h3)
theorem usr_rise (N:List (List Int)) (m n:Nat):(usrL N m n).Pairwise (· < ·):=sel_rise _ _
theorem mis_none {N:List (List Int)} {out:List Int} {j:Nat}:misC N out j=0↔∀ x∈N.getD j [],x∈out:=by
 unfold misC
 rw [List.length_eq_zero_iff,List.filter_eq_nil_iff]
 refine forall_congr' fun x=>forall_congr' fun _=>?_
 simp
theorem mis_first (N:List (List Int)) (j:Nat):misC N [] j=(N.getD j []).length:=by
 unfold misC
 rw [List.filter_eq_self.2 fun x _=>by simp]
theorem mis_le (N:List (List Int)) (out:List Int) (j:Nat):misC N out j≤(N.getD j []).length:=List.length_filter_le _ _
theorem filt_one:∀ (L out:List Int) (m:Int),L.Pairwise (· < ·)→m∉out→(L.filter fun x => !(out.contains x)).length=(L.filter fun x => !((out ++ [m]).contains x)).length+(if m∈L then 1 else 0)
 | [],_,_,_,_=>rfl
 | a :: L,out,m,hL,hm=>by
  obtain ⟨h1,h2⟩:=List.pairwise_cons.1 hL
  have ih:=filt_one L out m h2 hm
  have hc:∀ x,(out ++ [m]).contains x=(out.contains x || x == m):=fun x=>by
   rw [Bool.eq_iff_iff,Bool.or_eq_true,List.contains_iff_mem,List.contains_iff_mem,List.mem_append,List.mem_singleton,beq_iff_eq]
  rw [List.filter_cons,List.filter_cons]
  by_cases ha:a=m
  ·subst ha
   have hn:a∉L:=fun h=>by have:=h1 a h;omega
   have e1:out.contains a=false:=by rw [←Bool.not_eq_true,List.contains_iff_mem];exact hm
   rw [hc a,e1]
   rw [if_neg hn] at ih
   simp only [Bool.not_false,if_true,beq_self_eq_true,Bool.or_true,Bool.not_true,Bool.false_eq_true,if_false,List.length_cons,List.mem_cons,true_or]
   omega
  ·have hb:(a == m)=false:=by simpa using ha
   have e2:(m∈a :: L)↔m∈L:=by
    rw [List.mem_cons]
    exact ⟨fun h=>h.resolve_left (fun e=>ha e.symm),Or.inr⟩
   rw [hc a,hb,Bool.or_false]
   cases out.contains a
   ·simp only [Bool.not_false,if_true,List.length_cons,e2]
    omega
   ·simp only [Bool.not_true,Bool.false_eq_true,if_false,e2]
    exact ih
theorem mis_next {N:List (List Int)} {out:List Int} {m j:Nat} (hr:(N.getD j []).Pairwise (· < ·)) (hm:(m:Int)∉out):misC N out j=misC N (out ++ [(m:Int)]) j+(if (m:Int)∈N.getD j [] then 1 else 0):=filt_one _ _ _ hr hm
theorem ord_closed (N:List (List Int)) (k:Nat):∀ j:Nat,(j:Int)∈ordTo N k→∀ x∈N.getD j [],x∈ordTo N k:=by
 induction k with
 | zero=>intro j hj;cases hj
 | succ k ih =>
  intro j hj x hx
  rw [ordTo,List.mem_append] at hj ⊢
  rcases hj with hj | hj
  ·exact Or.inl (ih j hj x hx)
  ·split at hj
   ·rename_i h
    obtain ⟨m,h1,-,h3,-⟩:=next_some h
    rw [List.mem_singleton,h1] at hj
    have:j=m:=by omega
    subst this
    exact Or.inl ((ok_out h3).2 x hx)
   ·cases hj
def RdyP (N:List (List Int)) (out R:List Int):Prop:=R.Pairwise (· < ·)∧∀ x,x∈R↔∃ j:Nat,x=j∧j<N.length∧okN N out j=true
def RdyI (N:List (List Int)) (out:List Int) (m i:Nat) (R:List Int):Prop:=R.Pairwise (· < ·)∧∀ x,x∈R↔∃ j:Nat,x=j∧j<N.length∧((okN N out j=true∧j≠m)∨((j:Int)∈(usrL N m N.length).take i∧misC N out j=1))
def misI (N:List (List Int)) (out:List Int) (m i j:Nat):Nat:=misC N out j-(if (j:Int)∈(usrL N m N.length).take i then 1 else 0)
theorem rdy_first {N:List (List Int)} {R:List Int} (hR:R=selTo (fun j=>(N.getD j []).isEmpty) N.length):RdyP N [] R:=by
 subst hR
 refine ⟨sel_rise _ _,fun x=>?_⟩
 constructor
 ·intro h
  obtain ⟨j,h1,h2,h3⟩:=selTo_mem x h
  refine ⟨j,h1,h2,ok_of (by simp) fun y hy=>?_⟩
  rw [List.isEmpty_iff] at h3
  rw [h3] at hy
  cases hy
 ·rintro ⟨j,rfl,h2,h3⟩
  refine sel_has h2 ?_
  rw [List.isEmpty_iff]
  have:=(ok_out h3).2
  cases h:N.getD j [] with
  | nil=>rfl
  | cons a r=>exact absurd (this a (by rw [h];simp)) (by simp)
theorem rdy_head {N:List (List Int)} (hN:Inn N) (hc:∀ i:Nat,i<N.length→cycB N i=false) {k:Nat} (hk:k<N.length) {R:List Int} (hR:RdyP N (ordTo N k) R):∃ (m:Nat) (R':List Int),R=(m:Int) :: R'∧m<N.length∧okN N (ordTo N k) m=true∧ordTo N (k+1)=ordTo N k ++ [(m:Int)]∧RdyI N (ordTo N k) m 0 R':=by
 obtain ⟨m,-,h2,h3,h4,h5⟩:=ord_snoc hN hc hk
 obtain ⟨hr,hm⟩:=hR
 have hmR:=(hm m).2 ⟨m,rfl,h2,h3⟩
 cases R with
 | nil=>cases hmR
 | cons a R' =>
  obtain ⟨r1,r2⟩:=List.pairwise_cons.1 hr
  have ham:a=(m:Int):=by
   obtain ⟨j,e1,e2,e3⟩:=(hm a).1 (by simp)
   rcases List.mem_cons.1 hmR with h | h
   ·exact h.symm
   ·have h6:=r1 _ h
    rw [h4 j (by omega)] at e3
    cases e3
  subst ham
  refine ⟨m,R',rfl,h2,h3,h5,r2,fun x=>?_⟩
  constructor
  ·intro hx
   obtain ⟨j,e1,e2,e3⟩:=(hm x).1 (List.mem_cons_of_mem _ hx)
   refine ⟨j,e1,e2,Or.inl ⟨e3,fun e=>?_⟩⟩
   have:=r1 x hx
   omega
  ·rintro ⟨j,rfl,e2,(⟨e3,e4⟩ | ⟨e3,-⟩)⟩
   ·rcases List.mem_cons.1 ((hm j).2 ⟨j,rfl,e2,e3⟩) with h | h
    ·omega
    ·exact h
   ·simp at e3
theorem rdy_end {N:List (List Int)} (hN:Inn N) (hc:∀ i:Nat,i<N.length→cycB N i=false) {R:List Int} (hR:RdyP N (ordTo N N.length) R):R=[]:=by
 refine List.eq_nil_iff_forall_not_mem.2 fun x hx=>?_
 obtain ⟨j,rfl,h2,h3⟩:=(hR.2 x).1 hx
 have hj:=(ok_out h3).1
 obtain ⟨h1,h4⟩:=ord_in N N.length
 have:=few N.length ((j:Int) :: ordTo N N.length) (List.nodup_cons.2 ⟨hj,h1⟩) fun y hy=>by
  rcases List.mem_cons.1 hy with rfl | hy
  ·omega
  ·exact h4 y hy
 rw [List.length_cons,ord_len hN hc N.length (Nat.le_refl _)] at this
 omega
def insL (R:List Int) (k:Int):List Int:=R.take (R.countP (· < k)) ++ k :: R.drop (R.countP (· < k))
theorem ins_parts:∀ (R:List Int) (k:Int),R.Pairwise (· < ·)→k∉R→(∀ a∈R.take (R.countP (· < k)),a<k)∧∀ b∈R.drop (R.countP (· < k)),k<b
 | [],k,_,_=>⟨fun a h=>by simp at h,fun b h=>by simp at h⟩
 | a :: R,k,hR,hk=>by
  obtain ⟨h1,h2⟩:=List.pairwise_cons.1 hR
  have hk2:k≠a∧k∉R:=by simpa using hk
  by_cases h:a<k
  ·obtain ⟨i1,i2⟩:=ins_parts R k h2 hk2.2
   rw [List.countP_cons_of_pos (by simpa using h),List.take_succ_cons,List.drop_succ_cons]
   refine ⟨fun x hx=>?_,i2⟩
   rcases List.mem_cons.1 hx with rfl | hx
   ·exact h
   ·exact i1 x hx
  ·have h0:(a :: R).countP (· < k)=0:=by
    rw [List.countP_eq_zero]
    intro x hx
    rcases List.mem_cons.1 hx with rfl | hx
    ·simpa using h
    ·have:=h1 x hx
     simp;omega
   rw [h0]
   refine ⟨fun x hx=>by simp at hx,fun x hx=>?_⟩
   rcases List.mem_cons.1 (show x∈a :: R from hx) with rfl | hx
   ·omega
   ·have:=h1 x hx;omega
theorem ins_rise {R:List Int} {k:Int} (hR:R.Pairwise (· < ·)) (hk:k∉R):(insL R k).Pairwise (· < ·)∧∀ x,x∈insL R k↔x=k∨x∈R:=by
 obtain ⟨h1,h2⟩:=ins_parts R k hR hk
 have hsp:R.take (R.countP (· < k)) ++ R.drop (R.countP (· < k))=R:=List.take_append_drop _ _
 refine ⟨?_,fun x=>?_⟩
 ·unfold insL
  rw [List.pairwise_append]
  refine ⟨hR.sublist (List.take_sublist _ _),List.pairwise_cons.2 ⟨h2,hR.sublist (List.drop_sublist _ _)⟩,fun a ha b hb=>?_⟩
  rcases List.mem_cons.1 hb with rfl | hb
  ·exact h1 a ha
  ·have:=h1 a ha
   have:=h2 b hb
   omega
 ·unfold insL
  rw [List.mem_append,List.mem_cons]
  have:x∈R↔x∈R.take (R.countP (· < k))∨x∈R.drop (R.countP (· < k)):=by rw [←List.mem_append,hsp]
  rw [this]
  constructor
  ·rintro (h | h | h)
   ·exact Or.inr (Or.inl h)
   ·exact Or.inl h
   ·exact Or.inr (Or.inr h)
  ·rintro (h | h | h)
   ·exact Or.inr (Or.inl h)
   ·exact Or.inl h
   ·exact Or.inr (Or.inr h)
theorem usr_take {N:List (List Int)} {m i:Nat} (hi:i<(usrL N m N.length).length) (x:Int):x∈(usrL N m N.length).take (i+1)↔x∈(usrL N m N.length).take i∨x=(usrL N m N.length).getD i 0:=by
 rw [List.take_succ_eq_append_getElem hi,List.mem_append,List.mem_singleton,List.getD_eq_getElem?_getD,List.getElem?_eq_getElem hi]
 rfl
theorem usr_new {N:List (List Int)} {m i:Nat} (hi:i<(usrL N m N.length).length):(usrL N m N.length).getD i 0∉(usrL N m N.length).take i:=by
 intro h
 rw [List.getD_eq_getElem?_getD,List.getElem?_eq_getElem hi,Option.getD_some] at h
 obtain ⟨j,hj,e⟩:=List.getElem_of_mem h
 have hj2:j<i:=by have:=hj;rw [List.length_take] at this;omega
 rw [List.getElem_take] at e
 have:=List.pairwise_iff_getElem.1 (usr_rise N m N.length) j i (by omega) hi hj2
 omega
theorem usr_step {N:List (List Int)} (hr:∀ j,j<N.length→(N.getD j []).Pairwise (· < ·)) {out:List Int} {m i:Nat} (hm:okN N out m=true) (hi:i<(usrL N m N.length).length):∃ u:Nat,(usrL N m N.length).getD i 0=(u:Int)∧u<N.length∧misI N out m i u=misC N out u∧1≤misC N out u∧misI N out m (i+1) u+1=misC N out u∧(∀ j,j≠u→misI N out m (i+1) j=misI N out m i j)∧∀ R,RdyI N out m i R→(u:Int)∉R∧(misC N out u=1→RdyI N out m (i+1) (insL R u))∧(misC N out u≠1→RdyI N out m (i+1) R):=by
 have hmo:=(ok_out hm).1
 have hmem:(usrL N m N.length).getD i 0∈usrL N m N.length:=by
  rw [List.getD_eq_getElem?_getD,List.getElem?_eq_getElem hi];exact List.getElem_mem hi
 obtain ⟨u,e1,e2,e3⟩:=usr_mem.1 hmem
 have hnew:=usr_new hi
 rw [e1] at hnew
 have h1:1≤misC N out u:=by
  have:=mis_next (hr u e2) hmo
  rw [if_pos e3] at this
  omega
 have hnk:okN N out u=false:=by
  rw [←Bool.not_eq_true]
  intro h
  exact hmo ((ok_out h).2 _ e3)
 have ht:=fun x=>usr_take (N:=N) (m:=m) hi x
 rw [e1] at ht
 refine ⟨u,e1,e2,by unfold misI;rw [if_neg hnew];omega,h1,?_,fun j hj=>?_,fun R hR=>?_⟩
 ·unfold misI
  rw [if_pos ((ht u).2 (Or.inr rfl))]
  omega
 ·unfold misI
  have:((j:Int)∈(usrL N m N.length).take (i+1))↔(j:Int)∈(usrL N m N.length).take i:=by
   rw [ht]
   exact ⟨fun h=>h.resolve_right (by omega),Or.inl⟩
  simp only [this]
 ·have hnR:(u:Int)∉R:=fun h=>by
   obtain ⟨j,f1,f2,(⟨f3,-⟩ | ⟨f3,-⟩)⟩:=(hR.2 u).1 h
   ·have:j=u:=by omega
    subst this
    rw [hnk] at f3
    cases f3
   ·have:j=u:=by omega
    subst this
    exact hnew f3
  refine ⟨hnR,fun h=>?_,fun h=>⟨hR.1,fun x=>?_⟩⟩
  ·obtain ⟨i1,i2⟩:=ins_rise hR.1 hnR
   refine ⟨i1,fun x=>?_⟩
   rw [i2,hR.2]
   constructor
   ·rintro (rfl | ⟨j,f1,f2,f3⟩)
    ·exact ⟨u,rfl,e2,Or.inr ⟨(ht u).2 (Or.inr rfl),h⟩⟩
    ·refine ⟨j,f1,f2,?_⟩
     rcases f3 with f3 | ⟨f3,f4⟩
     ·exact Or.inl f3
     ·exact Or.inr ⟨(ht j).2 (Or.inl f3),f4⟩
   ·rintro ⟨j,f1,f2,(f3 | ⟨f3,f4⟩)⟩
    ·exact Or.inr ⟨j,f1,f2,Or.inl f3⟩
    ·rcases (ht j).1 f3 with f5 | f5
     ·exact Or.inr ⟨j,f1,f2,Or.inr ⟨f5,f4⟩⟩
     ·exact Or.inl (f1.trans f5)
  ·rw [hR.2]
   constructor
   ·rintro ⟨j,f1,f2,f3⟩
    refine ⟨j,f1,f2,?_⟩
    rcases f3 with f3 | ⟨f3,f4⟩
    ·exact Or.inl f3
    ·exact Or.inr ⟨(ht j).2 (Or.inl f3),f4⟩
   ·rintro ⟨j,f1,f2,(f3 | ⟨f3,f4⟩)⟩
    ·exact ⟨j,f1,f2,Or.inl f3⟩
    ·rcases (ht j).1 f3 with f5 | f5
     ·exact ⟨j,f1,f2,Or.inr ⟨f5,f4⟩⟩
     ·have:j=u:=by omega
      subst this
      exact absurd f4 h
theorem usr_end {N:List (List Int)} (hr:∀ j,j<N.length→(N.getD j []).Pairwise (· < ·)) {k m:Nat} (hm:okN N (ordTo N k) m=true):(∀ j,j<N.length→misI N (ordTo N k) m (usrL N m N.length).length j=misC N (ordTo N k ++ [(m:Int)]) j)∧∀ R,RdyI N (ordTo N k) m (usrL N m N.length).length R→RdyP N (ordTo N k ++ [(m:Int)]) R:=by
 have hmo:=(ok_out hm).1
 have hmn:=(ok_out hm).2
 refine ⟨fun j hj=>?_,fun R hR=>⟨hR.1,fun x=>?_⟩⟩
 ·unfold misI
  rw [List.take_length]
  have h1:=mis_next (hr j hj) hmo
  by_cases h:(m:Int)∈N.getD j []
  ·rw [if_pos (usr_mem.2 ⟨j,rfl,hj,h⟩)]
   rw [if_pos h] at h1
   omega
  ·have hnu:(j:Int)∉usrL N m N.length:=fun e=>by
    obtain ⟨i,e1,-,e3⟩:=usr_mem.1 e
    have e2:i=j:=by omega
    rw [e2] at e3
    exact h e3
   rw [if_neg hnu]
   rw [if_neg h] at h1
   omega
 ·rw [hR.2,List.take_length]
  constructor
  ·rintro ⟨j,f1,f2,f3⟩
   refine ⟨j,f1,f2,?_⟩
   rcases f3 with ⟨f3,f4⟩ | ⟨f3,f4⟩
   ·obtain ⟨g1,g2⟩:=ok_out f3
    refine ok_of ?_ fun y hy=>List.mem_append.2 (Or.inl (g2 y hy))
    rw [List.mem_append,List.mem_singleton]
    rintro (h | h)
    ·exact g1 h
    ·omega
   ·obtain ⟨i,e1,e2,e3⟩:=usr_mem.1 f3
    have:i=j:=by omega
    subst this
    have h1:=mis_next (hr i e2) hmo
    rw [if_pos e3,f4] at h1
    refine ok_of ?_ (mis_none.1 (by omega))
    rw [List.mem_append,List.mem_singleton]
    rintro (h | h)
    ·exact hmo (ord_closed N k i h _ e3)
    ·have:i=m:=by omega
     subst this
     exact hmo (hmn _ e3)
  ·rintro ⟨j,f1,f2,f3⟩
   obtain ⟨g1,g2⟩:=ok_out f3
   rw [List.mem_append,List.mem_singleton] at g1
   refine ⟨j,f1,f2,?_⟩
   by_cases h:(m:Int)∈N.getD j []
   ·refine Or.inr ⟨usr_mem.2 ⟨j,rfl,f2,h⟩,?_⟩
    have h1:=mis_next (hr j f2) hmo
    rw [if_pos h,mis_none.2 g2] at h1
    omega
   ·refine Or.inl ⟨ok_of (fun e=>g1 (Or.inl e)) fun y hy=>?_,fun e=>g1 (Or.inr (by omega))⟩
    rcases List.mem_append.1 (g2 y hy) with h2 | h2
    ·exact h2
    ·rw [List.mem_singleton] at h2
     rw [h2] at hy
     exact absurd hy h
end Go.Proofs.YtglekooldbeklaaGreatDoor
namespace Go.Proofs.YtglekooldbeklaaGreatDoor
open Go.ChangeShapes Go.WideShapes Go.ChangeAt Go.RowKit
set_option maxRecDepth 20000
set_option maxHeartbeats 4000000 in
theorem pof_blk (A0:Option Addr) (cap n:Nat) (D:Nat→Dm) (A:Nat→Option Addr) (C:Nat→Nat) (X:Nat) (w:World) (he:(allErr D n).2.2=0) (hXp:X<prodN D n) (hM:DimsV w A0 cap n D A C):Calls Tryz.prog 8 #[.agg #[.slice A0 n cap],.int .i64 X] w fun e w'=>(∃ g,e=.returned (.tuple #[.slice (some ⟨g,0,none⟩) n n,.nilIface])∧w.heap.size≤g∧IntB w' g (placeL D n X))∧Below w.heap.size w w':=by
 have hB0:=ownOut_below w A0 n cap 24
 have h:=pcells_any A0 cap n D A C (ownOut w A0 n cap 24) (hM.later hB0)
 have HB0:Hid (Below w.heap.size w (ownOut w A0 n cap 24)):=hB0
 have HM:Hid (DimsV w A0 cap n D A C):=hM
 clear hM hB0
 obtain ⟨hn1,hn4,hp3,hd⟩:=allErr_some he
 have hcv:cellsV D n=(prodN D n:Int):=by unfold cellsV;rw [if_pos he]
 rw [he,errV_zero,hcv] at h
 clear he hcv
 have hX:X≤3000:=by omega
 have HD:Hid (∀ i,i<n→1≤(D i).n∧(D i).n≤12):=hd
 have hn':(n:Int)≤4:=by omega
 have hn1':(1:Int)≤(n:Int):=by omega
 have hxp:(X:Int)<(prodN D n:Int):=by omega
 have hmk:=run_make_row' (P:=Tryz.prog) 42 3 (.int .i64 0) 8 Tryz.underlying42 Tryz.infoIntP rfl .i64 .i64 n (by omega) (by omega)
 have hbx:decide ((X:Int)<0)=false:=decide_eq_false (by omega)
 have hbp:decide ((prodN D n:Int)≤(X:Int))=false:=decide_eq_false (by omega)
 have hbp':decide (prodN D n≤X)=false:=decide_eq_false (by omega)
 generalize hpn:prodN D n=pn at h hXp hp3 hxp hbp hbp'
 clear hd hpn hXp
 go_enter Tryz.func8,Tryz.ntmps8
 go_wp2_with fail
 refine h.mono ?_
 rintro e w1 ⟨rfl,hb1⟩
 have hB:Below w.heap.size w w1:=onB HB0.out hb1
 have hz:w.heap.size<w1.heap.size:=by have:=hb1.size;rw [ownOut_size] at this;omega
 have h2:w1.cell? ⟨w.heap.size,0,none⟩=some (.slice A0 n cap):=(hb1.cell (p:=⟨w.heap.size,0,none⟩) (by show w.heap.size<_;rw [ownOut_size];omega)).trans (ownOut_at ..)
 obtain ⟨hcap,h0 | ⟨b,o,rfl,hMs⟩⟩:=HM.out.later hB
 ·omega
 have HMs:Hid (DimsAt w1 b o n D A C):=hMs
 have HB:Hid (Below w.heap.size w w1):=hB
 have HSz:Hid (w.heap.size≤w1.heap.size):=Nat.le_of_lt hz
 clear hb1 h hMs hB
 go_wp2_with fail
 clear hmk
 go_loopg [1,9,10] n (fun g s1 s9 s10 wr => ∃ (r:Nat),r≤n∧g=n-r∧s9=.int .i64 ((n:Int)-1-r)∧s1=.int .i64 (restAt D n X r)∧IntB wr w1.heap.size (digL D n X r)∧Below w1.heap.size w1 wr)
 case atStart=>exact ⟨0,Nat.zero_le _,rfl,by simp,rfl,by rw [digL_zero];exact IntB.made w1 n,by go_grown⟩
 case round =>
  obtain ⟨r,hr,rfl,rfl,rfl,hI,hBw⟩:=hrel
  have HI:Hid (IntB wr w1.heap.size (digL D n X r)):=hI
  have HBw:Hid (Below w1.heap.size w1 wr):=hBw
  by_cases hlt:r<n
  ·obtain ⟨k,hk⟩:∃ k:Nat,k=n-1-r:=⟨_,rfl⟩
   have hki:(n:Int)-1-(r:Int)=(k:Int):=by omega
   rw [hki]
   have HK:Hid (k=n-1-r):=hk
   have hkn:k<n:=by omega
   obtain ⟨-,-,h3,-⟩:=(HMs.out.later hBw).2 k hkn
   have c2:wr.cell? ⟨w.heap.size,0,none⟩=some (.slice (some ⟨b,o,none⟩) n cap):=(hBw.cell (p:=⟨w.heap.size,0,none⟩) hz).trans h2
   have hkn':(k:Int)<(n:Int):=by omega
   have c4:=hI.cell (j:=k) (by rw [digL_len];exact hkn)
   have c5:=hI.frozen k
   obtain ⟨hd1,hd2⟩:=HD.out k hkn
   have hre:=restAt_le D n X r
   have HR1:Hid (restAt D n X (r+1)=restAt D n X r / (D k).n):=by show _=_;rw [restAt,hk]
   have HR2:Hid (digitAt D n X k=restAt D n X r % (D k).n):=by show _=_;rw [digitAt,show n-1-k=r by omega]
   have HS:Hid ((digL D n X r).set k (digitAt D n X k:Int)=digL D n X (r+1)):=by show _=_;rw [hk];exact digL_set D n X r hlt
   generalize (digL D n X r).getD k 0=old at c4
   generalize restAt D n X r=R at HR1 HR2 hre
   generalize hm:(D k).n=m at h3 hd1 hd2 HR1 HR2
   have hm1:(1:Int)≤(m:Int):=by omega
   have hm2:(m:Int)≤12:=by omega
   have hR:(R:Int)≤3000:=by omega
   have hR0:(0:Int)≤(R:Int):=by omega
   have hm0:((m:Int) == 0)=false:=by simp;omega
   clear hI hBw hk hki hm
   go_wp2_with fail
   go_roundg (n-(r+1))
   case measure=>omega
   case rel =>
    have hdm:=Nat.div_le_self R m
    have hw:wrap64 ((R:Int) / (m:Int))=((R / m:Nat):Int):=by
     rw [←Int.natCast_ediv]
     exact wrap_small (Nat.le_trans hdm (by omega))
    refine ⟨r+1,by omega,rfl,?_,?_,?_,HBw.out.setCell (by show w1.heap.size≤w1.heap.size;omega) _⟩
    ·have:=HK.out
     congr 1
     omega
    ·rw [hw,HR1.out]
    ·have hs:=HI.out.set k (digitAt D n X k:Int)
     rw [HS.out,HR2.out,Int.natCast_emod] at hs
     exact hs
  ·have hre:r=n:=by omega
   subst hre
   have hk0:(r:Int)-1-(r:Int) = -1:=by omega
   rw [hk0]
   clear hI hBw
   go_wp2_with fail
   go_ret2
   have hp:=HI.out
   rw [digL_all] at hp
   exact ⟨⟨_,rfl,HSz.out,hp⟩,onB HB.out HBw.out⟩
end Go.Proofs.YtglekooldbeklaaGreatDoor
