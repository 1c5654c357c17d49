/-
  A text that is right is just the lines that it was read as (plain data).
-/
import Derived.Test.YtpoklbfffgpbiaaGreatDoorJYBL
import Derived.Test.YtpoklbfffgpbiaaGreatDoorJYBN
namespace Go.Proofs.YtpoklbfffgpbiaaGreatDoor
open Go Go.ChangeShapes Go.WideShapes Go.ChangeAt Go.RowKit
set_option maxRecDepth 20000
def mkB (l:List UInt8):ByteArray:=⟨l.toArray⟩
theorem mkB_data (l:List UInt8):(mkB l).data.toList=l:=rfl
theorem mkB_back (s:ByteArray):mkB s.data.toList=s:=byte_ext rfl
theorem pcs_map (c:UInt8) (s:ByteArray):piecesC c s=(cutB c s.data.toList).map mkB:=rfl
def dimW (d:RDm):List UInt8:=[100,105,109,32] ++ d.name.data.toList ++ [32] ++ Lib.itoa d.solve
def memW (m:Mem):List UInt8:=[109,101,109,32] ++ m.name.data.toList ++ [32] ++ paB m.parent ++ [32] ++ sgT m.sign ++ foB m.formula
def celW (p:ByteArray) (x:Int):List UInt8:=[99,101,108,108,32] ++ p.data.toList ++ [32] ++ Lib.itoa x
def dimLs (d:RDm):List (List UInt8):=dimW d :: d.mem.map memW
def celLs:List ByteArray→List Int→List (List UInt8)
 | p :: ps,x :: xs=>celW p x :: celLs ps xs
 | _,_=>[]
def shTx (X:List (List UInt8)):List UInt8:=X.flatMap fun l=>l ++ [10]
def lnL (ds:List RDm) (pl:List ByteArray) (num:List Int):List (List UInt8):=ds.flatMap dimLs ++ celLs pl num
theorem shTx_app (A B:List (List UInt8)):shTx (A ++ B)=shTx A ++ shTx B:=by simp [shTx]
theorem celLs_snoc:∀ (pl:List ByteArray) (num:List Int),num.length=pl.length→∀ p x,celLs (pl ++ [p]) (num ++ [x])=celLs pl num ++ [celW p x]
 | [],[],_,_,_=>rfl
 | _ :: ps,[],h,_,_=>by cases h
 | [],_ :: _,h,_,_=>by cases h
 | _ :: ps,_ :: xs,h,p,x=>by
  have:=celLs_snoc ps xs (by simpa using h) p x
  simp only [List.cons_append,celLs,this]
theorem celLs_range:∀ (pl:List ByteArray) (num:List Int),num.length=pl.length→celLs pl num=(List.range pl.length).map fun k=>celW (pl.getD k noWd) (num.getD k 0)
 | [],[],_=>rfl
 | _ :: ps,[],h=>by cases h
 | [],_ :: _,h=>by cases h
 | p :: ps,x :: xs,h=>by
  have:=celLs_range ps xs (by simpa using h)
  rw [List.length_cons,List.range_succ_eq_map,List.map_cons,List.map_map,celLs,this]
  rfl
theorem range_getD {α:Type} (l:List α) (z:α):(List.range l.length).map (fun i=>l.getD i z)=l:=by
 apply List.ext_getElem
 ·simp
 ·intro i h1 h2
  simp [List.getD,h2]
theorem range_flat {α:Type} (l:List α) (z:α) (f:α→List UInt8):(List.range l.length).flatMap (fun i=>f (l.getD i z))=l.flatMap f:=by
 conv=>rhs;rw [←range_getD l z]
 rw [List.flatMap_map]
theorem dimsT_list (ds:List RDm):dimsT (dmL ds) ds.length=shTx (ds.flatMap dimLs):=by
 have e1:∀ d:RDm,hdT (toDm d) ++ memsT (toDm d).mem (toDm d).n=shTx (dimLs d):=fun d=>by
  have e2:memsT (toDm d).mem (toDm d).n=d.mem.flatMap memT:=range_flat d.mem noM memT
  rw [e2]
  show _=(dimW d ++ [10]) ++ (d.mem.map memW).flatMap fun l=>l ++ [10]
  rw [List.flatMap_map]
  rfl
 have e3:dimsT (dmL ds) ds.length=ds.flatMap fun d=>hdT (toDm d) ++ memsT (toDm d).mem (toDm d).n:=range_flat ds noRD fun d=>hdT (toDm d) ++ memsT (toDm d).mem (toDm d).n
 rw [e3]
 unfold shTx
 rw [List.flatMap_assoc]
 congr 1
 funext d
 exact e1 d
theorem flat_cg {α β:Type} {f g:α→List β}:∀ l:List α,(∀ x∈l,f x=g x)→l.flatMap f=l.flatMap g
 | [],_=>rfl
 | x :: r,h=>by
  rw [List.flatMap_cons,List.flatMap_cons,h x (List.mem_cons_self ..),flat_cg r fun y hy=>h y (List.mem_cons_of_mem _ hy)]
theorem words3 {s:ByteArray} (h:(wdsB s).length=3):s.data.toList=(wdB (wdsB s) 0).data.toList ++ [32] ++ (wdB (wdsB s) 1).data.toList ++ [32] ++ (wdB (wdsB s) 2).data.toList:=by
 have hj:=join_cut 32 s.data.toList
 unfold wdsB at *
 rw [pcs_map] at *
 generalize cutB 32 s.data.toList=X at h hj
 rcases X with _ | ⟨a,_ | ⟨b,_ | ⟨c,_ | ⟨d,r⟩⟩⟩⟩
 ·cases h
 ·cases h
 ·cases h
 ·rw [←hj]
  simp [joinB,wdB,mkB]
 ·simp at h
theorem words4 {s:ByteArray} (h:(wdsB s).length=4):s.data.toList=(wdB (wdsB s) 0).data.toList ++ [32] ++ (wdB (wdsB s) 1).data.toList ++ [32] ++ (wdB (wdsB s) 2).data.toList ++ [32] ++ (wdB (wdsB s) 3).data.toList:=by
 have hj:=join_cut 32 s.data.toList
 unfold wdsB at *
 rw [pcs_map] at *
 generalize cutB 32 s.data.toList=X at h hj
 rcases X with _ | ⟨a,_ | ⟨b,_ | ⟨c,_ | ⟨d,_ | ⟨e,r⟩⟩⟩⟩⟩
 ·cases h
 ·cases h
 ·cases h
 ·cases h
 ·rw [←hj]
  simp [joinB,wdB,mkB]
 ·simp at h
theorem isB_data {x:ByteArray} {l:List UInt8} (h:isB x l=true):x.data.toList=l:=by rw [isB_l] at h;exact of_decide_eq_true h
theorem int_back {s:ByteArray} (h:intB s=true):Lib.itoa (intI s)=s.data.toList:=by
 unfold intB at h
 unfold intI
 obtain ⟨v,hv⟩:=Option.isSome_iff_exists.1 h
 rw [hv]
 unfold numK at hv
 split at hv
 ·exact numP_back hv
 ·cases hv
theorem pa_back {s:ByteArray} (h:paOk s=true):paB (paI s)=s.data.toList:=by
 unfold paOk at h
 unfold paI paB
 by_cases h1:isB s [45]=true
 ·rw [if_pos h1,if_neg (by decide),isB_data h1]
 ·rw [if_neg h1]
  have h2:isB s [45]=false:=by simpa using h1
  rw [h2,Bool.false_or,Bool.and_eq_true,decide_eq_true_eq] at h
  rw [if_pos h.2,int_back h.1]
theorem sg_back {x:ByteArray} (h:sgOk x=true):sgT (sgI x) ++ foB (foS x)=x.data.toList:=by
 obtain ⟨a,r,hl,hI,hf⟩:=sgI_l h
 have ha:s3 a=true:=by
  have h2:=h
  rw [sgOk_l,hl] at h2
  rcases hf with ⟨rfl,-⟩ | ⟨⟨c,t,rfl⟩,-⟩
  ·exact h2
  ·simp only [sgL,Bool.and_eq_true] at h2
   exact h2.2
 have hs:sgT (sgI x)=[a]:=by
  rw [hI]
  unfold s3 at ha
  simp only [Bool.or_eq_true,decide_eq_true_eq] at ha
  rcases ha with (rfl | rfl) | rfl <;> rfl
 rw [hs,hl]
 rcases hf with ⟨rfl,hf⟩ | ⟨⟨c,t,rfl⟩,hf⟩
 ·rw [hf]
  have:foB noWd=[]:=by unfold foB;rw [if_pos (by rw [ByteArray.toList_eq];rfl)]
  rw [this]
  rfl
 ·have h5:(x.extract 2 x.size).data.toList=c :: t:=by
   rw [Lib.extract_to_end,hl];rfl
  have h6:(foS x).toList.isEmpty=false:=by rw [hf,ByteArray.toList_eq,h5];rfl
  unfold foB
  rw [h6,hf,h5]
  rfl
theorem addM_snoc (a:List RDm) (b:RDm) (m:Mem):addM (a ++ [b]) m=a ++ [⟨b.name,b.solve,b.mem ++ [m]⟩]:=by
 unfold addM
 have e:(a ++ [b]).length-1=a.length:=by simp
 rw [e,List.set_append_right _ _ (Nat.le_refl _),Nat.sub_self]
 simp [List.getD]
theorem addM_flat (ds:List RDm) (m:Mem) (h:0<ds.length):(addM ds m).flatMap dimLs=ds.flatMap dimLs ++ [memW m]:=by
 obtain ⟨a,b,rfl⟩:∃ a b,ds=a ++ [b]:=⟨ds.dropLast,ds.getLast (by intro e;subst e;simp at h),(List.dropLast_concat_getLast _).symm⟩
 rw [addM_snoc]
 simp [dimLs]
 rfl
theorem ln_step {S:RdQ} {i:Nat} {s:ByteArray} (hn:S.num.length=S.pl.length) (h:(rdLine S i (wdsB s)).2=true):lnL (rdLine S i (wdsB s)).1.dims (rdLine S i (wdsB s)).1.pl (rdLine S i (wdsB s)).1.num=lnL S.dims S.pl S.num ++ [s.data.toList]:=by
 have hp0:∀ {l:List ByteArray} {m:List Int},m.length=l.length→l.length=0→celLs l m=[]:=fun {l m} h1 h2=>by
  have:l=[]:=List.length_eq_zero_iff.1 h2
  subst this
  cases m <;> rfl
 by_cases h0:kindB (wdsB s)=0
 ·rw [rd_none h0] at h;cases h
 ·by_cases h1:kindB (wdsB s)=1
  ·obtain ⟨r1,r2⟩:=rd_dim (S:=S) (i:=i) h1
   rw [r1] at h
   simp only [Bool.and_eq_true,decide_eq_true_eq] at h
   rw [r2 h.2]
   obtain ⟨k1,k2⟩:=kind_dim h1
   have hc:=h.1.1
   unfold cntB at hc
   rw [Bool.and_eq_true] at hc
   unfold lnL
   simp only []
   rw [hp0 hn h.2,List.append_nil,List.append_nil,List.flatMap_append,words3 k2,isB_data k1,←int_back hc.1]
   simp [dimLs,dimW]
  ·by_cases h2:kindB (wdsB s)=2
   ·obtain ⟨r1,r2⟩:=rd_mem (S:=S) (i:=i) h2
    rw [r1] at h
    rw [r2 h]
    obtain ⟨k1,k2⟩:=kind_mem h2
    unfold memOk at h
    simp only [Bool.and_eq_true,decide_eq_true_eq] at h
    obtain ⟨⟨⟨⟨p1,p2⟩,p3⟩,p4⟩,p5⟩:=h
    unfold lnL addMS
    simp only []
    rw [hp0 hn p5,List.append_nil,List.append_nil,addM_flat _ _ p4,words4 k2,isB_data k1,←pa_back p1,←sg_back p2]
    simp [memW]
   ·have h3:kindB (wdsB s)=3:=by have:=kind_le (wdsB s);omega
    rw [rd_cel h3] at h ⊢
    obtain ⟨k1,k2⟩:=kind_cel h3
    simp only [Bool.and_eq_true] at h
    unfold lnL addW
    simp only []
    rw [celLs_snoc _ _ hn,words3 k2,isB_data k1,←int_back h.1,List.append_assoc]
    simp [celW]
theorem ln_all (L:List ByteArray):∀ k,k≤L.length→(∀ j,j<k→rdOk L j=true)→lnL (rdTo L k).dims (rdTo L k).pl (rdTo L k).num=(L.take k).map fun s=>s.data.toList
 | 0,_,_=>rfl
 | k+1,hk,h=>by
  have ih:=ln_all L k (by omega) fun j hj=>h j (by omega)
  have h1:=h k (by omega)
  unfold rdOk at h1
  rw [rdTo_succ,ln_step (rdTo_dims L k).2.2 h1,ih,List.take_add_one,List.map_append]
  congr 1
  simp [List.getD,List.getElem?_eq_getElem (show k<L.length by omega)]
theorem rdEnd_all (L:List ByteArray):∀ f k,rdEnd L f k=none→(∀ j,k≤j→j<k+f→rdOk L j=true)∧(wdB L (k+f)).size=0
 | 0,k,h=>by
  rw [rdEnd] at h
  split at h
  ·rename_i h1;exact ⟨fun j h2 h3=>by omega,h1⟩
  ·cases h
 | f+1,k,h=>by
  rw [rdEnd] at h
  split at h
  ·rename_i h1
   obtain ⟨h2,h3⟩:=rdEnd_all L f (k+1) h
   refine ⟨fun j hj hj2=>?_,by rw [show k+(f+1)=k+1+f by omega];exact h3⟩
   by_cases e:j=k
   ·subst e;exact h1
   ·exact h2 j (by omega) (by omega)
  ·cases h
theorem join_end:∀ X:List (List UInt8),joinB 10 (X ++ [[]])=shTx X
 | []=>rfl
 | x :: r=>by
  rw [List.cons_append,joinB_cons _ _ (by simp),join_end r]
  simp [shTx]
theorem txt_back {t:ByteArray} (h:rdBad (piecesC 10 t)=none):shTx (lnL (psS t).dims (psS t).pl (psS t).num)=t.data.toList:=by
 have hp:=piecesC_pos 10 t
 unfold rdBad at h
 obtain ⟨h1,h2⟩:=rdEnd_all _ _ _ h
 rw [Nat.zero_add] at h2
 have h3:=ln_all (piecesC 10 t) ((piecesC 10 t).length-1) (by omega) fun j hj=>h1 j (Nat.zero_le _) (by omega)
 unfold psS
 rw [h3,←join_end]
 conv=>rhs;rw [←join_cut 10 t.data.toList]
 congr 1
 rw [pcs_map] at *
 generalize cutB 10 t.data.toList=X at hp h2
 rw [List.length_map] at hp h2 ⊢
 obtain ⟨a,b,rfl⟩:∃ a b,X=a ++ [b]:=⟨X.dropLast,X.getLast (by intro e;subst e;simp at hp),(List.dropLast_concat_getLast _).symm⟩
 have e:(a ++ [b]).length-1=a.length:=by simp
 rw [e] at h2 ⊢
 have hb:b=[]:=by
  have:wdB ((a ++ [b]).map mkB) a.length=mkB b:=by simp [wdB]
  rw [this,Lib.size_eq,mkB_data] at h2
  exact List.length_eq_zero_iff.1 h2
 subst hb
 rw [←List.map_take,List.take_left,List.map_map]
 have:((fun s:ByteArray=>s.data.toList) ∘ mkB)=id:=rfl
 rw [this,List.map_id]
theorem read_print {t:ByteArray} (h:psE t=0):shE (psD t) (psN t) (psL t)=0∧shV (psD t) (psN t) (psL t)=t:=by
 have hb:rdBad (piecesC 10 t)=none:=by
  cases hc:rdBad (piecesC 10 t) with
  | none=>rfl
  | some k=>unfold psE at h;rw [hc] at h;cases h
 have h2:psE2 t=0:=by unfold psE at h;rw [hb] at h;exact h
 unfold psE2 at h2
 split at h2
 ·rename_i h3;exact absurd h2 h3
 ·rename_i h3
  have hr:(ruErr (psD t) (psN t)).2.2=0:=by simpa using h3
  have hbad:=findFrom_cases (badE (psD t) (psN t) (psS t)) (psS t).pl.length 0
  split at h2
  ·rename_i h4
   rcases findFrom_two (badE (psD t) (psN t) (psS t)) (psS t).pl.length 0 with h5 | ⟨-,h5⟩
   ·have:ebad (psD t) (psN t) (psS t) = -1:=h5
    omega
   ·have h6:badE (psD t) (psN t) (psS t) (ebad (psD t) (psN t) (psS t)).toNat=true:=h5
    unfold badE at h6
    exact absurd h2 (of_decide_eq_true h6)
  ·rename_i h4
   have hE:shE (psD t) (psN t) (psL t)=0:=by unfold shE;rw [if_neg h3];exact h2
   refine ⟨hE,?_⟩
   have hok:∀ j,j<(psS t).pl.length→parseErr (psD t) (psN t) ((psS t).pl.getD j noWd)=0:=fun j hj=>by
    rcases hbad with ⟨-,h5⟩ | ⟨k,h5,-⟩
    ·have:=h5 j (Nat.zero_le _) (by omega)
     unfold badE at this
     simpa using this
    ·have:ebad (psD t) (psN t) (psS t)=k:=h5
     omega
   have hT:=txt_back hb
   unfold shV
   rw [if_pos hE]
   have e:shT (psD t) (psN t) (psL t)=t.data.toList:=by
    rw [←hT]
    unfold shT lnL
    rw [shTx_app]
    congr 1
    ·exact dimsT_list _
    ·have hnum:(psS t).num.length=(psS t).pl.length:=(rdTo_dims _ _).2.2
     rw [celLs_range _ _ hnum]
     unfold psL esL celsT shTx
     rw [List.flatMap_map,List.flatMap_map]
     have:∀ k∈List.range (psS t).pl.length,celT (psD t) (psN t) (enOf (psD t) (psN t) (psS t) k)=celW ((psS t).pl.getD k noWd) ((psS t).num.getD k 0) ++ [10]:=fun k hk=>by
      have hk':=List.mem_range.1 hk
      have h7:=hok k hk'
      have h8:=read_text h7
      unfold celT enOf celW
      simp only []
      have h9:parseL (psD t) (psN t) ((psS t).pl.getD k noWd)=readL (psD t) ((psS t).pl.getD k noWd) (psN t):=by unfold parseL;rw [if_pos h7]
      rw [h9,h8]
     exact flat_cg _ this
   rw [e]
noncomputable def runL (S:RdQ) (i:Nat):List ByteArray→Option RdQ
 | []=>some S
 | x :: r=>if (rdLine S i (wdsB x)).2=true then runL (rdLine S i (wdsB x)).1 (i+1) r else none
theorem runL_app:∀ (A B:List ByteArray) (S S1:RdQ) (i:Nat),runL S i A=some S1→runL S i (A ++ B)=runL S1 (i+A.length) B
 | [],B,S,S1,i,h=>by
  rw [runL] at h
  cases h
  rfl
 | x :: r,B,S,S1,i,h=>by
  rw [runL] at h
  split at h
  ·rename_i h1
   rw [List.cons_append,runL,if_pos h1,runL_app r B _ S1 (i+1) h,List.length_cons,show i+(r.length+1)=i+1+r.length by omega]
  ·cases h
theorem run_rd (L:List ByteArray):∀ (X tl:List ByteArray) (k:Nat) (S':RdQ),L.drop k=X ++ tl→runL (rdTo L k) k X=some S'→rdTo L (k+X.length)=S'∧∀ j,k≤j→j<k+X.length→rdOk L j=true
 | [],tl,k,S',_,h=>by
  rw [runL] at h
  cases h
  exact ⟨rfl,fun j h1 h2=>by simp at h2;omega⟩
 | x :: r,tl,k,S',hd,h=>by
  have hk:k<L.length:=by
   rcases Nat.lt_or_ge k L.length with h1 | h1
   ·exact h1
   ·rw [List.drop_eq_nil_of_le h1] at hd;cases hd
  rw [List.drop_eq_getElem_cons hk] at hd
  obtain ⟨e1,e2⟩:=List.cons.inj hd
  have hx:L.getD k noWd=x:=by rw [List.getD_eq_getElem?_getD,List.getElem?_eq_getElem hk];exact e1
  rw [runL] at h
  split at h
  ·rename_i h1
   have hok:rdOk L k=true:=by unfold rdOk;rw [hx];exact h1
   have hto:rdTo L (k+1)=(rdLine (rdTo L k) k (wdsB x)).1:=by rw [rdTo_succ,hx]
   rw [←hto] at h
   obtain ⟨h2,h3⟩:=run_rd L r tl (k+1) S' e2 h
   refine ⟨by rw [List.length_cons,show k+(r.length+1)=k+1+r.length by omega];exact h2,fun j hj hj2=>?_⟩
   by_cases e:j=k
   ·subst e;exact hok
   ·exact h3 j (by omega) (by simp at hj2;omega)
  ·cases h
theorem rdEnd_none (L:List ByteArray):∀ f k,(∀ j,k≤j→j<k+f→rdOk L j=true)→(wdB L (k+f)).size=0→rdEnd L f k=none
 | 0,k,_,h=>by rw [rdEnd];exact if_pos h
 | f+1,k,h1,h2=>by
  rw [rdEnd,if_pos (h1 k (Nat.le_refl _) (by omega))]
  exact rdEnd_none L f (k+1) (fun j hj hj2=>h1 j (by omega) (by omega)) (by rw [show k+1+f=k+(f+1) by omega];exact h2)
theorem cut_lines:∀ X:List (List UInt8),(∀ x∈X,(10:UInt8)∉x)→cutB 10 (shTx X)=X ++ [[]]
 | [],_=>rfl
 | x :: r,h=>by
  have e:shTx (x :: r)=x ++ 10 :: shTx r:=by simp [shTx]
  rw [e,cut_ahead (h x (List.mem_cons_self ..)),cut_lines r fun y hy=>h y (List.mem_cons_of_mem _ hy)]
  rfl
theorem run_text (X:List (List UInt8)) (S:RdQ) (hX:∀ x∈X,(10:UInt8)∉x) (h:runL rd0S 0 (X.map mkB)=some S):psS (mkB (shTx X))=S∧rdBad (piecesC 10 (mkB (shTx X)))=none:=by
 have hc:piecesC 10 (mkB (shTx X))=X.map mkB ++ [noWd]:=by
  rw [pcs_map,mkB_data,cut_lines X hX,List.map_append]
  rfl
 have hl:(X.map mkB ++ [noWd]).length-1=(X.map mkB).length:=by simp
 obtain ⟨h1,h2⟩:=run_rd (X.map mkB ++ [noWd]) (X.map mkB) [noWd] 0 S rfl h
 rw [Nat.zero_add] at h1 h2
 refine ⟨?_,?_⟩
 ·unfold psS
  rw [hc,hl]
  exact h1
 ·unfold rdBad
  rw [hc,hl]
  refine rdEnd_none _ _ 0 (fun j _ hj=>h2 j (Nat.zero_le _) (by omega)) ?_
  rw [Nat.zero_add]
  have:wdB (X.map mkB ++ [noWd]) (X.map mkB).length=noWd:=by simp [wdB]
  rw [this]
  rfl
theorem int_itoa {v:Int} (h1 : -10000000<v) (h2:v<10000000):intB (mkB (Lib.itoa v))=true∧intI (mkB (Lib.itoa v))=v:=by
 have h:numK 7 (mkB (Lib.itoa v)).data.toList=some v:=by
  rw [mkB_data]
  have ht:(Lib.trimPrefix (Lib.itoa v) [45]).length≤7:=by rw [trim_itoa];exact nDigits_le _ 7 (by omega) (by omega)
  rw [numK_in ht]
  exact numP_itoa v (by omega) (by omega)
 unfold intB intI
 rw [h]
 exact ⟨rfl,rfl⟩
theorem wds_three {a b c:List UInt8} (ha:(32:UInt8)∉a) (hb:(32:UInt8)∉b) (hc:(32:UInt8)∉c):wdsB (mkB (a ++ [32] ++ b ++ [32] ++ c))=[mkB a,mkB b,mkB c]:=by
 unfold wdsB
 rw [pcs_map,mkB_data]
 have e:a ++ [32] ++ b ++ [32] ++ c=a ++ 32 :: (b ++ 32 :: c):=by simp
 rw [e,cut_ahead ha,cut_ahead hb,cut_none hc]
 rfl
theorem wds_four {a b c d:List UInt8} (ha:(32:UInt8)∉a) (hb:(32:UInt8)∉b) (hc:(32:UInt8)∉c) (hd:(32:UInt8)∉d):wdsB (mkB (a ++ [32] ++ b ++ [32] ++ c ++ [32] ++ d))=[mkB a,mkB b,mkB c,mkB d]:=by
 unfold wdsB
 rw [pcs_map,mkB_data]
 have e:a ++ [32] ++ b ++ [32] ++ c ++ [32] ++ d=a ++ 32 :: (b ++ 32 :: (c ++ 32 :: d)):=by simp
 rw [e,cut_ahead ha,cut_ahead hb,cut_ahead hc,cut_none hd]
 rfl
theorem isB_mk (l:List UInt8):isB (mkB l) l=true:=by rw [isB_l,mkB_data];exact decide_eq_true rfl
def NmG (s:ByteArray):Prop:=nmW s=true∧∀ c∈s.data.toList,c≠10∧c≠32
structure MbG (m:Mem):Prop where
 name:NmG m.name
 lo : -1≤m.parent
 hi:m.parent≤12
 sign:m.sign = -1∨m.sign=0∨m.sign=1
 form:∀ c∈m.formula.data.toList,c≠10∧c≠32
structure DmG (d:RDm):Prop where
 name:NmG d.name
 lo:0≤d.solve
 hi:d.solve≤9
 mems:∀ m∈d.mem,MbG m
theorem no32 {l:List UInt8} (h:∀ c∈l,c≠10∧c≠32):(32:UInt8)∉l:=fun hm=>(h 32 hm).2 rfl
theorem no10 {l:List UInt8} (h:∀ c∈l,c≠10∧c≠32):(10:UInt8)∉l:=fun hm=>(h 10 hm).1 rfl
theorem pa_of {p:Int} (h1 : -1≤p) (h2:p≤12):paOk (mkB (paB p))=true∧paI (mkB (paB p))=p:=by
 unfold paB
 by_cases hp:0≤p
 ·rw [if_pos hp]
  obtain ⟨k1,k2⟩:=int_itoa (v:=p) (by omega) (by omega)
  have hb:isB (mkB (Lib.itoa p)) [45]=false:=by
   cases h:isB (mkB (Lib.itoa p)) [45] with
   | false=>rfl
   | true =>
    have h3:=isB_data h
    rw [mkB_data] at h3
    have h4:=atoi_itoa p
    have h5:Lib.atoi [45]=none:=by decide
    rw [h3,h5] at h4
    cases h4
  unfold paOk paI
  rw [hb,k1,k2]
  exact ⟨by simp [hp],rfl⟩
 ·rw [if_neg hp]
  have:p = -1:=by omega
  subst this
  exact ⟨by unfold paOk;rw [isB_mk];rfl,by unfold paI;rw [if_pos (isB_mk _)]⟩
theorem sg_of {x:Int} {f:ByteArray} (hx:x = -1∨x=0∨x=1):sgOk (mkB (sgT x ++ foB f))=true∧sgI (mkB (sgT x ++ foB f))=x∧foS (mkB (sgT x ++ foB f))=f:=by
 obtain ⟨a,ha,hs,hi⟩:∃ a,sgT x=[a]∧s3 a=true∧(if a=43 then (1:Int) else if a=45 then -1 else 0)=x:=by
  rcases hx with rfl | rfl | rfl
  ·exact ⟨45,rfl,rfl,rfl⟩
  ·exact ⟨126,rfl,rfl,rfl⟩
  ·exact ⟨43,rfl,rfl,rfl⟩
 have hok:sgOk (mkB (sgT x ++ foB f))=true:=by
  rw [sgOk_l,mkB_data,ha]
  unfold foB
  split
  ·exact hs
  ·rename_i hf
   rw [ByteArray.toList_eq] at hf
   cases hl:f.data.toList with
   | nil=>rw [hl] at hf;exact absurd rfl hf
   | cons c r=>simp only [List.singleton_append,sgL,hs];rfl
 refine ⟨hok,?_⟩
 obtain ⟨a',r,hl,hI,hf⟩:=sgI_l hok
 rw [mkB_data,ha] at hl
 obtain ⟨e1,e2⟩:=List.cons.inj hl
 subst e1
 refine ⟨hI.trans hi,?_⟩
 unfold foB at e2
 rcases hf with ⟨rfl,hf⟩ | ⟨⟨c,t,rfl⟩,hf⟩
 ·rw [hf]
  split at e2
  ·rename_i h5
   rw [ByteArray.toList_eq] at h5
   have:f.data.toList=[]:=by simpa using h5
   rw [←mkB_back f,this]
   rfl
  ·cases e2
 ·split at e2
  ·cases e2
  ·have e3:f.data.toList=c :: t:=(List.cons.inj e2).2
   refine hf.trans ?_
   have h6:((mkB (sgT x ++ foB f)).extract 2 (mkB (sgT x ++ foB f)).size).data.toList=c :: t:=by
    rw [Lib.extract_to_end,mkB_data,ha]
    unfold foB
    rw [if_neg (by rw [ByteArray.toList_eq,e3];simp),e3]
    rfl
   have h7:mkB (c :: t)=f:=by rw [←e3];exact mkB_back f
   refine Eq.trans ?_ h7
   rw [←h6]
   exact (mkB_back _).symm
theorem step_dim (a:List RDm) (d:RDm) (i:Nat) (h:DmG d):rdLine ⟨a,[],[],0⟩ i (wdsB (mkB (dimW d)))=(⟨a ++ [⟨d.name,d.solve,[]⟩],[],[],0⟩,true):=by
 have hw:wdsB (mkB (dimW d))=[mkB [100,105,109],d.name,mkB (Lib.itoa d.solve)]:=by
  have:=wds_three (a:=[100,105,109]) (b:=d.name.data.toList) (c:=Lib.itoa d.solve) (by decide) (no32 h.name.2) (no32 (itoa_no _))
  rw [mkB_back] at this
  rw [←this]
  rfl
 have h5:=h.lo
 have h6:=h.hi
 obtain ⟨k1,k2⟩:=int_itoa (v:=d.solve) (by omega) (by omega)
 have hk:kindB (wdsB (mkB (dimW d)))=1:=by rw [hw];unfold kindB;rw [if_pos ⟨isB_mk _,rfl⟩]
 obtain ⟨r1,r2⟩:=rd_dim (S:=⟨a,[],[],0⟩) (i:=i) hk
 have e2:=r2 rfl
 rw [hw] at r1 e2 ⊢
 refine Prod.ext ?_ ?_
 ·rw [e2]
  show (⟨a ++ [⟨d.name,intI (mkB (Lib.itoa d.solve)),[]⟩],[],[],0⟩:RdQ)=_
  rw [k2]
 ·rw [r1]
  show (cntB (mkB (Lib.itoa d.solve)) && nmW d.name && decide (0=0))=true
  unfold cntB
  rw [k1,k2,h.name.1,decide_eq_true h5]
  rfl
theorem step_mem (a:List RDm) (nm:ByteArray) (sv:Int) (ms:List Mem) (m:Mem) (i:Nat) (h:MbG m):rdLine ⟨a ++ [⟨nm,sv,ms⟩],[],[],0⟩ i (wdsB (mkB (memW m)))=(⟨a ++ [⟨nm,sv,ms ++ [m]⟩],[],[],0⟩,true):=by
 have hw:wdsB (mkB (memW m))=[mkB [109,101,109],m.name,mkB (paB m.parent),mkB (sgT m.sign ++ foB m.formula)]:=by
  have h32:(32:UInt8)∉sgT m.sign ++ foB m.formula:=fun hm=>by
   rcases List.mem_append.1 hm with h1 | h1
   ·exact (sgT_no _ _ h1).2 rfl
   ·exact (foB_no h.form _ h1).2 rfl
  have:=wds_four (a:=[109,101,109]) (b:=m.name.data.toList) (c:=paB m.parent) (d:=sgT m.sign ++ foB m.formula) (by decide) (no32 h.name.2) (no32 (paB_no _)) h32
  rw [mkB_back] at this
  rw [←this]
  unfold memW
  simp only [List.append_assoc,List.cons_append,List.nil_append]
 obtain ⟨p1,p2⟩:=pa_of h.lo h.hi
 obtain ⟨s1,s2,s3'⟩:=sg_of (f:=m.formula) h.sign
 have hk:kindB (wdsB (mkB (memW m)))=2:=by
  rw [hw]
  unfold kindB
  rw [if_neg (fun hh=>by simp at hh),if_pos ⟨isB_mk _,rfl⟩]
 obtain ⟨r1,r2⟩:=rd_mem (S:=⟨a ++ [⟨nm,sv,ms⟩],[],[],0⟩) (i:=i) hk
 rw [hw] at r1 r2 ⊢
 have hok:memOk ⟨a ++ [⟨nm,sv,ms⟩],[],[],0⟩ m.name (mkB (paB m.parent)) (mkB (sgT m.sign ++ foB m.formula))=true:=by
  unfold memOk
  rw [p1,s1,h.name.1]
  simp
 refine Prod.ext ?_ (r1.trans hok)
 rw [r2 hok]
 show addMS _ ⟨m.name,paI (mkB (paB m.parent)),sgI (mkB (sgT m.sign ++ foB m.formula)),foS (mkB (sgT m.sign ++ foB m.formula))⟩=_
 rw [p2,s2,s3']
 unfold addMS
 simp only [addM_snoc]
theorem step_cel (ds:List RDm) (pl:List ByteArray) (num:List Int) (f:Nat) (p:ByteArray) (x:Int) (i:Nat) (hp:(piecesC 46 p).all nmW=true) (hp2:∀ c∈p.data.toList,c≠10∧c≠32) (h1 : -10000000<x) (h2:x<10000000):∃ f',rdLine ⟨ds,pl,num,f⟩ i (wdsB (mkB (celW p x)))=(⟨ds,pl ++ [p],num ++ [x],f'⟩,true):=by
 have hw:wdsB (mkB (celW p x))=[mkB [99,101,108,108],p,mkB (Lib.itoa x)]:=by
  have:=wds_three (a:=[99,101,108,108]) (b:=p.data.toList) (c:=Lib.itoa x) (by decide) (no32 hp2) (no32 (itoa_no _))
  rw [mkB_back] at this
  rw [←this]
  rfl
 obtain ⟨k1,k2⟩:=int_itoa h1 h2
 have hb1:=isB_two (x:=mkB [99,101,108,108]) (isB_mk _) (l':=[100,105,109]) (by decide)
 have hb2:=isB_two (x:=mkB [99,101,108,108]) (isB_mk _) (l':=[109,101,109]) (by decide)
 have hk:kindB (wdsB (mkB (celW p x)))=3:=by
  rw [hw]
  unfold kindB
  rw [if_neg,if_neg,if_pos ⟨isB_mk _,rfl⟩]
  ·rintro ⟨h3,-⟩
   exact absurd (hb2.symm.trans h3) (by decide)
  ·rintro ⟨h3,-⟩
   exact absurd (hb1.symm.trans h3) (by decide)
 have r1:=rd_cel (S:=⟨ds,pl,num,f⟩) (i:=i) hk
 rw [hw] at r1 ⊢
 refine ⟨if pl.length=0 then i else f,r1.trans (Prod.ext ?_ ?_)⟩
 ·show addW ⟨ds,pl,num,f⟩ p (intI (mkB (Lib.itoa x))) i=_
  rw [k2]
  rfl
 ·show (intB (mkB (Lib.itoa x)) && (piecesC 46 p).all nmW)=true
  rw [k1,hp]
  rfl
theorem run_mems (a:List RDm) (nm:ByteArray) (sv:Int):∀ (ms' ms:List Mem) (i:Nat),(∀ m∈ms',MbG m)→runL ⟨a ++ [⟨nm,sv,ms⟩],[],[],0⟩ i ((ms'.map memW).map mkB)=some ⟨a ++ [⟨nm,sv,ms ++ ms'⟩],[],[],0⟩
 | [],ms,i,_=>by simp [runL]
 | m :: r,ms,i,h=>by
  rw [List.map_cons,List.map_cons,runL,step_mem a nm sv ms m i (h m (List.mem_cons_self ..))]
  simp only [if_true]
  rw [run_mems a nm sv r (ms ++ [m]) (i+1) fun y hy=>h y (List.mem_cons_of_mem _ hy)]
  simp
theorem run_dims:∀ (ds a:List RDm) (i:Nat),(∀ d∈ds,DmG d)→runL ⟨a,[],[],0⟩ i ((ds.flatMap dimLs).map mkB)=some ⟨a ++ ds,[],[],0⟩
 | [],a,i,_=>by simp [runL]
 | d :: r,a,i,h=>by
  have hd:=h d (List.mem_cons_self ..)
  rw [List.flatMap_cons,List.map_append]
  have h1:runL ⟨a,[],[],0⟩ i ((dimLs d).map mkB)=some ⟨a ++ [d],[],[],0⟩:=by
   unfold dimLs
   rw [List.map_cons,runL,step_dim a d i hd]
   simp only [if_true]
   exact run_mems a d.name d.solve d.mem [] (i+1) hd.mems
  rw [runL_app _ _ _ _ _ h1,run_dims r (a ++ [d]) _ fun y hy=>h y (List.mem_cons_of_mem _ hy)]
  simp
theorem run_cels (ds:List RDm):∀ (pl':List ByteArray) (num':List Int) (pl:List ByteArray) (num:List Int) (f i:Nat),num'.length=pl'.length→(∀ p∈pl',(piecesC 46 p).all nmW=true∧∀ c∈p.data.toList,c≠10∧c≠32)→(∀ x∈num',-10000000<x∧x<10000000)→∃ f',runL ⟨ds,pl,num,f⟩ i ((celLs pl' num').map mkB)=some ⟨ds,pl ++ pl',num ++ num',f'⟩
 | [],[],pl,num,f,i,_,_,_=>⟨f,by simp [celLs,runL]⟩
 | _ :: _,[],_,_,_,_,h,_,_=>by cases h
 | [],_ :: _,_,_,_,_,h,_,_=>by cases h
 | p :: ps,x :: xs,pl,num,f,i,h,h1,h2=>by
  obtain ⟨f1,hf1⟩:=step_cel ds pl num f p x i (h1 p (List.mem_cons_self ..)).1 (h1 p (List.mem_cons_self ..)).2 (h2 x (List.mem_cons_self ..)).1 (h2 x (List.mem_cons_self ..)).2
  obtain ⟨f2,hf2⟩:=run_cels ds ps xs (pl ++ [p]) (num ++ [x]) f1 (i+1) (by simpa using h) (fun y hy=>h1 y (List.mem_cons_of_mem _ hy)) fun y hy=>h2 y (List.mem_cons_of_mem _ hy)
  refine ⟨f2,?_⟩
  rw [celLs,List.map_cons,runL,hf1]
  simp only [if_true]
  rw [hf2]
  simp
end Go.Proofs.YtpoklbfffgpbiaaGreatDoor
