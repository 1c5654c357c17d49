/-
  Entries stay right where a member is taken out; plain data.
-/
import Derived.Test.YtglekooldbeklaaGreatDoorJKBO
import Derived.Test.YtglekooldbeklaaGreatDoorJKBP
namespace Go.Proofs.YtglekooldbeklaaGreatDoor
open Go.ChangeShapes Go.WideShapes Go.ChangeAt Go.RowKit Go.Lib
theorem wo_lt {i x y:Int} (hx:x≠i) (hy:y≠i) (h:x<y):wo i x<wo i y:=by
 unfold wo
 split <;> split <;> omega
theorem wo_inj {i x y:Int} (hx:x≠i) (hy:y≠i) (h:wo i x=wo i y):x=y:=by
 unfold wo at h
 split at h <;> split at h <;> omega
theorem less_wo {i:Int}:∀ (k:Nat) (a b:List Int),a.getD k 0≠i→b.getD k 0≠i→k<a.length→k<b.length→lessL a b=true→lessL (a.set k (wo i (a.getD k 0))) (b.set k (wo i (b.getD k 0)))=true
 | _,[],_,_,_,h,_,_=>absurd h (Nat.not_lt_zero _)
 | _,_ :: _,[],_,_,_,h,_=>absurd h (Nat.not_lt_zero _)
 | 0,x :: r,y :: t,h1,h2,_,_,h=>by
  simp only [List.getD_cons_zero,List.set_cons_zero] at h1 h2 ⊢
  unfold lessL at h ⊢
  by_cases e:x=y
  ·rw [if_pos e] at h
   rw [if_pos (by rw [e])]
   exact h
  ·rw [if_neg e] at h
   rw [if_neg fun e'=>e (wo_inj h1 h2 e')]
   exact decide_eq_true (wo_lt h1 h2 (of_decide_eq_true h))
 | k+1,x :: r,y :: t,h1,h2,h3,h4,h=>by
  simp only [List.getD_cons_succ,List.set_cons_succ] at h1 h2 ⊢
  unfold lessL at h ⊢
  by_cases e:x=y
  ·rw [if_pos e] at h ⊢
   exact less_wo k r t h1 h2 (Nat.lt_of_succ_lt_succ h3) (Nat.lt_of_succ_lt_succ h4) h
  ·rw [if_neg e] at h ⊢
   exact h
theorem kept_mem {l:List En} {k:Nat} {i:Int} {e:En} (h:e∈keptL l k i):e∈l∧e.pl.getD k 0≠i:=by
 unfold keptL at h
 rw [List.mem_filter] at h
 exact ⟨h.1,by simpa using h.2⟩
theorem rise_rem {l:List En} {k:Nat} {i:Int} (hl:∀ e∈l,k<e.pl.length) (h:l.Pairwise fun a b=>lessL a.pl b.pl=true):(remL l k i).Pairwise fun a b=>lessL a.pl b.pl=true:=by
 unfold remL
 rw [List.pairwise_map]
 have h1:(keptL l k i).Pairwise fun a b=>lessL a.pl b.pl=true:=by
  unfold keptL
  exact h.filter _
 refine h1.imp_of_mem fun {a b} ha hb hab=>?_
 obtain ⟨ha1,ha2⟩:=kept_mem ha
 obtain ⟨hb1,hb2⟩:=kept_mem hb
 exact less_wo k a.pl b.pl ha2 hb2 (hl a ha1) (hl b hb1) hab
theorem getD_setR {l:List Int} {k j:Nat} {a:Int} (h:k<l.length):(l.set k a).getD j 0=if j=k then a else l.getD j 0:=by
 rw [List.getD_eq_getElem?_getD,List.getD_eq_getElem?_getD,List.getElem?_set]
 by_cases e:k=j
 ·subst e
  simp [h]
 ·rw [if_neg e,if_neg fun e'=>e e'.symm]
theorem ens_rem {D:Nat→Dm} {n k i:Nat} {l:List En} (hE:Ens D n l) (hk:k<n) (hi:i<(D k).n) (hA:(allErr (putD D k (remD (D k) i)) n).2.2=0) (hp:∀ j,j<(D k).n→((D k).mem j).parent≠(i:Int)):Ens (putD D k (remD (D k) i)) n (remL l k (i:Int)):=by
 have hlen:∀ e∈l,k<e.pl.length:=fun e he=>by rw [(hE.each e he).1.len];exact hk
 refine ⟨hA,fun e' he'=>?_,rise_rem hlen hE.rise⟩
 unfold remL at he'
 obtain ⟨e,he,rfl⟩:=List.mem_map.1 he'
 obtain ⟨he,hv⟩:=kept_mem he
 obtain ⟨h1,h2,h3⟩:=hE.each e he
 have hkl:=hlen e he
 have hlo:=h1.lo k hk
 have hhi:=h1.hi k hk
 obtain ⟨x,hx⟩:∃ x:Nat,e.pl.getD k 0=x:=⟨(e.pl.getD k 0).toNat,by omega⟩
 rw [hx] at hv hlo hhi
 have hxi:x≠i:=fun e2=>hv (by rw [e2])
 obtain ⟨y,hy,hyx⟩:∃ y:Nat,wo (i:Int) (x:Int)=y∧(if y<i then y else y+1)=x:=by
  unfold wo
  by_cases h:i<x
  ·exact ⟨x-1,by rw [if_pos (by omega)];omega,by rw [if_neg (by omega)];omega⟩
  ·exact ⟨x,by rw [if_neg (by omega)],by rw [if_pos (by omega)]⟩
 have hyn:y<(D k).n-1:=by
  split at hyx <;> omega
 have hg:∀ j,(movE k (i:Int) e).pl.getD j 0=if j=k then (y:Int) else e.pl.getD j 0:=fun j=>by
  show (e.pl.set k (wo (i:Int) (e.pl.getD k 0))).getD j 0=_
  rw [hx,hy]
  exact getD_setR hkl
 have hIn:InO (putD D k (remD (D k) i)) n (movE k (i:Int) e).pl:=⟨hA,by show (e.pl.set k _).length=n;rw [List.length_set];exact h1.len,fun j hj=>by
  rw [hg]
  split
  ·omega
  ·exact h1.lo j hj,fun j hj=>by
  rw [hg]
  by_cases e2:j=k
  ·subst e2
   rw [if_pos rfl,putD_at]
   show (y:Int)<(((D j).n-1:Nat):Int)
   omega
  ·rw [if_neg e2,putD_off D _ e2]
   exact h1.hi j hj⟩
 refine ⟨hIn,?_,h3⟩
 have hp1:placeErr D n e.pl=0:=h1.ok
 have hp2:placeErr (putD D k (remD (D k) i)) n (movE k (i:Int) e).pl=0:=hIn.ok
 unfold leafV at h2 ⊢
 rw [if_pos hp1] at h2
 rw [if_pos hp2]
 have hno:∀ j,j<n→notLeaf D e.pl j=false:=fun j hj=>by
  rcases findFrom_cases (notLeaf D e.pl) n 0 with ⟨_,h4⟩ | ⟨j',h4,_⟩
  ·exact h4 j (Nat.zero_le _) (by omega)
  ·rw [h4] at h2
   simp at h2
 rw [findFrom_none (p:=notLeaf (putD D k (remD (D k) i)) (movE k (i:Int) e).pl) fun j _ hj=>?_]
 ·rfl
 ·have hj':j<n:=by omega
  have h4:=hno j hj'
  unfold notLeaf at h4 ⊢
  rw [hg]
  by_cases hjk:j=k
  ·subst hjk
   rw [if_pos rfl,putD_at,Int.toNat_natCast]
   rw [hx,Int.toNat_natCast] at h4
   unfold leafB at h4 ⊢
   have hcx:cutM (D j).mem i y=(D j).mem x:=by
    unfold cutM
    rw [hyx]
   have hfm:((remD (D j) i).mem y).formula=((D j).mem x).formula:=by
    show (cutM (D j).mem i y).formula=_
    rw [hcx]
   have hf:findFrom (partB (D j).mem x) (D j).n 0<0→findFrom (partB (remD (D j) i).mem y) (remD (D j) i).n 0<0:=by
    intro h5
    have hmn:(remD (D j) i).n=(D j).n-1:=rfl
    rcases findFrom_cases (partB (remD (D j) i).mem y) (remD (D j) i).n 0 with ⟨h6,_⟩ | ⟨z,_,_,h7,h8,_⟩
    ·omega
    ·have hzn:(if z<i then z else z+1)<(D j).n:=by
      split <;> omega
     have h9:partB (D j).mem x (if z<i then z else z+1)=true:=by
      unfold partB at h8 ⊢
      have h10:wo (i:Int) ((D j).mem (if z<i then z else z+1)).parent=(y:Int):=by
       have:=of_decide_eq_true (p:=((remD (D j) i).mem z).parent=(y:Int)) (by simpa using h8)
       exact this
      have h11:=wo_inj (hp _ hzn) hv (h10.trans hy.symm)
      simpa using h11
     have:=findFrom_nonneg (q:=partB (D j).mem x) (n:=(D j).n) (i:=if z<i then z else z+1) hzn h9
     omega
   rw [hfm]
   simp only [Bool.not_eq_false',Bool.and_eq_true,decide_eq_true_eq,Bool.not_eq_true',decide_eq_false_iff_not] at h4 ⊢
   exact ⟨h4.1,by have:=hf (by omega);omega⟩
  ·rw [if_neg hjk,putD_off D _ hjk]
   exact h4
theorem keeps_cu {D:Nat→Dm} {n:Nat} {l:List En} {c:Chg} (h:chE D n l c=0):cuErr (chD D c) n (chL D n l c)=0:=by
 have hL:chL D n l c=cgL l c.dim.toNat c:=if_pos h
 have hres:=fun (k i:Nat) (nm:ByteArray) (tgt sign:Int) (hk:k<n) (hi:i<(D k).n) (h':chE D n l ⟨5,k,i,nm,tgt,sign⟩=0)=>res_back hk hi h'
 have h0:=h
 unfold chE at h
 by_cases hcu:cuErr D n l=0
 case neg=>rw [if_pos hcu] at h;exact absurd h hcu
 rw [if_neg (by simpa using hcu)] at h
 by_cases hd:c.dim<0∨(n:Int)≤c.dim
 ·rw [if_pos hd] at h
  cases h
 rw [if_neg hd] at h
 obtain ⟨what,dim,mb,name,tgt,sign⟩:=c
 simp only at h hd hL h0
 obtain ⟨k,rfl⟩:∃ k:Nat,dim=k:=⟨dim.toNat,by omega⟩
 have hk:k<n:=by omega
 simp only [Int.toNat_natCast] at h hL
 by_cases hs:cgE (D k) l k ⟨what,k,mb,name,tgt,sign⟩=0
 case neg=>rw [if_pos hs] at h;exact absurd h hs
 rw [if_neg (by simpa using hs)] at h
 obtain ⟨hr0,hens⟩:=cu_parts hcu
 have hA:=(ru_parts h).1
 have hD:chD D ⟨what,k,mb,name,tgt,sign⟩=putD D k (cgD (D k) ⟨what,k,mb,name,tgt,sign⟩):=by
  unfold chD
  simp only [Int.toNat_natCast]
 rw [hD,hL]
 unfold cuErr
 rw [if_neg (by simpa using h)]
 refine Ens.ok ?_
 unfold cgE at hs
 simp only at hs
 by_cases h1:what=1
 ·subst h1
  rw [if_pos rfl] at hs
  have hw:wrAt l k tgt=false:=by
   unfold addE at hs
   by_cases hde:(dimErr (addD (D k) (newM ⟨1,k,mb,name,tgt,sign⟩))).2=0
   ·rw [if_neg (by simpa using hde)] at hs
    cases hw:wrAt l k tgt
    ·rfl
    ·rw [if_pos (show wrAt l k (newM ⟨1,k,mb,name,tgt,sign⟩).parent=true from hw)] at hs
     cases hs
   ·rw [if_pos hde] at hs
    exact absurd hs hde
  exact ens_add (m:=newM ⟨1,k,mb,name,tgt,sign⟩) hens hk hA hw
 rw [if_neg h1] at hs
 by_cases hm:mb<0∨((D k).n:Int)≤mb
 ·rw [if_pos hm] at hs
  cases hs
 rw [if_neg hm] at hs
 obtain ⟨i,rfl⟩:∃ i:Nat,mb=i:=⟨mb.toNat,by omega⟩
 have hi:i<(D k).n:=by omega
 simp only [Int.toNat_natCast] at hs
 have hc:cgD (D k) ⟨what,k,i,name,tgt,sign⟩=if what=2 then remD (D k) i else if what=3 then renD (D k) i name else if what=4 then movD (D k) i tgt else resD (D k) i sign:=by
  unfold cgD
  rw [if_neg h1]
  simp only [Int.toNat_natCast]
 have hl:cgL l k ⟨what,k,i,name,tgt,sign⟩=if what=2 then remL l k (i:Int) else l:=by
  unfold cgL
  simp only [Int.toNat_natCast]
 rw [hc] at hA ⊢
 rw [hl]
 by_cases h2:what=2
 ·rw [if_pos h2] at hs hA ⊢
  rw [if_pos h2]
  refine ens_rem hens hk hi hA fun j hj hp=>?_
  unfold remE at hs
  split at hs
  ·cases hs
  ·rename_i h9
   exact h9 (Or.inr (findFrom_nonneg (q:=fun j=>decide (((D k).mem j).parent=(i:Int))) (n:=(D k).n) (i:=j) hj (decide_eq_true hp)))
 rw [if_neg h2] at hs hA ⊢
 rw [if_neg h2]
 by_cases h3:what=3
 ·rw [if_pos h3] at hA ⊢
  exact ens_rename hens hA
 rw [if_neg h3] at hs hA ⊢
 by_cases h4:what=4
 ·rw [if_pos h4] at hs hA ⊢
  refine ens_move hens hA ?_
  unfold moveE at hs
  split at hs
  ·cases hs
  ·split at hs
   ·cases hs
   ·rename_i h9
    cases hw:wrAt l k tgt
    ·rfl
    ·exact absurd (Or.inr (Or.inl hw)) h9
 rw [if_neg h4] at hs hA ⊢
 by_cases h5:what=5
 ·subst h5
  have hr:=(hres k i name tgt sign hk hi h0).2.1
  rw [hD,hc] at hr
  exact (cu_parts hr).2
 ·rw [if_neg h5] at hs
  cases hs
end Go.Proofs.YtglekooldbeklaaGreatDoor
namespace Go.Proofs.YtglekooldbeklaaGreatDoor
open Go.ChangeShapes Go.WideShapes Go.ChangeAt Go.RowKit
set_option maxRecDepth 20000
structure QS (w:World) (B q gM gU N:Nat) (M:Nat→Int) (UV:Nat→Value) (UL:Nat→List Int) (gR:Nat) (AR:Option Addr) (cR:Nat) (RL:List Int):Prop where
 hq:w.heap[q]?=some (.cells #[.slice (some ⟨gM,0,none⟩) N N,.slice (some ⟨gU,0,none⟩) N N,.slice AR RL.length cR] 106 (0,0))
 hM:ValB w gM N 3 fun j=>.int .i64 (M j)
 hU:ValB w gU N 41 UV
 own:∀ j,j<N→w.ownsRow B 3 1 (UV j) (UL j).length (mapI (UL j))
 ready:RdyV w gR AR cR RL
 dM:∀ j,j<N→(UV j).ownBlock≠some gM
 dR:gR≠gM
 dRU:∀ j,j<N→(UV j).ownBlock≠some gR
 lq:B≤q
 lM:B≤gM
 lU:B≤gU
 lR:B≤gR
theorem QS.of {w:World} {B q gM gU N:Nat} {M:Nat→Int} {UV:Nat→Value} {UL:Nat→List Int} {R:Value} {RL:List Int} (h:QM w B q gM gU N M UV UL R RL) (hl:0<RL.length):∃ gR cR,QS w B q gM gU N M UV UL gR (some ⟨gR,0,none⟩) cR RL:=by
 obtain ⟨gR,cR,hR,hB,hV⟩:=RdyV.own h.ready hl
 refine ⟨gR,cR,by rw [←hR];exact h.hq,h.hM,h.hU,h.own,hV,h.dM,fun e=>h.dR (by rw [hR,←e];rfl),fun j hj e=>h.dRU j hj gR (by rw [hR];rfl) e,h.lq,h.lM,h.lU,hB⟩
section
variable {w w':World} {B q gM gU N:Nat} {M:Nat→Int} {UV:Nat→Value} {UL:Nat→List Int} {gR:Nat} {AR:Option Addr} {cR:Nat} {RL:List Int}
theorem QS.ql (h:QS w B q gM gU N M UV UL gR AR cR RL):q<w.heap.size:=(Array.getElem?_eq_some_iff.1 h.hq).1
theorem QS.later (h:QS w B q gM gU N M UV UL gR AR cR RL) (hB:Below w.heap.size w w'):QS w' B q gM gU N M UV UL gR AR cR RL :=
 ⟨(hB.block q h.ql).trans h.hq,h.hM.same (hB.block _ h.hM.lt),h.hU.same (hB.block _ h.hU.lt),fun j hj=>own_later (h.own j hj) hB,h.ready.later hB,h.dM,h.dR,h.dRU,h.lq,h.lM,h.lU,h.lR⟩
theorem QS.keep (h:QS w B q gM gU N M UV UL gR AR cR RL) {r:Option Nat} (hG:w.grownBy w' r) (h1:r≠some q) (h2:r≠some gM) (h3:r≠some gU) (h4:r≠some gR) (h5:∀ j,j<N→∀ b,(UV j).ownBlock=some b→r≠some b):QS w' B q gM gU N M UV UL gR AR cR RL :=
 ⟨(hG.block q h.ql (fun e=>h1 e.symm)).trans h.hq,h.hM.same (hG.block _ h.hM.lt (fun e=>h2 e.symm)),h.hU.same (hG.block _ h.hU.lt (fun e=>h3 e.symm)),fun j hj=>own_grown (h.own j hj) hG (h5 j hj),h.ready.same (hG.block _ h.ready.lt (fun e=>h4 e.symm)),h.dM,h.dR,h.dRU,h.lq,h.lM,h.lU,h.lR⟩
theorem QS.cells (h:QS w B q gM gU N M UV UL gR AR cR RL):w.cell? ⟨q,0,none⟩=some (.slice (some ⟨gM,0,none⟩) N N)∧w.cell? ⟨q,1,none⟩=some (.slice (some ⟨gU,0,none⟩) N N)∧w.cell? ⟨q,2,none⟩=some (.slice AR RL.length cR)∧w.frozen? ⟨q,2,none⟩=false :=
 ⟨by simp [World.cell?,h.hq],by simp [World.cell?,h.hq],by simp [World.cell?,h.hq],by simp [World.frozen?,h.hq]⟩
theorem QS.off (h:QS w B q gM gU N M UV UL gR AR cR RL) {b:Nat} {cur:Array Value} (hb:w.heap[b]?=some (.cells cur 3 (0,0))):b≠q∧b≠gU:=by
 refine ⟨fun e=>?_,h.hU.off hb row_ne_int'⟩
 rw [e,h.hq] at hb
 simp at hb
theorem QS.ne (h:QS w B q gM gU N M UV UL gR AR cR RL):q≠gM∧q≠gU∧gM≠gU∧gR≠q∧gR≠gU:=by
 obtain ⟨-,-,o,-,⟨cur,hc,-⟩,-⟩:=h.ready
 have h1:=h.off hc
 refine ⟨fun e=>?_,fun e=>?_,fun e=>?_,h1.1,h1.2⟩
 ·have h1:=h.hq;rw [e,h.hM] at h1;simp at h1
 ·have h1:=h.hq;rw [e,h.hU] at h1;simp at h1
 ·have h1:=h.hM;unfold ValB at h1;rw [e,h.hU] at h1;simp at h1
theorem QS.ownOff (h:QS w B q gM gU N M UV UL gR AR cR RL) {j b:Nat} (hj:j<N) (hb:(UV j).ownBlock=some b):b≠q∧b≠gU:=by
 obtain ⟨-,-,cur,hc⟩:=own_blk (h.own j hj) hb
 exact h.off hc
theorem QS.users (h:QS w B q gM gU N M UV UL gR AR cR RL) {j:Nat} (hj:j<N) {A:Option Addr} {c:Nat} (hv:UV j=.slice A (UL j).length c):w.cell? ⟨gU,j,none⟩=some (.slice A (UL j).length c)∧IntT w A c (UL j):=by
 refine ⟨by rw [←hv];exact h.hU.cell hj,?_⟩
 obtain ⟨A',c',e,hI⟩:=intT_own (h.own j hj)
 rw [hv] at e
 cases e
 exact hI
theorem QS.qin (h:QS w B q gM gU N M UV UL gR AR cR RL) {w5 w6:World} (h5:Below w.heap.size w w5) (hG:w5.grownBy w6 (some gR)):w6.cell? ⟨q,2,none⟩=some (.slice AR RL.length cR)∧w6.frozen? ⟨q,2,none⟩=false∧q<w6.heap.size:=by
 obtain ⟨n1,n2,n3,n4,n5⟩:=h.ne
 have e:w6.heap[q]?=w.heap[q]?:=(hG.block q (Nat.lt_of_lt_of_le h.ql h5.size) (fun e=>n4 (by simpa using e.symm))).trans (h5.block q h.ql)
 refine ⟨(World.cell?_of_block (a:=⟨q,2,none⟩) e).trans h.cells.2.2.1,(World.frozen?_of_block (a:=⟨q,2,none⟩) e).trans h.cells.2.2.2,?_⟩
 have:=h.ql
 have:=h5.size
 have:=hG.size
 omega
theorem QS.setM (h:QS w B q gM gU N M UV UL gR AR cR RL) (m:Nat) (x:Int):QS (w.setCell ⟨gM,m,none⟩ (.int .i64 x)) B q gM gU N (fun j=>if j=m then x else M j) UV UL gR AR cR RL:=by
 obtain ⟨n1,n2,n3,n4,n5⟩:=h.ne
 refine ⟨by rw [setCell_off _ _ _ _ _ n1];exact h.hq,?_,h.hU.same (setCell_off _ _ _ _ _ n3.symm),fun j hj=>own_setc (h.own j hj) (h.dM j hj),h.ready.same (setCell_off _ _ _ _ _ h.dR),h.dM,h.dR,h.dRU,h.lq,h.lM,h.lU,h.lR⟩
 refine h.hM.set (f':=fun j=>.int .i64 (if j=m then x else M j)) fun j _=>?_
 by_cases e:j=m
 ·simp only [if_pos e]
 ·simp only [if_neg e]
theorem QS.setR (h:QS w B q gM gU N M UV UL gR AR cR RL) {w5 w6:World} {g' c':Nat} {A':Option Addr} {L:List Int} (h5:Below w.heap.size w w5) (hG:w5.grownBy w6 (some gR)) (hV:RdyV w6 g' A' c' L) (hg:g'=gR∨w.heap.size≤g') (hB:B≤w.heap.size):QS (w6.setCell ⟨q,2,none⟩ (.slice A' L.length c')) B q gM gU N M UV UL g' A' c' L:=by
 obtain ⟨n1,n2,n3,n4,n5⟩:=h.ne
 have hkeep:∀ b,b<w.heap.size→b≠gR→w6.heap[b]?=w.heap[b]?:=fun b hb hne=>(hG.block b (Nat.lt_of_lt_of_le hb h5.size) (fun e=>hne (by simpa using e))).trans (h5.block b hb)
 have gq:g'≠q:=by
  rcases hg with rfl | hg
  ·exact n4
  ·have:=h.ql;omega
 refine ⟨?_,(h.hM.same (hkeep _ h.hM.lt h.dR.symm)).same (setCell_off _ _ _ _ _ n1.symm),(h.hU.same (hkeep _ h.hU.lt n5.symm)).same (setCell_off _ _ _ _ _ n2.symm),fun j hj=>?_,hV.same (setCell_off _ _ _ _ _ gq),h.dM,?_,fun j hj=>?_,h.lq,h.lM,h.lU,?_⟩
 ·have:=set_ty (k:=2) (v:=.slice A' L.length c') ((hkeep q h.ql n4.symm).trans h.hq)
  simpa using this
 ·refine own_setc (own_grown (own_later (h.own j hj) h5) hG fun b hb e=>h.dRU j hj (by rw [e];exact hb)) fun e2=>(h.ownOff hj e2).1 rfl
 ·rcases hg with rfl | hg
  ·exact h.dR
  ·have:=h.hM.lt;omega
 ·rcases hg with rfl | hg
  ·exact h.dRU j hj
  ·intro e
   have:=(own_blk (h.own j hj) e).2.1
   omega
 ·rcases hg with rfl | hg
  ·exact h.lR
  ·omega
theorem RdyV.tail {g o:Nat} {m:Int} {R:List Int} (h:RdyV w g (some ⟨g,o,none⟩) cR (m :: R)):RdyV w g (if cR=1 then some ⟨g,o,none⟩ else some ⟨g,o+1,none⟩) (cR-1) R:=by
 obtain ⟨h1,h2,o',h3,⟨cur,hc,h4⟩,h5⟩:=h
 cases h3
 simp only [List.length_cons] at h1 h5
 by_cases e:cR=1
 ·rw [if_pos e]
  have hR:R=[]:=List.eq_nil_of_length_eq_zero (by omega)
  subst hR
  exact ⟨Nat.zero_le _,by omega,o,rfl,⟨cur,hc,by omega⟩,fun j hj=>by simp at hj⟩
 rw [if_neg e]
 refine ⟨by omega,by omega,o+1,rfl,⟨cur,hc,by omega⟩,fun j hj=>?_⟩
 have:=h5 (j+1) (by omega)
 rw [show o+1+j=o+(j+1) by omega]
 rw [List.getD_cons_succ] at this
 exact this
end
theorem rdy_len {Nn:List (List Int)} {R:List Int} (h:R.Pairwise (· < ·)) (hm:∀ x∈R,∃ j:Nat,x=j∧j<Nn.length):R.length≤Nn.length:=few _ _ (h.imp fun h=>by omega) fun x hx=>by
 obtain ⟨j,rfl,hj⟩:=hm x hx
 omega
def FrQ (q gM gR:Nat) (w w':World):Prop:=Kept w.heap.size (fun k=>k=q∨k=gM∨k=gR) w w'
theorem FrQ.refl (q gM gR:Nat) (w:World):FrQ q gM gR w w:=Kept.refl _ _ _
theorem frQ_below {q gM gR:Nat} {w w1 w2:World} (h:FrQ q gM gR w w1) (k:Below w1.heap.size w1 w2):FrQ q gM gR w w2:=⟨k.os.trans h.os,k.tape.trans h.tape,k.output.trans h.output,Nat.le_trans h.size k.size,fun i hi hx=>(k.block i (Nat.lt_of_lt_of_le hi h.size)).trans (h.block i hi hx)⟩
theorem frQ_set {q gM gR b j:Nat} {w w1:World} {v:Value} (h:FrQ q gM gR w w1) (hb:b=q∨b=gM∨b=gR∨w.heap.size≤b):FrQ q gM gR w (w1.setCell ⟨b,j,none⟩ v):=⟨h.os,h.tape,h.output,by simp only [World.size_setCell];exact h.size,fun i hi hx=>by
 rw [setCell_off _ _ _ _ _ (fun e=>by
  rcases hb with h1 | h1 | h1 | h1
  ·exact hx (Or.inl (e.trans h1))
  ·exact hx (Or.inr (Or.inl (e.trans h1)))
  ·exact hx (Or.inr (Or.inr (e.trans h1)))
  ·omega)]
 exact h.block i hi hx⟩
theorem frQ_grown {q gM gR b:Nat} {w w1 w2:World} (h:FrQ q gM gR w w1) (hG:w1.grownBy w2 (some b)) (hb:b=gR∨w.heap.size≤b):FrQ q gM gR w w2:=⟨hG.os.trans h.os,hG.tape.trans h.tape,hG.output.trans h.output,Nat.le_trans h.size hG.size,fun i hi hx=>by
 rw [hG.block i (Nat.lt_of_lt_of_le hi h.size) (fun e=>by
  have e2:i=b:=by simpa using e
  rcases hb with h1 | h1
  ·exact hx (Or.inr (Or.inr (e2.trans h1)))
  ·omega)]
 exact h.block i hi hx⟩
set_option maxHeartbeats 16000000 in
theorem qnext_any (B q gM gU N k:Nat) (Nn:List (List Int)) (M:Nat→Int) (UV:Nat→Value) (gR:Nat) (AR:Option Addr) (cR:Nat) (RL:List Int) (w:World) (hN3:N≤3000) (hNl:Nn.length=N) (hN:Inn Nn) (hc:∀ i:Nat,i<Nn.length→cycB Nn i=false) (hr:∀ j,j<Nn.length→(Nn.getD j []).Pairwise (· < ·)) (hl:∀ j,j<Nn.length→(Nn.getD j []).length≤12) (hk:k<N) (hB:B≤w.heap.size)
  (hQ:QS w B q gM gU N M UV (fun j=>usrL Nn j N) gR AR cR RL) (hM:∀ j,j<N→M j=(misC Nn (ordTo Nn k) j:Int)) (hRd:RdyP Nn (ordTo Nn k) RL) :
  Calls Tryz.prog 45 #[.pointer (some ⟨q,0,none⟩)] w fun e w' => ∃ m:Nat,e=.returned (.int .i64 m)∧m<N∧ordTo Nn (k+1)=ordTo Nn k ++ [(m:Int)]∧∃ M' gR' AR' cR' RL',QS w' B q gM gU N M' UV (fun j=>usrL Nn j N) gR' AR' cR' RL'∧(∀ j,j<N→M' j=(misC Nn (ordTo Nn (k+1)) j:Int))∧RdyP Nn (ordTo Nn (k+1)) RL'∧(gR'=gR∨w.heap.size≤gR')∧FrQ q gM gR w w':=by
 obtain ⟨m,R0,rfl,hmN,hmo,hon,hRI⟩:=rdy_head hN hc (k:=k) (by omega) hRd
 have hlen:=rdy_len (Nn:=Nn) hRd.1 fun x hx=>by obtain ⟨j,h1,h2,-⟩:=(hRd.2 x).1 hx;exact ⟨j,h1,h2⟩
 rw [hNl] at hlen hmN
 simp only [List.length_cons] at hlen
 obtain ⟨p0,p1,p2,pf⟩:=hQ.cells
 obtain ⟨-,-,o,rfl,⟨cur,hcur,hcs⟩,hcell⟩:=id hQ.ready
 have c0:=hcell 0 (by simp)
 simp only [List.getD_cons_zero,Nat.add_zero] at c0
 have hcR:=hQ.ready.1
 have hcR2:=hQ.ready.2.1
 simp only [List.length_cons] at hcR p2
 have hql:=hQ.ql
 have hgl:=hQ.ready.lt
 have hV:=hQ.ready.tail
 have HQ1:Hid (QS (w.setCell ⟨q,2,none⟩ (.slice (if cR=1 then some ⟨gR,o,none⟩ else some ⟨gR,o+1,none⟩) R0.length (cR-1))) B q gM gU N M UV (fun j=>usrL Nn j N) gR (if cR=1 then some ⟨gR,o,none⟩ else some ⟨gR,o+1,none⟩) (cR-1) R0):=hQ.setR (Below.refl _ _) (grown_refl _ _) hV (Or.inl rfl) hB
 have HM:Hid (∀ j,j<N→M j=(misI Nn (ordTo Nn k) m 0 j:Int)):=fun j hj=>by
  rw [hM j hj]
  unfold misI
  simp
 have HRI:Hid (RdyI Nn (ordTo Nn k) m 0 R0):=hRI
 have HW:Hid (B≤w.heap.size):=hB
 have HFr:Hid (FrQ q gM gR w (w.setCell ⟨q,2,none⟩ (.slice (if cR=1 then some ⟨gR,o,none⟩ else some ⟨gR,o+1,none⟩) R0.length (cR-1)))):=frQ_set (FrQ.refl _ _ _ _) (Or.inl rfl)
 obtain ⟨rl,hrl⟩:∃ rl,R0.length=rl:=⟨_,rfl⟩
 have HRl:Hid (R0.length=rl):=hrl
 rw [hrl] at hlen p2 hcR HQ1 HFr
 have hrI:(rl:Int)+1≤3000:=by omega
 have hcRI:(rl:Int)+1≤(cR:Int):=by omega
 have hcR1:1≤cR:=by omega
 clear hV hcell hcur hcs hQ hM hRd hRI hrl
 go_enter Tryz.func45,Tryz.ntmps45
 go_upto_region 2 with fail
 go_cut [3] from 8 (fun s3 wx=>s3=.int .i64 m∧∃ A1 c1,QS wx B q gM gU N M UV (fun j=>usrL Nn j N) gR A1 c1 R0∧FrQ q gM gR w wx)
 case first =>
  by_cases hc1:cR=1
  ·rw [if_pos hc1] at HQ1 HFr
   subst hc1
   have hr0:rl=0:=by omega
   subst hr0
   go_wp2_with fail
   go_meet
   exact ⟨rfl,_,_,HQ1.out,HFr.out⟩
  ·rw [if_neg hc1] at HQ1 HFr
   go_wp2_with fail
   go_meet
   exact ⟨rfl,_,_,HQ1.out,HFr.out⟩
 case rest =>
 obtain ⟨rfl,A1,c1,hQ1,hF1⟩:=hcut
 obtain ⟨w1,rfl⟩:∃ w1:World,w1=wc:=⟨_,rfl⟩
 obtain ⟨t,ht⟩:∃ t,(usrL Nn m N).length=t:=⟨_,rfl⟩
 have HT:Hid ((usrL Nn m N).length=t):=ht
 have htN:t≤N:=by rw [←ht];exact usr_len _ _ _
 obtain ⟨Au,cu,hUV⟩:∃ A c,UV m=.slice A (usrL Nn m N).length c:=by
  obtain ⟨A',c',e,-⟩:=intT_own (hQ1.own m hmN)
  exact ⟨A',c',e⟩
 have HUs:Hid (∀ w' M' gR' AR' cR' RL',QS w' B q gM gU N M' UV (fun j=>usrL Nn j N) gR' AR' cR' RL'→w'.cell? ⟨gU,m,none⟩=some (.slice Au t cu)∧IntT w' Au cu (usrL Nn m N)):=fun w' M' gR' AR' cR' RL' h=>by
  have h2:=h.users hmN hUV
  rw [ht] at h2
  exact h2
 have HStp:Hid (∀ i,i<t→∃ u:Nat,(usrL Nn m N).getD i 0=(u:Int)∧u<N∧misI Nn (ordTo Nn k) m i u=misC Nn (ordTo Nn k) u∧1≤misC Nn (ordTo Nn k) u∧misC Nn (ordTo Nn k) u≤12∧misI Nn (ordTo Nn k) m (i+1) u+1=misC Nn (ordTo Nn k) u∧(∀ j,j≠u→misI Nn (ordTo Nn k) m (i+1) j=misI Nn (ordTo Nn k) m i j)∧∀ R,RdyI Nn (ordTo Nn k) m i R→(u:Int)∉R∧(misC Nn (ordTo Nn k) u=1→RdyI Nn (ordTo Nn k) m (i+1) (insL R u))∧(misC Nn (ordTo Nn k) u≠1→RdyI Nn (ordTo Nn k) m (i+1) R)):=fun i hi=>by
  obtain ⟨u,e1,e2,e3,e4,e5,e6,e7⟩:=usr_step hr hmo (i:=i) (by rw [hNl,ht];exact hi)
  rw [hNl] at e1 e2
  exact ⟨u,e1,e2,e3,e4,Nat.le_trans (mis_le _ _ _) (hl u (by rw [hNl];exact e2)),e5,e6,e7⟩
 have HRn:Hid (∀ i R,RdyI Nn (ordTo Nn k) m i R→R.length≤3000∧R.Pairwise (· < ·)):=fun i R h=>by
  have h2:=rdy_len (Nn:=Nn) h.1 fun x hx=>by obtain ⟨j,h1,h2,-⟩:=(h.2 x).1 hx;exact ⟨j,h1,h2⟩
  exact ⟨by omega,h.1⟩
 have HEnd:Hid ((∀ j,j<N→misI Nn (ordTo Nn k) m t j=misC Nn (ordTo Nn (k+1)) j)∧∀ R,RdyI Nn (ordTo Nn k) m t R→RdyP Nn (ordTo Nn (k+1)) R):=by
  obtain ⟨h1,h2⟩:=usr_end hr (k:=k) hmo
  rw [hNl,ht] at h1 h2
  rw [hon]
  exact ⟨h1,h2⟩
 have HOn:Hid (ordTo Nn (k+1)=ordTo Nn k ++ [(m:Int)]):=hon
 obtain ⟨-,k1,-,-⟩:=hQ1.cells
 have hq1:=hQ1.ql
 have hg1:=hQ1.hU.lt
 obtain ⟨kU,-⟩:=HUs.out w1 _ _ _ _ _ hQ1
 have HS0:Hid (∃ M' gR' AR' cR' RL',QS w1 B q gM gU N M' UV (fun j=>usrL Nn j N) gR' AR' cR' RL'∧(∀ j,j<N→M' j=(misI Nn (ordTo Nn k) m 0 j:Int))∧RdyI Nn (ordTo Nn k) m 0 RL'∧(gR'=gR∨w.heap.size≤gR')∧FrQ q gM gR w w1):=⟨M,gR,A1,c1,R0,hQ1,HM.out,HRI.out,Or.inl rfl,hF1⟩
 have hmI:(m:Int)<(N:Int):=by omega
 have hNI:(N:Int)≤3000:=by omega
 have htI:(t:Int)≤3000:=by omega
 clear hQ1 hF1 ht hUV hr hl hN hc hmo hon p0 p1 p2 pf c0
 go_wp2_with fail
 clear kU k1
 go_loopg [30] t (fun gg s30 wr => ∃ (i:Nat),i≤t∧gg=t-i∧s30=.int .i64 i∧Hid (∃ M' gR' AR' cR' RL',QS wr B q gM gU N M' UV (fun j=>usrL Nn j N) gR' AR' cR' RL'∧(∀ j,j<N→M' j=(misI Nn (ordTo Nn k) m i j:Int))∧RdyI Nn (ordTo Nn k) m i RL'∧(gR'=gR∨w.heap.size≤gR')∧FrQ q gM gR w wr))
 case atStart=>exact ⟨0,Nat.zero_le _,rfl,rfl,HS0⟩
 case round =>
  obtain ⟨i,hi,rfl,rfl,HSt⟩:=hrel
  by_cases hlt:i<t
  ·have hii:(i:Int)<(t:Int):=by omega
   obtain ⟨M',gR',AR',cR',RL',hQr,hMr,hRr,hgr,hFr⟩:=HSt.out
   obtain ⟨u,e1,e2,e3,e4,e12,e5,e6,e7⟩:=HStp.out i hlt
   obtain ⟨hnR,hr1,hr2⟩:=e7 RL' hRr
   obtain ⟨hl3,hri⟩:=HRn.out i RL' hRr
   obtain ⟨-,hIu⟩:=HUs.out wr _ _ _ _ _ hQr
   obtain ⟨hcS,-,hS0 | ⟨bs,cs,fr,rfl,hbS,hcl⟩⟩:=hIu
   ·have:=HT.out;rw [hS0] at this;simp at this;omega
   have cx:=hcl i (by rw [HT.out];exact hlt)
   have hbs:bs<wr.heap.size:=(Array.getElem?_eq_some_iff.1 hbS).1
   rw [HT.out] at hcS
   rw [e1] at cx
   have hcSI:(t:Int)≤(cu:Int):=by omega
   have huI:(u:Int)<(N:Int):=by omega
   obtain ⟨q0,-,q2,qf⟩:=hQr.cells
   have hqr:=hQr.ql
   have cm:wr.cell? ⟨gM,u,none⟩=some (.int .i64 (M' u)):=hQr.hM.cell e2
   have fm:=hQr.hM.frozen u
   have hgm:=hQr.hM.lt
   rw [hMr u e2,e3] at cm
   have hlenW:w.heap.size≤wr.heap.size:=hFr.size
   obtain ⟨mI,hmI2⟩:∃ mI:Int,((misC Nn (ordTo Nn k) u:Nat):Int)=mI:=⟨_,rfl⟩
   rw [hmI2] at cm
   have hm1:1≤mI:=by omega
   have hm12:mI≤12:=by omega
   obtain ⟨wA,hwA⟩:∃ wA,wr.setCell ⟨gM,u,none⟩ (.int .i64 (mI-1))=wA:=⟨_,rfl⟩
   have hQA:QS wA B q gM gU N (fun j=>if j=u then mI-1 else M' j) UV (fun j=>usrL Nn j N) gR' AR' cR' RL':=by rw [←hwA];exact hQr.setM u (mI-1)
   have hMA:∀ j,j<N→(fun j=>if j=u then mI-1 else M' j) j=(misI Nn (ordTo Nn k) m (i+1) j:Int):=fun j hj=>by
    by_cases e:j=u
    ·show (if j=u then mI-1 else M' j)=_
     rw [if_pos e,e]
     omega
    ·show (if j=u then mI-1 else M' j)=_
     rw [if_neg e,hMr j hj,e6 j e]
   have hFA:FrQ q gM gR w wA:=by rw [←hwA];exact frQ_set hFr (Or.inr (Or.inl rfl))
   obtain ⟨a0,-,a2,af⟩:=hQA.cells
   have hqA:=hQA.ql
   have cmA:wA.cell? ⟨gM,u,none⟩=some (.int .i64 (mI-1)):=by
    have h:=hQA.hM.cell e2
    simpa using h
   have hgA:=hQA.hM.lt
   have hgRl:=hQA.ready.lt
   have HQA:=hid_of hQA
   have HMA:=hid_of hMA
   have HFA:=hid_of hFA
   have hszA:wA.heap.size=wr.heap.size:=by rw [←hwA];simp
   obtain ⟨rl2,hrl2⟩:∃ rl2,RL'.length=rl2:=⟨_,rfl⟩
   have HR2:Hid (RL'.length=rl2):=hrl2
   by_cases hone:mI=1
   ·have HRn1:=hid_of (hr1 (by omega))
    have hfi:=findI_any AR' cR' gR' RL' (u:Int) wA hl3 hQA.ready hri
    have HIn:Hid (∀ w5 vb,Below wA.heap.size wA w5→w5.heap[vb]?=some (.cells #[.int .i64 (u:Int)] 3 (0,0))→vb≠gR'→Calls Tryz.prog 79 #[.slice AR' RL'.length cR',.int .i64 (RL'.countP (· < (u:Int)):Nat),.slice (some ⟨vb,0,none⟩) 1 1] w5 fun e w'=>InsI w5 gR' (RL'.countP (· < (u:Int))) RL' u e w'):=fun w5 vb h5 hv hne=>insI_any AR' cR' gR' (RL'.countP (· < (u:Int))) vb RL' u w5 hl3 List.countP_le_length (hQA.ready.later h5) hv hne
    rw [hrl2] at hfi HIn a2 q2
    obtain ⟨cp,hcp⟩:∃ cp,RL'.countP (· < (u:Int))=cp:=⟨_,rfl⟩
    have HCp:Hid (RL'.take cp ++ (u:Int) :: RL'.drop cp=insL RL' u):=by show _=_;unfold insL;rw [hcp]
    rw [hcp] at hfi HIn
    subst hone
    have hz0:(1:Int)-1=0:=rfl
    rw [hz0] at hwA cmA
    clear hQr hMr hRr hFr e1 e3 e4 e12 e5 e6 e7 hnR hr1 hr2 hcl hbS hQA hMA hFA hri hl3 hmI2 hrl2 hcp hz0
    go_wp2_with fail
    refine hfi.mono ?_
    rintro e wB ⟨⟨bb,rfl⟩,hbB⟩
    have HBB:Hid (Below wA.heap.size wA wB):=hbB
    obtain ⟨b0,-,b2,bf⟩:=(HQA.out.later hbB).cells
    rw [HR2.out] at b2
    have hqB:=(HQA.out.later hbB).ql
    obtain ⟨wC,hwC⟩:∃ wC,wB.alloc (.cells #[.int .i64 (u:Int)] 3)=wC:=⟨_,rfl⟩
    have hBC:Below wB.heap.size wB wC:=by rw [←hwC];go_grown
    have hvC:wC.heap[wB.heap.size]?=some (.cells #[.int .i64 (u:Int)] 3 (0,0)):=by rw [←hwC];exact heap_alloc_new ..
    have hins:=HIn.out wC wB.heap.size (onB hbB hBC) hvC (by have:=hbB.size;omega)
    have HBC:Hid (Below wA.heap.size wA wC):=onB hbB hBC
    have d2:=(hBC.cell (p:=⟨q,2,none⟩) hqB).trans b2
    have hqC:q<wC.heap.size:=Nat.lt_of_lt_of_le hqB hBC.size
    clear hbB hfi hwA cm cmA a0 a2 q0 q2 hvC hBC
    go_wp2_with fail
    refine hins.mono ?_
    rintro e w6 ⟨g6,A6,c6,rfl,hV6,hg6,hG6⟩
    obtain ⟨z2,zf,hq6⟩:=HQA.out.qin HBC.out hG6
    rw [HR2.out] at z2
    have hsC:=HBC.out.size
    have hlen6:(RL'.take cp ++ (u:Int) :: RL'.drop cp).length=rl2+1:=by
     rw [HCp.out]
     unfold insL
     rw [ins_len List.countP_le_length,HR2.out]
    have HN6:Hid (∃ M' gR'' AR' cR' RL',QS (w6.setCell ⟨q,2,none⟩ (.slice A6 (rl2+1) c6)) B q gM gU N M' UV (fun j=>usrL Nn j N) gR'' AR' cR' RL'∧(∀ j,j<N→M' j=(misI Nn (ordTo Nn k) m (i+1) j:Int))∧RdyI Nn (ordTo Nn k) m (i+1) RL'∧(gR''=gR∨w.heap.size≤gR'')∧FrQ q gM gR w (w6.setCell ⟨q,2,none⟩ (.slice A6 (rl2+1) c6))):=by
     have hQ6:=HQA.out.setR HBC.out hG6 hV6 (hg6.imp id fun h=>by omega) (by have:=HW.out;omega)
     rw [hlen6,HCp.out] at hQ6
     refine ⟨_,g6,A6,c6,_,hQ6,HMA.out,HRn1.out,?_,frQ_set (frQ_grown (frQ_below HFA.out HBC.out) hG6 (hgr.imp id fun h=>h)) (Or.inl rfl)⟩
     rcases hg6 with h | h
     ·rw [h];exact hgr
     ·exact Or.inr (by omega)
    rw [HR2.out]
    clear hins hwC d2 hV6 hg6 hG6 b0 b2 bf
    go_wp2_with fail
    go_roundg (t-(i+1))
    case measure=>omega
    case rel=>exact ⟨i+1,by omega,rfl,by go_num,HN6⟩
   ·have hb1:((mI-1) == 0)=false:=by
     rw [beq_eq_false_iff_ne]
     omega
    have HN6:Hid (∃ M' gR'' AR' cR' RL',QS wA B q gM gU N M' UV (fun j=>usrL Nn j N) gR'' AR' cR' RL'∧(∀ j,j<N→M' j=(misI Nn (ordTo Nn k) m (i+1) j:Int))∧RdyI Nn (ordTo Nn k) m (i+1) RL'∧(gR''=gR∨w.heap.size≤gR'')∧FrQ q gM gR w wA):=⟨_,gR',AR',cR',RL',hQA,hMA,hr2 (by omega),hgr,hFA⟩
    clear hQr hMr hRr hFr e1 e3 e4 e12 e5 e6 e7 hnR hr1 hr2 hcl hbS hQA hMA hFA hri hl3 hmI2 hrl2 hone
    go_wp2_with fail
    go_roundg (t-(i+1))
    case measure=>omega
    case rel=>exact ⟨i+1,by omega,rfl,by go_num,HN6⟩
  ·have hie:i=t:=by omega
   subst hie
   go_wp2_with fail
   go_ret
   obtain ⟨M',gR',AR',cR',RL',hQr,hMr,hRr,hgr,hFr⟩:=HSt.out
   exact ⟨m,rfl,by omega,HOn.out,M',gR',AR',cR',RL',hQr,fun j hj=>by rw [hMr j hj,HEnd.out.1 j hj],HEnd.out.2 _ hRr,hgr,hFr⟩
end Go.Proofs.YtglekooldbeklaaGreatDoor
