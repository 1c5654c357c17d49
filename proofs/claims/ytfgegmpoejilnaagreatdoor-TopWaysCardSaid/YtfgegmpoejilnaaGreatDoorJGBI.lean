/-
  What a hall is asked to do (plain): edits at once, and one by one; what is told of a hall in memory, whatever it is made of (its own blocks are a set that no other thing lies in).
-/
import Derived.Test.YtfgegmpoejilnaaGreatDoorJGBH
namespace Go.Proofs.YtfgegmpoejilnaaGreatDoor
open Go.ChangeShapes Go.WideShapes Go.ChangeAt Go.RowKit
set_option maxRecDepth 20000
def doE (D:Nat→Dm) (n:Nat) (l:List En) (Y:List Ed):Int:=(editsV D n l Y).2.2
def doL (D:Nat→Dm) (n:Nat) (l:List En) (Y:List Ed):List En:=if doE D n l Y=0 then (editsV D n l Y).1 else l
noncomputable def doN (D:Nat→Dm) (n:Nat) (l:List En) (Y:List Ed):Nat:=if doE D n l Y=0 then (drtL D n (Y.map fun x=>numI D x.pl n)).length else 0
def edTo (l:List En) (Y:List Ed) (k:Nat):List En:=(Y.take k).foldl editV l
def noEd:Ed:=⟨[],0,false⟩
theorem edTo_succ (l:List En) (Y:List Ed) {k:Nat} (hk:k<Y.length):edTo l Y (k+1)=editV (edTo l Y k) (Y.getD k noEd):=by
 unfold edTo
 rw [List.take_succ_eq_append_getElem hk,List.foldl_append,List.getD_eq_getElem?_getD,List.getElem?_eq_getElem hk]
 rfl
section
variable {D:Nat→Dm} {n:Nat}
theorem edits_each {l:List En} (hl:Ens D n l):∀ (Y:List Ed) (i:Nat),(editsFrom D n l i Y).2.2=0→(editsFrom D n l i Y).1=edTo l Y Y.length∧∀ k,k<Y.length→editErr D n (edTo l Y k) (Y.getD k noEd)=0∧Ens D n (edTo l Y k):=by
 intro Y
 induction Y generalizing l with
 | nil=>intro i _;exact ⟨rfl,fun k hk=>absurd hk (Nat.not_lt_zero _)⟩
 | cons x r ih =>
  intro i h
  by_cases hx:editErr D n l x=0
  ·rw [editsFrom_ok r hx] at h ⊢
   obtain ⟨h1,h2⟩:=ih (hl.edit hx).2 (i+1) h
   have hs:∀ k,edTo l (x :: r) (k+1)=edTo (editV l x) r k:=fun k=>by unfold edTo;rw [List.take_succ_cons,List.foldl_cons]
   refine ⟨by rw [h1,List.length_cons,hs],fun k hk=>?_⟩
   cases k with
   | zero=>exact ⟨hx,hl⟩
   | succ k =>
    rw [hs]
    exact h2 k (by simpa using hk)
  ·rw [editsFrom_bad r hx] at h
   exact absurd h hx
theorem do_all {l:List En} (hl:Ens D n l) {Y:List Ed} (h:doE D n l Y=0):Y.length≤60∧doL D n l Y=edTo l Y Y.length∧∀ k,k<Y.length→editErr D n (edTo l Y k) (Y.getD k noEd)=0∧Ens D n (edTo l Y k):=by
 have e:=h
 unfold doE editsV at e
 by_cases h60:60<Y.length
 ·rw [if_pos h60] at e
  simp at e
 ·rw [if_neg h60,if_neg (by simpa using hl.ok)] at e
  obtain ⟨h1,h2⟩:=edits_each hl Y 0 e
  refine ⟨by omega,?_,h2⟩
  unfold doL
  rw [if_pos h]
  unfold editsV
  rw [if_neg h60,if_neg (by simpa using hl.ok)]
  exact h1
theorem do_ens {l:List En} (hl:Ens D n l) (Y:List Ed):Ens D n (doL D n l Y):=by
 by_cases h:doE D n l Y=0
 ·obtain ⟨-,h2,h3⟩:=do_all hl h
  rw [h2]
  cases hY:Y.length with
  | zero=>exact hl
  | succ k =>
   have:=h3 k (by omega)
   rw [edTo_succ l Y (by omega)]
   exact (this.2.edit this.1).2
 ·unfold doL
  rw [if_neg h]
  exact hl
theorem cu_right {l:List En} (hr:(ruErr D n).2.2=0) (hl:Ens D n l):cuErr D n l=0:=by unfold cuErr;rw [if_neg (by simpa using hr)];exact hl.ok
end
noncomputable def hcV (D:Nat→Dm) (n:Nat) (l:List En) (p:List Int):Int×Int:=if placeErr D n p=0 then (caL D n l).getD (numI D p n).toNat noC else (0,0)
structure HallC (HV:World→Nat→(Nat→Prop)→(Nat→Dm)→Nat→List En→Prop):Prop where
 keep:∀ {w w' h S D n l},HV w h S D n l→w.heap.size≤w'.heap.size→(∀ b,S b→w'.heap[b]?=w.heap[b]?)→HV w' h S D n l
 inS:∀ {w h S D n l},HV w h S D n l→∀ b,S b→b<w.heap.size
 right:∀ {w h S D n l},HV w h S D n l→(ruErr D n).2.2=0∧Ens D n l
 bad:∀ A0 cap n D A C w,(ruErr D n).2.2≠0→DimsV w A0 cap n D A C→Calls Tryz.prog 6 #[.agg #[.slice A0 n cap]] w fun e w'=>e=.returned (.tuple #[.pointer none,errV (ruErr D n).2.2])∧Below w.heap.size w w'
 new:∀ A0 cap n D A C w,(ruErr D n).2.2=0→DimsV w A0 cap n D A C→Calls Tryz.prog 6 #[.agg #[.slice A0 n cap]] w fun e w'=>(∃ h S,e=.returned (.tuple #[.pointer (some ⟨h,0,none⟩),.nilIface])∧HV w' h S D n []∧∀ b,S b→w.heap.size≤b)∧Below w.heap.size w w'
 edit:∀ h S D n l Ax cx ys w,HV w h S D n l→EdsV w Ax cx ys→Calls Tryz.prog 7 #[.pointer (some ⟨h,0,none⟩),.slice Ax ys.length cx] w fun e w'=>(∃ S',e=.returned (.tuple #[.int .i64 (doN D n l (lD ys):Nat),errV (doE D n l (lD ys))])∧HV w' h S' D n (doL D n l (lD ys))∧∀ b,S' b→S b∨w.heap.size≤b)∧Kept w.heap.size S w w'
 cells:∀ h S D n l w,HV w h S D n l→Calls Tryz.prog 8 #[.pointer (some ⟨h,0,none⟩)] w fun e w'=>(∃ A' c',e=.returned (.slice A' (caL D n l).length c')∧CelV w' A' c' (caL D n l))∧Below w.heap.size w w'
 entries:∀ h S D n l w,HV w h S D n l→Calls Tryz.prog 10 #[.pointer (some ⟨h,0,none⟩)] w fun e w'=>(∃ A' c' zs,e=.returned (.slice A' zs.length c')∧EnsV w' A' c' zs∧lE zs=l)∧Below w.heap.size w w'
def HallK (HV:World→Nat→(Nat→Prop)→(Nat→Dm)→Nat→List En→Prop):Prop := ∀ h S D n l Ap cp p w,HV w h S D n l→PlAt w Ap cp p→Calls Tryz.prog 14 #[.pointer (some ⟨h,0,none⟩),.slice Ap p.length cp] w fun e w'=>e=.returned (.tuple #[.agg #[.int .i64 (hcV D n l p).1,.int .i64 (hcV D n l p).2],errV (placeErr D n p)])∧Below w.heap.size w w'
theorem HallC.later {HV:World→Nat→(Nat→Prop)→(Nat→Dm)→Nat→List En→Prop} (C:HallC HV) {w w':World} {h:Nat} {S:Nat→Prop} {D:Nat→Dm} {n:Nat} {l:List En} (hH:HV w h S D n l) (hB:Below w.heap.size w w'):HV w' h S D n l:=C.keep hH hB.size fun b hb=>hB.block b (C.inS hH b hb)
theorem below_kept {W0 w w':World} {S:Nat→Prop} (h:Below W0.heap.size W0 w) (hk:Kept w.heap.size S w w') (hS:∀ b,S b→W0.heap.size≤b):Below W0.heap.size W0 w' :=
 ⟨hk.os.trans h.os,hk.tape.trans h.tape,hk.output.trans h.output,Nat.le_trans h.size hk.size,fun b hb=>(hk.block b (Nat.lt_of_lt_of_le hb h.size) fun e=>by have:=hS b e;omega).trans (h.block b hb)⟩
theorem up_acyc {N:List (List Int)} (h:∀ (a:Int),∀ x∈rowN N a,a<x) (i:Nat):cycB N i=false:=by
 rw [cyc_not]
 intro hr
 have hlt:∀ {a b:Int},Rch N a b→a<b:=by
  intro a b hab
  induction hab with
  | one hx=>exact h _ _ hx
  | more hx _ ih=>have:=h _ _ hx;omega
 have:=hlt hr
 omega
end Go.Proofs.YtfgegmpoejilnaaGreatDoor
namespace Go.Proofs.YtfgegmpoejilnaaGreatDoor
set_option maxRecDepth 20000
section
variable {D:Nat→Dm} {n:Nat} {l:List En}
theorem gV_none (hE:Ens D n l) {p:List Int} (hp:InO D n p):gV D n (fun _=>false) l p=getE l p:=by
 obtain ⟨x,-,hx,rfl⟩:=num_lt hp
 have h:=wr_at hE hx
 rw [wr_gL hE] at h
 have h2:=gL_at (D:=D) (n:=n) (S:=fun _=>false) (l:=l) hx
 exact h2.symm.trans h
theorem roll_leaf (hE:Ens D n l) {p:List Int} (hp:InO D n p) (hno:∀ i,i<n→partsOf (D i).mem (D i).n (p.getD i 0)=[]):rollV D n l p=getE l p:=by
 have hall:∀ k,k≤n→gV D n (fun j=>decide (j<k)) l p=gV D n (fun _=>false) l p:=by
  intro k
  induction k with
  | zero=>intro _;exact gV_congr fun e _=>gw_congr n fun j _=>by unfold facS;simp
  | succ k ih =>
   intro hk
   rw [←ih (by omega)]
   have h0:=hp.lo k (by omega)
   have h1:=hp.hi k (by omega)
   refine gV_congr fun e he=>?_
   rw [←gw_bare hE (show k<n by omega) (S:=fun j=>decide (j<k)) (by simp) he (m:=(p.getD k 0).toNat) (by omega) (by omega) (by rw [Int.toNat_of_nonneg h0];exact hno k (by omega))]
   refine gw_congr n fun j _=>?_
   have:decide (j<k+1)=addS (fun j=>decide (j<k)) k j:=by
    unfold addS
    rw [Bool.eq_iff_iff]
    simp
    omega
   unfold facS
   simp only [this]
 rw [←gV_all (S:=fun j=>decide (j<n)) (fun j hj=>decide_eq_true hj),hall n (Nat.le_refl _),gV_none hE hp]
theorem roll_parts (hE:Ens D n l) {p:List Int} (hp:InO D n p) {b:Nat} (hb:b<n) (hP:partsOf (D b).mem (D b).n (p.getD b 0)≠[]):rollV D n l p=partsV (D b).mem (fun z=>rollV D n l (p.set b z)) (partsOf (D b).mem (D b).n (p.getD b 0)):=by
 obtain ⟨x,-,hx,rfl⟩:=num_lt hp
 have h0:=hp.lo b hb
 have hdg:=digit_at (D:=D) (n:=n) (x:=x) hb
 obtain ⟨m,hm⟩:∃ m,x / stepD D n b % (D b).n=m:=⟨_,rfl⟩
 have hpm:(placeL D n x).getD b 0=(m:Int):=by omega
 rw [hpm] at hP ⊢
 have hfix:=gL_fix hE hb (S:=fun _=>true) (m:=m) x (by rw [gL_len];exact hx) hm hP
 have hS:∀ j,j<n→addS (fun _=>true) b j=true:=fun j _=>by simp [addS]
 rw [gL_at hx,gV_all hS] at hfix
 rw [hfix]
 refine parts_same _ _ fun k hk=>?_
 obtain ⟨j,rfl,hj,-⟩:=selTo_mem k hk
 obtain ⟨y,h1,h2,h3⟩:=set_num hE.right hb hx hj
 rw [hm] at h1
 unfold atP cAt
 rw [h1,Int.toNat_natCast,gL_at h2,gV_all hS,h3]
theorem sol_roll (hE:Ens D n l) (hR:AllR D n) (hf:∀ i,i<n→∀ k,k<(D i).n→((D i).mem k).formula.size=0):∀ (m:Nat) (p:List Int),InO D n p→msrTo D p n<m→solV D n (getE l) p=rollV D n l p:=by
 intro m
 induction m with
 | zero=>intro p _ h;omega
 | succ m ih =>
  intro p hp hm
  rcases by_in D p n with h | ⟨b,h1,h2⟩
  ·rw [sol_leaf _ (by omega),roll_leaf hE hp]
   intro i hi
   have hb:∀ k,byTo D p k = -1→∀ j,j<k→leafB (D j).mem (D j).n (p.getD j 0).toNat=true:=by
    intro k
    induction k with
    | zero=>intro _ j hj;omega
    | succ k ihk =>
     intro he j hj
     unfold byTo at he
     split at he
     ·omega
     ·rename_i hc
      by_cases e:j=k
      ·subst e
       cases hl:leafB (D j).mem (D j).n (p.getD j 0).toNat with
       | true=>rfl
       | false=>exact absurd ⟨hl,Or.inl (by omega)⟩ hc
      ·exact ihk he j (by omega)
   have hl:=hb n h i hi
   have h0:=hp.lo i hi
   unfold leafB at hl
   rw [Bool.and_eq_true] at hl
   have h3 : ¬ 0≤findFrom (partB (D i).mem ((p.getD i 0).toNat:Int)) (D i).n 0:=by simpa using hl.2
   rw [Int.toNat_of_nonneg h0] at h3
   refine List.eq_nil_iff_forall_not_mem.2 fun z hz=>h3 ?_
   obtain ⟨q,rfl,hq,hq2⟩:=selTo_mem z hz
   rcases findFrom_cases (partB (D i).mem (p.getD i 0)) (D i).n 0 with ⟨h4,h5⟩ | ⟨q2,h4,-⟩
   ·have:=h5 q (Nat.zero_le _) (by omega)
    rw [hq2] at this
    cases this
   ·omega
  ·rw [sol_by hR (getE l) hp h1]
   have hp0:=hp.lo b h2
   have hp1:=hp.hi b h2
   have hlf:leafB (D b).mem (D b).n (p.getD b 0).toNat=false:=by
    have hb:∀ k,byTo D p k=(b:Int)→leafB (D b).mem (D b).n (p.getD b 0).toNat=false:=by
     intro k
     induction k with
     | zero=>intro he;unfold byTo at he;omega
     | succ k ihk =>
      intro he
      unfold byTo at he
      split at he
      ·rename_i hc
       have:k=b:=by omega
       subst this
       exact hc.1
      ·exact ihk he
    exact hb n h1
   have hfz:=hf b h2 (p.getD b 0).toNat (by omega)
   have hP:partsOf (D b).mem (D b).n (p.getD b 0)≠[]:=by
    intro he
    unfold leafB at hlf
    rw [decide_eq_true hfz,Bool.true_and] at hlf
    have h3:0≤findFrom (partB (D b).mem ((p.getD b 0).toNat:Int)) (D b).n 0:=by simpa using hlf
    rw [Int.toNat_of_nonneg hp0] at h3
    rcases findFrom_cases (partB (D b).mem (p.getD b 0)) (D b).n 0 with ⟨h4,-⟩ | ⟨q2,h4,h5,h6,h7,h8⟩
    ·omega
    ·have:=sel_in (p:=partB (D b).mem (p.getD b 0)) h6 h7
     rw [Nat.zero_add,show selTo (partB (D b).mem (p.getD b 0)) (D b).n=[] from he] at this
     cases this
   rw [roll_parts hE hp h2 hP]
   have e2:partsV (D b).mem (fun z=>rollV D n l (p.set b z)) (partsOf (D b).mem (D b).n (p.getD b 0))=oneV (D b) (fun z=>rollV D n l (p.set b z)) (p.getD b 0).toNat:=by
    unfold oneV partsV
    rw [if_pos hfz,Int.toNat_of_nonneg hp0]
   rw [e2,←parts_value hfz,←parts_value hfz]
   unfold partsV
   refine parts_same _ _ fun z hz=>?_
   have hxi:=mNd_in hz
   have hrk:=rk_less (hR b h2) (i:=(p.getD b 0).toNat) (by omega) hz
   rw [Int.toNat_of_nonneg hp0] at hrk
   have hms:=(msr_less (by rw [hp.len];exact h2) hrk n).2 h2
   exact ih _ (inO_set hp h2 hxi.1 hxi.2) (by omega)
end
end Go.Proofs.YtfgegmpoejilnaaGreatDoor
namespace Go.Proofs.YtfgegmpoejilnaaGreatDoor
open Go.ChangeShapes Go.WideShapes Go.ChangeAt Go.RowKit
set_option maxRecDepth 20000
structure CorS (n:Nat) (l:List En) (f:Nat→Int) (s:Int):Prop where
 ens:Ens (squareD n) 2 l
 at':∀ k,k<n*n→(getE l (cornP n k)).2=f k
 sum:rollN (squareD n) 2 [0,0] l=s
theorem sel_iff {p:Nat→Bool} {N m:Nat} (hm:m<N):(m:Int)∈selTo p N↔p m=true :=
 ⟨fun h=>by obtain ⟨j,hj,-,hp⟩:=selTo_mem _ h;have e:m=j:=(by omega);rw [e];exact hp,fun h=>sel_has hm h⟩
theorem small_names {D:Nat→Dm} {n:Nat} (hE:(allErr D n).2.2=0) {i:Nat} (hi:i<n):(D i).name.size≤8∧∀ j,j<(D i).n→((D i).mem j).name.size≤8∧((D i).mem j).formula.size≤100:=by
 have hd:=(allErr_right hE).2 i hi
 have h2:∀ s,nameErr s=0→s.size≤8:=fun s h=>by
  unfold nameErr at h
  split at h
  ·cases h
  ·omega
 refine ⟨h2 _ ?_,fun j hj=>?_⟩
 ·unfold dimErr at hd
  split at hd
  ·cases hd
  ·rename_i h;simpa using h
 ·have hm:=(dimErr_right hd).2.2.2 j hj
  unfold memErr at hm
  split at hm
  ·cases hm
  ·rename_i h0
   refine ⟨h2 _ (by simpa using h0),?_⟩
   split at hm
   ·cases hm
   ·split at hm
    ·cases hm
    ·split at hm
     ·cases hm
     ·split at hm
      ·cases hm
      ·split at hm
       ·cases hm
       ·omega
theorem keepFr {W w':World} {q r s:Nat} {g n c:Nat} {v:Value} (h:q<W.heap.size∧q≠g∧r<W.heap.size∧r≠g∧W.cell? ⟨q,0,none⟩=some (.slice (some ⟨g,0,none⟩) n c)∧W.cell? ⟨r,s,none⟩=some v) (hG:W.grownBy w' (some g)):W.grownBy w' (some g)∧w'.cell? ⟨q,0,none⟩=some (.slice (some ⟨g,0,none⟩) n c)∧w'.cell? ⟨r,s,none⟩=some v:=by
 have hb:w'.heap[q]?=W.heap[q]?:=hG.block q h.1 fun e=>h.2.1 (by simpa using e)
 have hc:w'.heap[r]?=W.heap[r]?:=hG.block r h.2.2.1 fun e=>h.2.2.2.1 (by simpa using e)
 exact ⟨hG,(World.cell?_of_block (a:=⟨q,0,none⟩) hb).trans h.2.2.2.2.1,(World.cell?_of_block (a:=⟨r,s,none⟩) hc).trans h.2.2.2.2.2⟩
theorem keepFx {W w':World} {q g:Nat} {u v:Value} (h:q<W.heap.size∧q≠g∧W.cell? ⟨q,0,none⟩=some u∧W.cell? ⟨q,3,none⟩=some v) (hG:W.grownBy w' (some g)):W.grownBy w' (some g)∧w'.cell? ⟨q,0,none⟩=some u∧w'.cell? ⟨q,3,none⟩=some v:=by
 have hb:w'.heap[q]?=W.heap[q]?:=hG.block q h.1 fun e=>h.2.1 (by simpa using e)
 exact ⟨hG,(World.cell?_of_block (a:=⟨q,0,none⟩) hb).trans h.2.2.1,(World.cell?_of_block (a:=⟨q,3,none⟩) hb).trans h.2.2.2⟩
structure FrR (w wr:World) (ob g cg k n:Nat) (D:Nat→Dm) (A:Nat→Option Addr) (C:Nat→Nat):Prop where
 fr:FrW w wr g cg k n D A C
 out:wr.heap[ob]?=some (.cells #[.slice (some ⟨g,0,none⟩) n cg] 24 (0,0))
 res:wr.heap[w.heap.size+1]?=some (.cells #[.slice none 0 0] 24 (0,0))
 low:Below w.heap.size w wr
theorem FrR.later {w wr w':World} {ob g cg k n:Nat} {D:Nat→Dm} {A:Nat→Option Addr} {C:Nat→Nat} (h:FrR w wr ob g cg k n D A C) (hB:Below wr.heap.size wr w'):FrR w w' ob g cg k n D A C :=
 ⟨h.fr.later hB,(hB.block _ (Array.getElem?_eq_some_iff.1 h.out).1).trans h.out,(hB.block _ (Array.getElem?_eq_some_iff.1 h.res).1).trans h.res,onB h.low hB⟩
theorem FrR.off {w wr:World} {ob g cg k n:Nat} {D:Nat→Dm} {A:Nat→Option Addr} {C:Nat→Nat} (h:FrR w wr ob g cg k n D A C):ob≠g∧w.heap.size+1≠g∧w.heap.size≤g:=by
 obtain ⟨G,C',h1,-⟩:=h.fr
 obtain ⟨b1,-,-,-,cur,hg⟩:=ow_blk h1
 refine ⟨fun e=>?_,fun e=>?_,b1⟩
 ·have h2:=h.out
  rw [e,hg] at h2
  simp only [Option.some.injEq,Obj.cells.injEq] at h2
  exact absurd h2.2.1 (by decide)
 ·have h2:=h.res
  rw [e,hg] at h2
  simp only [Option.some.injEq,Obj.cells.injEq] at h2
  exact absurd h2.2.1 (by decide)
theorem FrR.name {w wr:World} {ob g cg k n:Nat} {D:Nat→Dm} {A:Nat→Option Addr} {C:Nat→Nat} (h:FrR w wr ob g cg k n D A C) (hk:k<n):FrR w (wr.setCell ⟨g,k*3,none⟩ (.string (D k).name)) ob g cg k n D A C :=
 ⟨h.fr.name hk,(setCell_off _ _ _ _ _ h.off.1).trans h.out,(setCell_off _ _ _ _ _ h.off.2.1).trans h.res,h.low.setCell h.off.2.2 _⟩
theorem FrR.put {w wy wr:World} {ob g cg k n gm cm:Nat} {D:Nat→Dm} {A:Nat→Option Addr} {C:Nat→Nat} (h:FrR w wy ob g cg k n D A C) (hk:k<n) (hB:Below wy.heap.size wy wr) (hm:wr.ownsRow wy.heap.size 27 4 (.slice (some ⟨gm,0,none⟩) (D k).n cm) (D k).n (cellsMb (D k).mem (D k).n)):FrR w (wr.setCell ⟨g,k*3+2,none⟩ (.slice (some ⟨gm,0,none⟩) (D k).n cm)) ob g cg (k+1) n D A C:=by
 have h2:=h.later hB
 exact ⟨h.fr.put hk hB h.low.size hm,(setCell_off _ _ _ _ _ h2.off.1).trans h2.out,(setCell_off _ _ _ _ _ h2.off.2.1).trans h2.res,h2.low.setCell h2.off.2.2 _⟩
set_option maxHeartbeats 16000000 in
theorem ofresh_own (A0:Option Addr) (cap n:Nat) (D:Nat→Dm) (A:Nat→Option Addr) (C:Nat→Nat) (w:World) (hE:(allErr D n).2.2=0) (hM:DimsV w A0 cap n D A C) :
  Calls Tryz.prog 21 #[.agg #[.slice A0 n cap]] w fun e w'=>(∃ g c G C',e=.returned (.agg #[.slice (some ⟨g,0,none⟩) n c])∧OwD w' w.heap.size g c n D G C')∧Below w.heap.size w w':=by
 obtain ⟨hn1,hn4,-,hd⟩:=allErr_some hE
 have hsm:=fun i (hi:i<n)=>small_names hE hi
 obtain ⟨hncap,h0 | ⟨b,o,rfl,hDA⟩⟩:=hM
 ·omega
 have HCl:Hid (∀ w',Below w.heap.size w w'→Calls Tryz.prog 41 #[.slice (some ⟨b,o,none⟩) n cap] w' fun e w''=>(∃ g c',e=.returned (.slice (some ⟨g,0,none⟩) n c')∧w''.ownsRow w'.heap.size 30 3 (.slice (some ⟨g,0,none⟩) n c') n (cellsDo D A C n))∧Below w'.heap.size w' w''):=fun w' hB=>dclone_own b o cap n D A C w' (by omega) hn4 (hDA.later hB)
 have HMc:Hid (∀ k w',k<n→Below w.heap.size w w'→∃ bm om,A k=some ⟨bm,om,none⟩∧Calls Tryz.prog 43 #[.slice (some ⟨bm,om,none⟩) (D k).n (C k)] w' fun e w''=>(∃ g c',e=.returned (.slice (some ⟨g,0,none⟩) (D k).n c')∧w''.ownsRow w'.heap.size 27 4 (.slice (some ⟨g,0,none⟩) (D k).n c') (D k).n (cellsMb (D k).mem (D k).n))∧Below w'.heap.size w' w''):=fun k w' hk hB=>by
  obtain ⟨-,-,-,-,h0 | ⟨bm,om,hA,hMm⟩⟩:=(hDA.later hB).2 k hk
  ·have:=(hd k hk).1;omega
  ·exact ⟨bm,om,hA,mclone_own bm om (C k) (D k).n (D k).mem w' (hd k hk).1 (hd k hk).2 hMm⟩
 have HSc:Hid (∀ s:ByteArray,s.size≤100→∀ w',Calls Tryz.prog 42 #[.string s] w' fun e w''=>e=.returned (.string s)∧Below w'.heap.size w' w''):=fun s hs w'=>sclone_any s w' (by omega)
 have HSm:=hid_of hsm
 have hnI:(n:Int)≤4:=by omega
 have HDn:Hid (∀ k,k<n→(D k).n≤12):=fun k hk=>(hd k hk).2
 obtain ⟨W,hW⟩:∃ W,(w.alloc (.cells #[.slice (some ⟨b,o,none⟩) n cap] 24)).alloc (.cells #[.slice none 0 0] 24)=W:=⟨_,rfl⟩
 have hBW:Below w.heap.size w W:=by rw [←hW];go_grown
 have hWs:W.heap.size=w.heap.size+2:=by rw [←hW];simp
 have k1:W.heap[w.heap.size]?=some (.cells #[.slice (some ⟨b,o,none⟩) n cap] 24 (0,0)):=by rw [←hW,Below.heap_alloc _ _ _ (by simp)];exact heap_alloc_new ..
 have k2:W.heap[w.heap.size+1]?=some (.cells #[.slice none 0 0] 24 (0,0)):=by
  have:=heap_alloc_new (w.alloc (.cells #[.slice (some ⟨b,o,none⟩) n cap] 24)) (.cells #[.slice none 0 0] 24)
  rw [show (w.alloc (.cells #[.slice (some ⟨b,o,none⟩) n cap] 24)).heap.size=w.heap.size+1 by simp] at this
  rw [←hW];exact this
 have c1:W.cell? ⟨w.heap.size,0,none⟩=some (.slice (some ⟨b,o,none⟩) n cap):=(Lib.cell_of_heap k1 0).trans rfl
 have HBW:=hid_of hBW
 have HK2:=hid_of k2
 clear hDA hd hE k1 k2 hBW hsm
 go_enter Tryz.func21,Tryz.ntmps21
 go_wp2_with fail
 refine (HCl.out W HBW.out).mono ?_
 rintro e w1 ⟨⟨g,cg,rfl,hDO⟩,hb1⟩
 have hb1s:=hb1.size
 have HB1:Hid (Below w.heap.size w w1):=onB HBW.out hb1
 have K1:w1.heap[w.heap.size+1]?=some (.cells #[.slice none 0 0] 24 (0,0)):=(hb1.block _ (by omega)).trans HK2.out
 obtain ⟨w2,hw2⟩:∃ w2,w1.alloc (.cells #[.slice (some ⟨g,0,none⟩) n cg] 24)=w2:=⟨_,rfl⟩
 have hb2:Below w1.heap.size w1 w2:=by rw [←hw2];go_grown
 have hs2:w2.heap.size=w1.heap.size+1:=by rw [←hw2];simp
 have hk2:w2.heap[w1.heap.size]?=some (.cells #[.slice (some ⟨g,0,none⟩) n cg] 24 (0,0)):=by rw [←hw2];exact heap_alloc_new ..
 have HR0:Hid (FrR w w2 w1.heap.size g cg 0 n D A C):=by
  refine ⟨⟨fun _=>0,fun _=>0,?_,fun i hi=>by omega,fun i j hi=>by omega⟩,hk2,(hb2.block _ (by omega)).trans K1,onB HB1.out hb2⟩
  have h5:=ow_base (own_later hDO hb2) HBW.out.size
  rwa [cellsDo_same (A':=fun i=>if i<0 then some ⟨0,0,none⟩ else A i) (C':=fun i=>if i<0 then 0 else C i) n fun i hi=>⟨by simp,by simp⟩] at h5
 have c2:w2.cell? ⟨w1.heap.size,0,none⟩=some (.slice (some ⟨g,0,none⟩) n cg):=(Lib.cell_of_heap hk2 0).trans rfl
 clear hb1 hDO hb2 K1 hk2 HCl HBW HK2 c1 hW
 go_wp2_with fail
 clear c2
 generalize hob:w1.heap.size=ob at HR0
 go_loopg [16] n (fun gg s16 wr => ∃ k:Nat,k≤n∧gg=n-k∧s16=.int .i64 k∧Hid (FrR w wr ob g cg k n D A C))
 case atStart=>exact ⟨0,Nat.zero_le _,rfl,rfl,HR0⟩
 case round =>
  obtain ⟨k,hk,rfl,rfl,HK⟩:=hrel
  have hobl:ob<wr.heap.size:=(Array.getElem?_eq_some_iff.1 HK.out.out).1
  by_cases hlt:k<n
  ·have hki:(k:Int)<(n:Int):=by omega
   obtain ⟨hgw,hgl,hcgn,e0,e1,e2,hfz⟩:=HK.out.fr.row hlt
   have hcgI:(n:Int)≤(cg:Int):=by omega
   obtain ⟨bm,om,hAk,-⟩:=HMc.out k wr hlt HK.out.low
   have HMk:Hid (∀ w',Below w.heap.size w w'→Calls Tryz.prog 43 #[.slice (some ⟨bm,om,none⟩) (D k).n (C k)] w' fun e w''=>(∃ g c',e=.returned (.slice (some ⟨g,0,none⟩) (D k).n c')∧w''.ownsRow w'.heap.size 27 4 (.slice (some ⟨g,0,none⟩) (D k).n c') (D k).n (cellsMb (D k).mem (D k).n))∧Below w'.heap.size w' w''):=fun w' hB=>by
    obtain ⟨bm',om',hAk',h⟩:=HMc.out k w' hlt hB
    rw [hAk] at hAk'
    cases hAk'
    exact h
   rw [hAk] at e2
   obtain ⟨y,hy⟩:∃ y,wr.alloc (.cells #[.string (D k).name,.int .i64 (D k).solve,.slice (some ⟨bm,om,none⟩) (D k).n (C k)] 30)=y:=⟨_,rfl⟩
   have hBy:Below wr.heap.size wr y:=by rw [←hy];go_grown
   have hyb:y.heap[wr.heap.size]?=some (.cells #[.string (D k).name,.int .i64 (D k).solve,.slice (some ⟨bm,om,none⟩) (D k).n (C k)] 30 (0,0)):=by rw [←hy];exact heap_alloc_new ..
   have hys:y.heap.size=wr.heap.size+1:=by rw [←hy];simp
   have HBox:Hid (ob<y.heap.size∧ob≠g∧wr.heap.size<y.heap.size∧wr.heap.size≠g∧y.cell? ⟨ob,0,none⟩=some (.slice (some ⟨g,0,none⟩) n cg)∧y.cell? ⟨wr.heap.size,0,none⟩=some (.string (D k).name)):=⟨by omega,HK.out.off.1,by omega,by omega,(Lib.cell_of_heap (HK.out.later hBy).out 0).trans rfl,(Lib.cell_of_heap hyb 0).trans rfl⟩
   have HDy:Hid (∀ w3,Below y.heap.size y w3→w3.cell? ⟨g,k*3,none⟩=some (.string (D k).name)∧w3.frozen? ⟨g,k*3,none⟩=false):=fun w3 hb3=>by
    obtain ⟨-,-,-,x0,-,-,xf⟩:=(HK.out.later (onB hBy hb3)).fr.row hlt
    exact ⟨x0,xf _⟩
   have HName:Hid (∀ w3,Below y.heap.size y w3→FrR w (w3.setCell ⟨g,k*3,none⟩ (.string (D k).name)) ob g cg k n D A C∧(w3.setCell ⟨g,k*3,none⟩ (.string (D k).name)).heap[wr.heap.size]?=some (.cells #[.string (D k).name,.int .i64 (D k).solve,.slice (some ⟨bm,om,none⟩) (D k).n (C k)] 30 (0,0))):=fun w3 hb3=>⟨(HK.out.later (onB hBy hb3)).name hlt,(setCell_off _ _ _ _ _ (by omega)).trans ((hb3.block _ (by omega)).trans hyb)⟩
   have hds:=(HSm.out k hlt).1
   have HSk:=hid_of (HSm.out k hlt).2
   have HScn:Hid (∀ w',Calls Tryz.prog 42 #[.string (D k).name] w' fun e w''=>e=.returned (.string (D k).name)∧Below w'.heap.size w' w''):=HSc.out _ (by omega)
   have hdn:=HDn.out k hlt
   have HDe:=hid_of hlt
   obtain ⟨d,hde⟩:∃ d,D k=d:=⟨_,rfl⟩
   have HDd:=hid_of hde
   rw [hde] at e0 e1 e2 hy hyb HMk HBox HDy HName HSk HScn hdn
   obtain ⟨s1,s2,dn,dm⟩:=d
   simp only at e0 e1 e2 hy hyb HMk HBox HDy HName HSk HScn hdn
   generalize C k=ck at e2 hy hyb HMk HBox HDy HName
   have hyG:wr.heap.size<y.heap.size:=by omega
   clear hBy hyb hAk hde HMc hfz hds
   go_wp2_with fail
   clear e0 e1 e2
   generalize wr.heap.size=bd at HBox HName hyG
   go_region_held3 (fun w'=>y.grownBy w' (some g)∧w'.cell? ⟨ob,0,none⟩=some (.slice (some ⟨g,0,none⟩) n cg)∧w'.cell? ⟨bd,0,none⟩=some (.string s1))
    ((refine keepFr HBox.out ?_;(repeat (first | exact grown_refl _ _ | assumption | refine grown_drew ?_ | refine grown_set ?_ _ _));done))
    (first | (go_at_call 42;refine (HScn.out _).mono ?_;rintro e w3 ⟨rfl,hb3⟩;have hN3:=onB (W0:=y) (by go_grown) hb3;have hG3:y.grownBy w3 (some g):=grown_below hN3;obtain ⟨d0,f0⟩:=HDy.out w3 hN3;have HB3:=hid_of hN3;have hs3:=hN3.size;clear hb3 hN3))
   clear d0 f0 hG3
   have hN:=HName.out w3 HB3.out
   obtain ⟨y2,hy2⟩:∃ y2,w3.setCell ⟨g,k*3,none⟩ (.string s1)=y2:=⟨_,rfl⟩
   rw [hy2] at hN
   have HR2:=hid_of hN.1
   have c2:y2.cell? ⟨bd,2,none⟩=some (.slice (some ⟨bm,om,none⟩) dn ck):=(Lib.cell_of_heap hN.2 2).trans rfl
   clear hN HName HDy HBox HScn hy hys hyG hs3 HB3
   go_wp2_with fail
   clear hy2
   refine (HMk.out y2 HR2.out.low).mono ?_
   rintro e wc ⟨⟨gm,cm,rfl,hMO⟩,hbc⟩
   have HI0:=hid_of (And.intro hbc hMO)
   have hdnI:(dn:Int)≤12:=by omega
   clear hbc hMO HMk c2
   go_wp2_with fail
   go_loopg [34] dn (fun gg s34 wq => ∃ j:Nat,j≤dn∧gg=dn-j∧s34=.int .i64 j∧Hid (Below y2.heap.size y2 wq∧wq.ownsRow y2.heap.size 27 4 (.slice (some ⟨gm,0,none⟩) dn cm) dn (cellsMb dm dn)))
   case atStart=>exact ⟨0,Nat.zero_le _,rfl,rfl,HI0⟩
   case round =>
    obtain ⟨j,hj,rfl,rfl,HJ⟩:=hrel
    by_cases hjl:j<dn
    ·have hji:(j:Int)<(dn:Int):=by omega
     obtain ⟨hgm2,hgml,hdc,-,-⟩:=ow_blk HJ.out.2
     have hdcI:(dn:Int)≤(cm:Int):=by omega
     obtain ⟨x0,x1,x2,x3⟩:=cellsMb_at dm dn j hjl
     have e0:=(HJ.out.2.cellAt (j*4) (by omega)).trans x0
     have e1:=(HJ.out.2.cellAt (j*4+1) (by omega)).trans x1
     have e2:=(HJ.out.2.cellAt (j*4+2) (by omega)).trans x2
     have e3:=(HJ.out.2.cellAt (j*4+3) (by omega)).trans x3
     obtain ⟨z,hz⟩:∃ z,wr.alloc (.cells #[.string (dm j).name,.int .i64 (dm j).parent,.int .i64 (dm j).sign,.string (dm j).formula] 27)=z:=⟨_,rfl⟩
     have hBz:Below wr.heap.size wr z:=by rw [←hz];go_grown
     have hzb:z.heap[wr.heap.size]?=some (.cells #[.string (dm j).name,.int .i64 (dm j).parent,.int .i64 (dm j).sign,.string (dm j).formula] 27 (0,0)):=by rw [←hz];exact heap_alloc_new ..
     have hzs:z.heap.size=wr.heap.size+1:=by rw [←hz];simp
     have hzG:wr.heap.size<z.heap.size:=by omega
     have HBx:Hid (wr.heap.size<z.heap.size∧wr.heap.size≠gm∧z.cell? ⟨wr.heap.size,0,none⟩=some (.string (dm j).name)∧z.cell? ⟨wr.heap.size,3,none⟩=some (.string (dm j).formula)):=⟨hzG,by omega,(Lib.cell_of_heap hzb 0).trans rfl,(Lib.cell_of_heap hzb 3).trans rfl⟩
     have HDz:Hid (∀ w3,Below z.heap.size z w3→w3.cell? ⟨gm,j*4,none⟩=some (.string (dm j).name)∧w3.cell? ⟨gm,j*4+3,none⟩=some (.string (dm j).formula)∧w3.frozen? ⟨gm,j*4,none⟩=false∧w3.frozen? ⟨gm,j*4+3,none⟩=false):=fun w3 hb3=>by
      have h:=own_later HJ.out.2 (onB hBz hb3)
      exact ⟨(h.cellAt (j*4) (by omega)).trans x0,(h.cellAt (j*4+3) (by omega)).trans x3,h.frozenAt _,h.frozenAt _⟩
     have HEnd:Hid (∀ w3,Below z.heap.size z w3→Below y2.heap.size y2 ((w3.setCell ⟨gm,j*4,none⟩ (.string (dm j).name)).setCell ⟨gm,j*4+3,none⟩ (.string (dm j).formula))∧((w3.setCell ⟨gm,j*4,none⟩ (.string (dm j).name)).setCell ⟨gm,j*4+3,none⟩ (.string (dm j).formula)).ownsRow y2.heap.size 27 4 (.slice (some ⟨gm,0,none⟩) dn cm) dn (cellsMb dm dn)):=fun w3 hb3=>by
      have hb:=onB hBz hb3
      exact ⟨((onB HJ.out.1 hb).setCell hgm2 _).setCell hgm2 _,ow_same (ow_same (own_later HJ.out.2 hb) x0) x3⟩
     have hs:=HSk.out j hjl
     have HS2:Hid (∀ s:ByteArray,s=(dm j).name∨s=(dm j).formula→∀ w',Calls Tryz.prog 42 #[.string s] w' fun e w''=>e=.returned (.string s)∧Below w'.heap.size w' w''):=fun s hs'=>HSc.out s (by rcases hs' with rfl | rfl <;> omega)
     have hjl12:(j:Int)≤12:=by omega
     generalize (dm j).name=t1 at e0 hz HBx HDz HEnd HS2
     generalize (dm j).parent=t2 at e1 hz
     generalize (dm j).sign=t3 at e2 hz
     generalize (dm j).formula=t4 at e3 hz HBx HDz HEnd HS2
     clear hBz hzb x0 x1 x2 x3 hs
     go_wp2_with fail
     clear e0 e1 e2 e3
     generalize wr.heap.size=bx at HBx hzG
     go_region_held3 (fun w'=>z.grownBy w' (some gm)∧w'.cell? ⟨bx,0,none⟩=some (.string t1)∧w'.cell? ⟨bx,3,none⟩=some (.string t4))
      ((refine keepFx HBx.out ?_;(repeat (first | exact grown_refl _ _ | assumption | refine grown_drew ?_ | refine grown_set ?_ _ _));done))
      (first | (go_at_call 42;refine (HS2.out _ (by first | exact Or.inl rfl | exact Or.inr rfl) _).mono ?_;rintro e w3 ⟨rfl,hb3⟩;have hN3:=onB (W0:=z) (by go_grown) hb3;have hG3:z.grownBy w3 (some gm):=grown_below hN3;obtain ⟨d0,d1,f0,f1⟩:=HDz.out w3 hN3;have HB3:=hid_of hN3;have hs3:=hN3.size;clear hb3))
     all_goals (have HFin:=hid_of (HEnd.out w3 HB3.out))
     all_goals clear d0 d1 f0 f1 hG3 hN3
     all_goals go_wp2_with fail
     all_goals go_roundg (dn-(j+1))
     all_goals first | (exact ⟨j+1,by omega,rfl,by go_num,HFin⟩) | omega
    ·have hje:j=dn:=by omega
     subst hje
     obtain ⟨x0,x1,x2,x3,x4,x5,xf⟩:=(HR2.out.later HJ.out.1).fr.row hlt
     have c3:wr.cell? ⟨ob,0,none⟩=some (.slice (some ⟨g,0,none⟩) n cg):=(Lib.cell_of_heap (HR2.out.later HJ.out.1).out 0).trans rfl
     have f3:=xf (k*3+2)
     have hcgI2:(n:Int)≤(cg:Int):=by omega
     have HFin:Hid (FrR w (wr.setCell ⟨g,k*3+2,none⟩ (.slice (some ⟨gm,0,none⟩) j cm)) ob g cg (k+1) n D A C):=by
      have h:=HR2.out.put hlt HJ.out.1 (gm:=gm) (cm:=cm) (by rw [HDd.out];exact HJ.out.2)
      rw [HDd.out] at h
      exact h
     clear x3 x4 xf
     go_wp2_with fail
     go_roundg (n-(k+1))
     case measure=>omega
     case rel=>exact ⟨k+1,by omega,rfl,by go_num,HFin⟩
  ·have hke:k=n:=by omega
   subst hke
   obtain ⟨G,C',hAll⟩:=HK.out.fr.all
   have c3:wr.cell? ⟨ob,0,none⟩=some (.slice (some ⟨g,0,none⟩) k cg):=(Lib.cell_of_heap HK.out.out 0).trans rfl
   have c4:wr.cell? ⟨w.heap.size+1,0,none⟩=some (.slice none 0 0):=(Lib.cell_of_heap HK.out.res 0).trans rfl
   have f4:=Lib.frozen_of_heap HK.out.res 0
   have hs4:w.heap.size+1<wr.heap.size:=(Array.getElem?_eq_some_iff.1 HK.out.res).1
   have HFin:Hid (OwD (wr.setCell ⟨w.heap.size+1,0,none⟩ (.slice (some ⟨g,0,none⟩) k cg)) w.heap.size g cg k D G C'∧Below w.heap.size w (wr.setCell ⟨w.heap.size+1,0,none⟩ (.slice (some ⟨g,0,none⟩) k cg))):=by
    refine ⟨hAll.keep fun b cs e hb hg he=>setCell_off _ _ _ _ _ fun e2=>?_,HK.out.low.setCell (by show _≤w.heap.size+1;omega) _⟩
    rw [e2,HK.out.res] at hg
    simp only [Option.some.injEq,Obj.cells.injEq] at hg
    rcases he with rfl | rfl
    ·exact absurd hg.2.1 (by decide)
    ·exact absurd hg.2.1 (by decide)
   clear hAll HMc HR0
   go_wp2_with fail
   have hq:=World.cell?_setCell_same wr ⟨w.heap.size+1,0,none⟩ (.slice (some ⟨g,0,none⟩) k cg) c4
   refine bodyPost_ret (v:=.agg #[.slice (some ⟨g,0,none⟩) k cg]) (by simp [results,Tryz.results21,go_sem,hq]) rfl ⟨⟨g,cg,G,C',rfl,HFin.out.1⟩,HFin.out.2⟩
theorem OwD.dimsO {w:World} {B g cd n:Nat} {D:Nat→Dm} {G C:Nat→Nat} (h:OwD w B g cd n D G C):DimsO w B g n D G C:=by
 have hd:=h.dims
 obtain ⟨b1,-,-,-,-⟩:=ow_blk hd
 rw [←rowF_dc] at hd
 refine ⟨b1,?_,fun i hi=>?_⟩
 ·rcases hd.2 with ⟨h',_⟩ | ⟨g',cap',cur,h',hb,hg,hnc,hcm,hcs,ht⟩
  ·cases h'
  ·cases h'
   refine ⟨cur,hg,fun j hj=>?_⟩
   have:=rowF_get (dcV D (fun i=>some ⟨G i,0,none⟩) C) hj
   rw [←ht,List.getElem?_take,if_pos (by omega),Array.getElem?_toList] at this
   exact this
 ·have hm:=h.mems i hi
  obtain ⟨m1,-,m3,-,-⟩:=ow_blk hm
  rw [←rowF_mc] at hm
  rcases hm.2 with ⟨h',_⟩ | ⟨g',cap',cur,h',hb,hg,hnc,hcm,hcs,ht⟩
  ·cases h'
  ·cases h'
   refine ⟨m1,m3,cur,_,hg,fun j hj=>?_⟩
   have:=rowF_get (mcV (D i).mem) hj
   rw [←ht,List.getElem?_take,if_pos (by omega),Array.getElem?_toList] at this
   exact this
theorem ofresh_any (A0:Option Addr) (cap n:Nat) (D:Nat→Dm) (A:Nat→Option Addr) (C:Nat→Nat) (w:World) (hE:(allErr D n).2.2=0) (hM:DimsV w A0 cap n D A C) :
  Calls Tryz.prog 21 #[.agg #[.slice A0 n cap]] w fun e w'=>(∃ g c G C',e=.returned (.agg #[.slice (some ⟨g,0,none⟩) n c])∧n≤c∧DimsO w' w.heap.size g n D G C')∧Below w.heap.size w w' :=
 (ofresh_own A0 cap n D A C w hE hM).mono fun _ _ ⟨⟨g,c,G,C',h1,h2⟩,h3⟩=>⟨⟨g,c,G,C',h1,(ow_blk h2.dims).2.2.1,h2.dimsO⟩,h3⟩
end Go.Proofs.YtfgegmpoejilnaaGreatDoor
