/-
  Formulas as trees, on plain data: their nodes one behind the other, their words; a builder that takes the words of a tree comes to its nodes.
-/
import Derived.Sort.Walk0
import Derived.Laws.OwnMore
import Derived.Test.YtfgegmpoejilnaaGreatDoorJGAQ
namespace Go.Proofs.YtfgegmpoejilnaaGreatDoor
inductive Tre where
 | num (n:Int)
 | ref (s:ByteArray)
 | bin (o:Int) (a b:Tre)
def trF (l:List Nd):Nat→Nat→Tre
 | 0,_=>.num 0
 | f+1,i=>if (l.getD i noN).op=1 then .num (l.getD i noN).n else if (l.getD i noN).op=2 then .ref (l.getD i noN).name else .bin (l.getD i noN).op (trF l f (l.getD i noN).left.toNat) (trF l f (l.getD i noN).right.toNat)
def treeOf (l:List Nd) (i:Nat):Tre:=trF l (i+1) i
def RightL (l:List Nd):Prop := ∀ j,j<l.length→ndErr (l.getD j noN) j=0
theorem op_range {x:Nd} {i:Nat} (h:ndErr x i=0):1≤x.op∧x.op≤6:=by
 unfold ndErr at h
 split at h
 ·cases h
 ·omega
theorem trF_fuel {l:List Nd} (hl:RightL l):∀ (f g i:Nat),i<l.length→i<f→i<g→trF l f i=trF l g i
 | 0,_,_,_,h,_=>by omega
 | _+1,0,_,_,_,h=>by omega
 | f+1,g+1,i,hi,hf,hg=>by
  rw [trF,trF]
  by_cases h1:(l.getD i noN).op=1
  ·rw [if_pos h1,if_pos h1]
  rw [if_neg h1,if_neg h1]
  by_cases h2:(l.getD i noN).op=2
  ·rw [if_pos h2,if_pos h2]
  rw [if_neg h2,if_neg h2]
  have ho:=op_range (hl i hi)
  obtain ⟨a1,a2,a3,a4⟩:=nd_sides (hl i hi) (by omega)
  rw [trF_fuel hl f g _ (by omega) (by omega) (by omega),trF_fuel hl f g (l.getD i noN).right.toNat (by omega) (by omega) (by omega)]
section
variable {l:List Nd} {i:Nat}
theorem tree_num (h:(l.getD i noN).op=1):treeOf l i=.num (l.getD i noN).n:=by unfold treeOf;rw [trF,if_pos h]
theorem tree_ref (h:(l.getD i noN).op=2):treeOf l i=.ref (l.getD i noN).name:=by unfold treeOf;rw [trF,if_neg (by omega),if_pos h]
theorem tree_bin (hl:RightL l) (hi:i<l.length) (h:2<(l.getD i noN).op):treeOf l i=.bin (l.getD i noN).op (treeOf l (l.getD i noN).left.toNat) (treeOf l (l.getD i noN).right.toNat):=by
 obtain ⟨a1,a2,a3,a4⟩:=nd_sides (hl i hi) h
 unfold treeOf
 rw [trF,if_neg (by omega),if_neg (by omega),trF_fuel hl i _ _ (by omega) (by omega) (Nat.lt_succ_self _),trF_fuel hl i _ (l.getD i noN).right.toNat (by omega) (by omega) (Nat.lt_succ_self _)]
end
def noS:ByteArray:=⟨#[]⟩
def okC (c:Int×Int):Prop:=good c.1 c.2=true
theorem okC_no:okC noC:=rfl
theorem okC_ofP (n:Int):okC (ofP n):=by
 unfold okC ofP good
 split
 ·rename_i h;simp [h.1,h.2]
 ·simp
theorem okC_quo (x y:Int):okC (quoP x y):=by
 unfold quoP
 split
 ·rfl
 ·exact okC_ofP _
theorem okC_join (b:Bool) (ka kb:Int) {r:Int×Int} (h:okC r):okC (joinP b ka kb r):=by
 unfold joinP
 split
 ·rfl
 ·split
  ·rfl
  ·exact h
def opP (o:Int) (a b:Int×Int):Int×Int:=if o=3 then plusP a.1 a.2 b.1 b.2 else if o=4 then minusP a.1 a.2 b.1 b.2 else if o=5 then timesP a.1 a.2 b.1 b.2 else overP a.1 a.2 b.1 b.2
theorem opP_ok (o:Int) (a b:Int×Int):okC (opP o a b):=by
 unfold opP
 split
 ·exact okC_join _ _ _ (okC_ofP _)
 ·split
  ·exact okC_join _ _ _ (okC_ofP _)
  ·split
   ·exact okC_join _ _ _ (okC_ofP _)
   ·exact okC_join _ _ _ (okC_quo _ _)
def isS (N:List ByteArray) (s:ByteArray) (i:Nat):Bool:=decide (N.getD i noS=s)
def whereS (N:List ByteArray) (s:ByteArray):Int:=findFrom (isS N s) N.length 0
theorem where_cases (N:List ByteArray) (s:ByteArray):(whereS N s = -1∧∀ j,j<N.length→N.getD j noS≠s)∨∃ i:Nat,whereS N s=(i:Int)∧i<N.length∧N.getD i noS=s:=by
 unfold whereS
 rcases findFrom_cases (isS N s) N.length 0 with ⟨h1,h2⟩ | ⟨m,h1,h2,h3,h4,h5⟩
 ·left
  refine ⟨h1,fun j hj=>?_⟩
  have:=h2 j (Nat.zero_le _) (by omega)
  simpa [isS] using this
 ·right
  exact ⟨m,h1,by omega,of_decide_eq_true h4⟩
def downS (N:List ByteArray) (i:Nat):Bool:=Op.bytesLess (N.getD i noS).toList (N.getD (i-1) noS).toList || (N.getD i noS).toList == (N.getD (i-1) noS).toList
def ckErr (N:List ByteArray) (C:List (Int×Int)):Int:=if C.length≠N.length then 3 else if 0≤findFrom (goodB C) C.length 0 then 1 else if 0≤findFrom (downS N) (N.length-1) 1 then 7 else 0
theorem ck_shape {N:List ByteArray} {C:List (Int×Int)} (h:C.length≠N.length):ckErr N C=3:=by unfold ckErr;rw [if_pos h]
theorem ck_cell {N:List ByteArray} {C:List (Int×Int)} (h:C.length=N.length) {i:Nat} (hi:i<C.length) (hb:goodB C i=true):ckErr N C=1:=by
 unfold ckErr
 rw [if_neg (by simpa using h)]
 rcases findFrom_cases (goodB C) C.length 0 with ⟨_,h5⟩ | ⟨m,e,_⟩
 ·rw [h5 i (Nat.zero_le _) (by omega)] at hb;cases hb
 ·rw [e,if_pos (by omega)]
theorem ck_down {N:List ByteArray} {C:List (Int×Int)} (h:C.length=N.length) (hg:∀ j,j<C.length→goodB C j=false) {i:Nat} (h1:1≤i) (hi:i<N.length) (hb:downS N i=true):ckErr N C=7:=by
 unfold ckErr
 rw [if_neg (by simpa using h),findFrom_none (fun j _ hj=>hg j (by omega)),if_neg (by omega)]
 rcases findFrom_cases (downS N) (N.length-1) 1 with ⟨_,h5⟩ | ⟨m,e,_⟩
 ·rw [h5 i h1 (by omega)] at hb;cases hb
 ·rw [e,if_pos (by omega)]
theorem ck_good {N:List ByteArray} {C:List (Int×Int)} (h:C.length=N.length) (hg:∀ j,j<C.length→goodB C j=false) (hd:∀ j,1≤j→j<N.length→downS N j=false):ckErr N C=0:=by
 unfold ckErr
 rw [if_neg (by simpa using h),findFrom_none (fun j _ hj=>hg j (by omega)),if_neg (by omega),findFrom_none (fun j h1 hj=>hd j h1 (by omega)),if_neg (by omega)]
theorem ck_right {N:List ByteArray} {C:List (Int×Int)} (h:ckErr N C=0):C.length=N.length∧(∀ j,j<C.length→goodB C j=false)∧∀ j,1≤j→j<N.length→downS N j=false:=by
 by_cases h1:C.length=N.length
 ·refine ⟨h1,?_⟩
  by_cases h2:∀ j,j<C.length→goodB C j=false
  ·refine ⟨h2,fun j hj1 hj=>?_⟩
   cases hd:downS N j
   ·rfl
   ·rw [ck_down h1 h2 hj1 hj hd] at h;cases h
  ·exfalso
   apply h2
   intro j hj
   cases hd:goodB C j
   ·rfl
   ·rw [ck_cell h1 hj hd] at h;cases h
 ·rw [ck_shape h1] at h;cases h
theorem ck_ok {N:List ByteArray} {C:List (Int×Int)} (h:ckErr N C=0):∀ c∈C,okC c:=by
 intro c hc
 obtain ⟨j,hj,rfl⟩:=List.getElem_of_mem hc
 have:=(ck_right h).2.1 j hj
 unfold goodB at this
 rw [List.getD_eq_getElem?_getD,List.getElem?_eq_getElem hj] at this
 simpa [okC] using this
/-! names that rise -/
theorem down_not {N:List ByteArray} {i:Nat} (h:downS N i=false):(N.getD (i-1) noS).toList<(N.getD i noS).toList:=by
 unfold downS at h
 rw [Bool.or_eq_false_iff,bytesLess_eq] at h
 have h1:=of_decide_eq_false h.1
 have h2:(N.getD i noS).toList≠(N.getD (i-1) noS).toList:=by simpa using h.2
 rcases Std.lt_trichotomy (N.getD i noS).toList (N.getD (i-1) noS).toList with h3 | h3 | h3
 ·exact absurd h3 h1
 ·exact absurd h3 h2
 ·exact h3
theorem rise_all {N:List ByteArray} (h:∀ j,1≤j→j<N.length→downS N j=false):∀ i j,i<j→j<N.length→(N.getD i noS).toList<(N.getD j noS).toList:=by
 intro i j hij
 induction j with
 | zero=>omega
 | succ j ih =>
  intro hj
  have h1:=down_not (h (j+1) (by omega) hj)
  by_cases e:i=j
  ·subst e;exact h1
  ·exact List.lt_trans (ih (by omega) (by omega)) h1
section
variable (N:List ByteArray) (C:List (Int×Int))
def refC (s:ByteArray):Int×Int:=C.getD (whereS N s).toNat noC
def valT:Tre→Int×Int
 | .num n=>ofP n
 | .ref s=>refC N C s
 | .bin o a b=>opP o (valT a) (valT b)
end
def refsT:Tre→List ByteArray
 | .num _=>[]
 | .ref s=>[s]
 | .bin _ a b=>refsT a ++ refsT b
def missT (N:List ByteArray) (t:Tre):Bool:=(refsT t).any fun s=>decide (whereS N s<0)
theorem val_ok (N:List ByteArray) {C:List (Int×Int)} (hC:∀ c∈C,okC c):∀ t:Tre,okC (valT N C t)
 | .num n=>okC_ofP n
 | .ref s=>by
  rw [valT,refC,List.getD_eq_getElem?_getD]
  cases h:C[(whereS N s).toNat]? with
  | none=>exact okC_no
  | some c=>exact hC c (List.mem_of_getElem? h)
 | .bin o a b=>opP_ok o _ _
/-! the names of a tree are those of the nodes -/
theorem refs_down {l:List Nd} (hl:RightL l) (s:ByteArray):∀ i,i<l.length→s∈refsT (treeOf l i)→∃ j,j<l.length∧(l.getD j noN).op=2∧(l.getD j noN).name=s:=by
 intro i
 induction i using Nat.strongRecOn with
 | _ i ih =>
  intro hi hs
  have ho:=op_range (hl i hi)
  by_cases h1:(l.getD i noN).op=1
  ·rw [tree_num h1] at hs;cases hs
  by_cases h2:(l.getD i noN).op=2
  ·rw [tree_ref h2,refsT,List.mem_singleton] at hs
   exact ⟨i,hi,h2,hs.symm⟩
  ·obtain ⟨a1,a2,a3,a4⟩:=nd_sides (hl i hi) (by omega)
   rw [tree_bin hl hi (by omega),refsT,List.mem_append] at hs
   rcases hs with hs | hs
   ·exact ih _ (by omega) (by omega) hs
   ·exact ih _ (by omega) (by omega) hs
theorem used_who {l:List Nd} (j:Nat):∀ k,1≤usedTo l k j→∃ i,i<k∧1≤uses (l.getD i noN) j
 | 0,h=>by cases h
 | k+1,h=>by
  by_cases h1:1≤uses (l.getD k noN) j
  ·exact ⟨k,Nat.lt_succ_self _,h1⟩
  ·have h2:1≤usedTo l k j+uses (l.getD k noN) j:=h
   obtain ⟨i,hi,h3⟩:=used_who (l:=l) j k (by omega)
   exact ⟨i,by omega,h3⟩
theorem refs_up {l:List Nd} (h:formErr l=0) (s:ByteArray):∀ n j,l.length-j=n→j<l.length→s∈refsT (treeOf l j)→s∈refsT (treeOf l (l.length-1)):=by
 obtain ⟨h1,h2,hl,h4⟩:=form_right h
 intro n
 induction n using Nat.strongRecOn with
 | _ n ih =>
  intro j hn hj hs
  by_cases e:j=l.length-1
  ·rw [←e];exact hs
  obtain ⟨i,hi,hu⟩:=used_who (l:=l) j l.length (by rw [h4 j (by omega)];exact Nat.le_refl _)
  unfold uses at hu
  split at hu
  ·rename_i hop
   obtain ⟨a1,a2,a3,a4⟩:=nd_sides (hl i hi) hop
   have hsi:s∈refsT (treeOf l i):=by
    rw [tree_bin hl hi hop,refsT,List.mem_append]
    by_cases e1:(l.getD i noN).left=(j:Int)
    ·left;rw [e1];exact hs
    ·by_cases e2:(l.getD i noN).right=(j:Int)
     ·right;rw [e2];exact hs
     ·rw [if_neg e1,if_neg e2] at hu;omega
   have hij:j<i:=by
    by_cases e1:(l.getD i noN).left=(j:Int)
    ·omega
    ·by_cases e2:(l.getD i noN).right=(j:Int)
     ·omega
     ·rw [if_neg e1,if_neg e2] at hu;omega
   exact ih (l.length-i) (by omega) i rfl hi hsi
  ·omega
theorem refs_mem {l:List Nd} (h:formErr l=0) (s:ByteArray):s∈refsT (treeOf l (l.length-1))↔∃ j,j<l.length∧(l.getD j noN).op=2∧(l.getD j noN).name=s:=by
 obtain ⟨h1,h2,hl,h4⟩:=form_right h
 refine ⟨refs_down hl s _ (by omega),fun ⟨j,hj,h2,h3⟩=>?_⟩
 refine refs_up h s _ j rfl hj ?_
 rw [tree_ref h2,h3,refsT]
 exact List.mem_singleton.2 rfl
def missR (N:List ByteArray) (l:List Nd) (i:Nat):Bool:=decide ((l.getD i noN).op=2) && decide (whereS N (l.getD i noN).name<0)
theorem miss_yes {N:List ByteArray} {l:List Nd} (h:formErr l=0) {i:Nat} (hi:i<l.length) (hm:missR N l i=true):missT N (treeOf l (l.length-1))=true:=by
 simp only [missR,Bool.and_eq_true,decide_eq_true_eq] at hm
 unfold missT
 rw [List.any_eq_true]
 exact ⟨_,(refs_mem h _).2 ⟨i,hi,hm.1,rfl⟩,decide_eq_true hm.2⟩
theorem miss_no {N:List ByteArray} {l:List Nd} (h:formErr l=0) (hm:∀ i,i<l.length→missR N l i=false):missT N (treeOf l (l.length-1))=false:=by
 rw [Bool.eq_false_iff]
 intro e
 unfold missT at e
 rw [List.any_eq_true] at e
 obtain ⟨s,h1,h2⟩:=e
 obtain ⟨j,hj,h3,h4⟩:=(refs_mem h s).1 h1
 have:=hm j hj
 unfold missR at this
 rw [h4,h3] at this
 simp at this h2
 omega
def valE (l:List Nd) (N:List ByteArray) (C:List (Int×Int)):Int:=if formErr l≠0 then formErr l else if ckErr N C≠0 then ckErr N C else if missT N (treeOf l (l.length-1))=true then 5 else 0
def valC (l:List Nd) (N:List ByteArray) (C:List (Int×Int)):Int×Int:=if valE l N C=0 then valT N C (treeOf l (l.length-1)) else noC
end Go.Proofs.YtfgegmpoejilnaaGreatDoor
namespace Go.Proofs.YtfgegmpoejilnaaGreatDoor
open Go.ChangeShapes Go.WideShapes Go.ChangeAt Go.RowKit
open Go.Sort (putRow Holds grow holds_putRow)
set_option maxRecDepth 20000
def NdsT (w:World) (A:Option Addr) (c:Nat) (L:List Nd):Prop:=NdsV w A c L∧(L=[]∨∃ b o cs fr,A=some ⟨b,o,none⟩∧w.heap[b]?=some (.cells cs 212 fr))
theorem NdsT.nil (w:World) (A:Option Addr) (c:Nat) (h:c≤9223372036854775807):NdsT w A c []:=⟨NdsV.nil w A c h,Or.inl rfl⟩
theorem NdsT.keep {w w':World} {A:Option Addr} {c:Nat} {L:List Nd} (h:NdsT w A c L) (hB:∀ (b:Nat) (cs:Array Value) (fr:Nat×Nat),w.heap[b]?=some (Obj.cells cs 212 fr)→w'.heap[b]?=w.heap[b]?):NdsT w' A c L:=by
 obtain ⟨⟨h1,h2,h3⟩,h4⟩:=h
 rcases h4 with h4 | ⟨b,o,cs,fr,hA,hb⟩
 ·exact ⟨⟨h1,h2,Or.inl h4⟩,Or.inl h4⟩
 ·have he:=hB b cs fr hb
  refine ⟨⟨h1,h2,?_⟩,Or.inr ⟨b,o,cs,fr,hA,he.trans hb⟩⟩
  rcases h3 with h3 | ⟨b',o',hA',h5,h6⟩
  ·exact Or.inl h3
  ·rw [hA] at hA'
   cases hA'
   refine Or.inr ⟨b,o,hA,(Array.getElem?_eq_some_iff.1 (he.trans hb)).1,fun k hk=>?_⟩
   obtain ⟨x0,x1,x2,x3,x4⟩:=h6 k hk
   exact ⟨(World.cell?_of_block (a:=⟨b,_,none⟩) he).trans x0,(World.cell?_of_block (a:=⟨b,_,none⟩) he).trans x1,(World.cell?_of_block (a:=⟨b,_,none⟩) he).trans x2,(World.cell?_of_block (a:=⟨b,_,none⟩) he).trans x3,(World.cell?_of_block (a:=⟨b,_,none⟩) he).trans x4⟩
theorem NdsT.later {w w':World} {A:Option Addr} {c:Nat} {L:List Nd} (h:NdsT w A c L) (hB:Below w.heap.size w w'):NdsT w' A c L :=
 h.keep fun b _ _ hb=>hB.block b (Array.getElem?_eq_some_iff.1 hb).1
theorem ndsT_of {w:World} {N:Nat} {A:Option Addr} {c:Nat} {l:List Nd} (h:w.ownsRow N 212 5 (.slice A l.length c) l.length (cellsN l)):NdsT w A c l:=by
 refine ⟨nds_of h,?_⟩
 rcases h.2 with ⟨h0,h1⟩ | ⟨g,cap,cur,h0,hb,hg,-⟩
 ·exact Or.inl (List.eq_nil_of_length_eq_zero h1)
 ·cases h0
  exact Or.inr ⟨g,0,_,_,rfl,hg⟩
def StrT (w:World) (A:Option Addr) (c:Nat) (L:List (List UInt8)):Prop:=StrsV w A c L∧(L=[]∨∃ b o cs fr,A=some ⟨b,o,none⟩∧w.heap[b]?=some (.cells cs 9 fr))
theorem StrT.nil (w:World) (A:Option Addr) (c:Nat) (h:c≤9223372036854775807):StrT w A c []:=⟨StrsV.nil w A c h,Or.inl rfl⟩
theorem StrT.keep {w w':World} {A:Option Addr} {c:Nat} {L:List (List UInt8)} (h:StrT w A c L) (hB:∀ (b:Nat) (cs:Array Value) (fr:Nat×Nat),w.heap[b]?=some (Obj.cells cs 9 fr)→w'.heap[b]?=w.heap[b]?):StrT w' A c L:=by
 obtain ⟨⟨h1,h2,h3⟩,h4⟩:=h
 rcases h4 with h4 | ⟨b,o,cs,fr,hA,hb⟩
 ·exact ⟨⟨h1,h2,Or.inl h4⟩,Or.inl h4⟩
 ·have he:=hB b cs fr hb
  refine ⟨⟨h1,h2,?_⟩,Or.inr ⟨b,o,cs,fr,hA,he.trans hb⟩⟩
  rcases h3 with h3 | ⟨b',o',hA',h5,h6⟩
  ·exact Or.inl h3
  ·rw [hA] at hA'
   cases hA'
   exact Or.inr ⟨b,o,hA,(Array.getElem?_eq_some_iff.1 (he.trans hb)).1,fun k hk=>(World.cell?_of_block (a:=⟨b,_,none⟩) he).trans (h6 k hk)⟩
theorem StrT.later {w w':World} {A:Option Addr} {c:Nat} {L:List (List UInt8)} (h:StrT w A c L) (hB:Below w.heap.size w w'):StrT w' A c L :=
 h.keep fun b _ _ hb=>hB.block b (Array.getElem?_eq_some_iff.1 hb).1
theorem put_ty {w:World} {g n:Nat} {d:Array (List UInt8)} {cs:Array Value} {T:Nat} {fr:Nat×Nat} (h:w.heap[g]?=some (.cells cs T fr)):∃ cs' fr',(putRow encStr (Sort.ahead w n) g 0 d).heap[g]?=some (.cells cs' T fr'):=by
 unfold putRow Sort.mapBlock
 have h':(Sort.ahead w n).heap[g]?=some (.cells cs T fr):=h
 simp only [Array.getElem?_modify,if_true,h',Option.map_some]
 exact ⟨_,_,rfl⟩
theorem grown_ty {w:World} {g T:Nat} {os:Array Obj} (h:∃ cs fr,w.heap[g]?=some (.cells cs T fr)):∃ cs fr,(grow w os).heap[g]?=some (.cells cs T fr):=by
 obtain ⟨cs,fr,h⟩:=h
 exact ⟨cs,fr,by rw [Sort.heap_grow_old _ _ (Array.getElem?_eq_some_iff.1 h).1];exact h⟩
set_option maxHeartbeats 1000000 in
theorem ball_typ (N p:Nat) (b:Bld) (w:World) (hN:N≤w.heap.size) (h1:b.nodes.length+opsN b.waiting≤200) (h2:b.ready.length≤200) (h3:opsN b.waiting+1≤b.ready.length) (h4:b.waiting.length≤200) (hB:BldAt N p b w) :
  Calls Tryz.prog 185 #[.pointer (some ⟨p,0,none⟩)] w fun e w'=>(∃ A c,e=.returned (.slice A (settleB 0 b).nodes.length c)∧NdsT w' A c (settleB 0 b).nodes)∧Kept N (fun k=>k=p) w w':=by
 have h:=settle_any N p b 0 w hN h1 h2 h3 h4 hB
 generalize settleB 0 b=b1 at *
 clear hB
 go_enter Tryz.func185,Tryz.ntmps185
 go_wp2_with fail
 refine h.mono ?_
 rintro e w1 ⟨rfl,⟨AN,cN,AR,cR,AW,cW,hV⟩,hK⟩
 have c0:=hV.c0
 have HN:Hid (NdsT w1 AN cN b1.nodes):=ndsT_of hV.nod
 have HK:Hid (Kept N (fun k=>k=p) w w1):=hK
 clear hV hK h
 go_wp2_with fail
 go_ret
 exact ⟨⟨_,_,rfl,HN.out⟩,HK.out⟩
set_option maxHeartbeats 4000000 in
theorem fparse_typ (s:ByteArray) (w:World) (h100:s.size≤100):Calls Tryz.prog 146 #[.string s] w fun e w'=>(∃ A c,e=.returned (.tuple #[.slice A (prsL s).length c,.int .i64 (prsA s:Int),errV (prsE s)])∧NdsT w' A c (prsL s))∧Below w.heap.size w w':=by
 have hmf:∀ (fn:Fn) (first cap:Array Value) (w:World),(Instr.makeFunc fn first cap).run Tryz.prog w=.ok (.func fn first cap) w:=fun _ _ _ _=>rfl
 have h100':(s.size:Int)≤100:=by omega
 have HAt:Hid ((goneB s).1.at'≤s.size):=all_in _ (Nat.zero_le _)
 have hrd:=fread_any (tkB (w.heap.size+4) w.heap.size) (tkB_ok _ _) s noB (newB w) (by show s.size≤100;exact h100) (by rw [newB_size];rfl) (by rw [newB_size];exact Nat.lt_succ_self _) (newB_at w) fit_new (goneB s) rfl
 have HB:Hid (Below w.heap.size w (newB w)):=newB_below w
 obtain ⟨W,hW⟩:∃ W,newB w=W:=⟨_,rfl⟩
 have HZ:Hid ((newB w).heap.size=w.heap.size+1):=newB_size w
 rw [hW] at hrd HB HZ
 unfold newB at hW
 have hfv:(tkB (w.heap.size+4) w.heap.size).fv=.func (.func 182) #[.pointer (some ⟨w.heap.size,0,none⟩)] #[]:=rfl
 rw [hfv] at hrd
 have HI:Hid (∀ st w',(tkB (w.heap.size+4) w.heap.size).I st w'→BldAt (w.heap.size+4) w.heap.size st w'):=fun _ _ h=>h
 have HG:Hid (∀ a o ph st,(tkB (w.heap.size+4) w.heap.size).G a o ph st→FitB a o ph st):=fun _ _ _ _ h=>h
 have HP:Hid ((tkB (w.heap.size+4) w.heap.size).p=w.heap.size∧(tkB (w.heap.size+4) w.heap.size).N=w.heap.size+4):=⟨rfl,rfl⟩
 generalize tkB (w.heap.size+4) w.heap.size=T at *
 cases hx:(goneB s).2
 ·have hE:prsE s=2:=by unfold prsE;rw [if_neg (by omega),if_neg (by rw [hx];decide)]
  have hA:prsA s=(goneB s).1.at':=by unfold prsA;rw [if_neg (by omega),if_neg (by rw [hx];decide)]
  have hL:prsL s=[]:=by unfold prsL;rw [if_neg (by rw [hE];decide)]
  rw [hE,hA,hL,errV_some (by decide)]
  have HX:Hid ((goneB s).2=false):=hx
  clear hE hA hL hx
  go_enter Tryz.func146,Tryz.ntmps146
  go_wp2_with fail
  refine hrd.mono ?_
  rintro e w1 ⟨⟨hk,-⟩,⟨h1,-⟩ | ⟨-,rfl⟩⟩
  ·exact absurd (HX.out.symm.trans h1) (by decide)
  have HB1:Hid (Below w.heap.size w w1):=below_of_kept HB.out hk (by rw [HP.out.1];exact Nat.le_refl _)
  rw [errV_some (by decide)]
  clear hk hrd
  go_wp2_with fail
  go_returns
  exact ⟨⟨none,0,rfl,NdsT.nil _ _ _ (by omega)⟩,HB1.out⟩
 ·have hE:prsE s=formErr (nodesP s):=by unfold prsE;rw [if_neg (by omega),if_pos hx]
  have hA:prsA s=0:=by unfold prsA;rw [if_neg (by omega),if_pos hx]
  have HX:Hid ((goneB s).2=true):=hx
  have HE:Hid (prsE s=formErr (nodesP s)):=hE
  have HLd:Hid (prsL s=if prsE s=0 then nodesP s else []):=rfl
  have HNd:Hid (nodesP s=(settleB 0 (goneB s).1.st).nodes):=rfl
  rw [hE,hA]
  clear hE hA hx
  go_enter Tryz.func146,Tryz.ntmps146
  go_wp2_with fail
  refine hrd.mono ?_
  rintro e w1 ⟨⟨hk,hz1⟩,⟨-,rfl,hI,hG⟩ | ⟨h1,-⟩⟩
  case inr=>exact absurd (HX.out.symm.trans h1) (by decide)
  have HB1:Hid (Below w.heap.size w w1):=below_of_kept HB.out hk (by rw [HP.out.1];exact Nat.le_refl _)
  obtain ⟨f1,f2,f3,f4,f5⟩:=HG.out _ _ _ _ hG
  simp only [if_true] at f2
  rw [HP.out.2] at hz1
  have hat:(goneB s).1.at'≤200:=by have:=HAt.out;omega
  have hal:=ball_typ (w.heap.size+4) w.heap.size (goneB s).1.st w1 hz1 (by omega) (by omega) f2 (by omega) (HI.out _ _ hI)
  clear hk hrd hI hG f1 f2 f3 f4 f5
  rw [←HNd.out] at hal
  obtain ⟨L,hLn⟩:∃ L,nodesP s=L:=⟨_,rfl⟩
  have HLn:Hid (nodesP s=L):=hLn
  rw [hLn] at hal HE HLd
  clear hLn
  go_wp2_with fail
  refine hal.mono ?_
  rintro e w2 ⟨⟨A,c,rfl,hN2⟩,hk2⟩
  have HB2:Hid (Below w.heap.size w w2):=⟨hk2.os.trans HB1.out.os,hk2.tape.trans HB1.out.tape,hk2.output.trans HB1.out.output,Nat.le_trans HB1.out.size hk2.size,fun k hk'=>by rw [hk2.block k (by omega) (by omega)];exact HB1.out.block k hk'⟩
  have HN2:Hid (NdsT w2 A c L):=hN2
  have hck:=fchk_any A c L w2 hN2.1
  clear hk2 hN2 hal
  by_cases h0:formErr L=0
  ·have HL:Hid (prsL s=L):=by show _=_;rw [HLd.out,HE.out,if_pos h0]
   rw [h0,errV_zero] at hck
   have HF:Hid (formErr L=0):=h0
   clear h0
   go_wp2_with fail
   refine hck.mono ?_
   rintro e w3 ⟨rfl,hb3⟩
   have HB3:Hid (Below w.heap.size w w3):=onB HB2.out hb3
   have HN3:Hid (NdsT w3 A c L):=HN2.out.later hb3
   clear hb3 hck
   go_wp2_with fail
   go_returns
   exact ⟨⟨A,c,by rw [HL.out,HLn.out,HF.out];rfl,by rw [HL.out];exact HN3.out⟩,HB3.out⟩
  ·have HL:Hid (prsL s=[]):=by show _=_;rw [HLd.out,HE.out,if_neg h0]
   rw [errV_some h0] at hck
   have HF:Hid (errV (formErr L)=.iface 95 (.int .i64 (formErr L))):=errV_some h0
   clear h0
   go_wp2_with fail
   refine hck.mono ?_
   rintro e w3 ⟨rfl,hb3⟩
   have HB3:Hid (Below w.heap.size w w3):=onB HB2.out hb3
   clear hb3 hck
   go_wp2_with fail
   go_returns
   exact ⟨⟨none,0,by rw [HL.out,HLn.out,HF.out];rfl,by rw [HL.out];exact NdsT.nil _ _ _ (by omega)⟩,HB3.out⟩
set_option maxHeartbeats 4000000 in
theorem frefs_typ (A:Option Addr) (cap:Nat) (l:List Nd) (w:World) (hN:NdsV w A cap l):Calls Tryz.prog 147 #[.slice A l.length cap] w fun e w'=>(∃ A' c',e=.returned (.tuple #[.slice A' (refsP l).length c',errV (formErr l)])∧StrT w' A' c' (refsP l))∧Below w.heap.size w w':=by
 have hck:=fchk_any A cap l w hN
 obtain ⟨i0,hi0,hz0,hz1,hz2⟩:=info_parts Tryz.infoStrF
 by_cases h0:formErr l=0
 case neg =>
  have hP:refsP l=[]:=by unfold refsP;rw [if_neg h0]
  rw [hP]
  rw [errV_some h0] at hck ⊢
  clear h0 hP
  go_enter Tryz.func147,Tryz.ntmps147
  go_wp2_with fail
  refine hck.mono ?_
  rintro e w1 ⟨rfl,hb1⟩
  go_wp2_with fail
  go_returns
  exact ⟨⟨none,0,rfl,StrT.nil _ _ _ (by omega)⟩,hb1⟩
 obtain ⟨hl0,hl30,hg,-⟩:=form_right h0
 have hP:refsP l=Lib.compact ((nmsTo l l.length).mergeSort fun x y=>decide (x≤y)):=by unfold refsP;rw [if_pos h0]
 rw [h0,errV_zero] at hck ⊢
 obtain ⟨-,-,h1 | ⟨b,o,rfl,hN⟩⟩:=hN
 ·rw [h1] at hl0;simp at hl0
 have HG:Hid (∀ j,j<l.length→ndErr (l.getD j noN) j=0):=hg
 have HN:Hid (NdsAt w b o l):=hN
 have HP:Hid (refsP l=Lib.compact ((nmsTo l l.length).mergeSort fun x y=>decide (x≤y))):=hP
 obtain ⟨n,hn⟩:∃ n,l.length=n:=⟨_,rfl⟩
 have HL:Hid (l.length=n):=hn
 rw [hn] at hck ⊢
 have hni:(n:Int)≤30:=by omega
 clear h0 hP hg hN
 go_enter Tryz.func147,Tryz.ntmps147
 go_wp2_with fail
 refine hck.mono ?_
 rintro e w1 ⟨rfl,hb1⟩
 have HB1:Hid (Below w.heap.size w w1):=hb1
 clear hb1 hck
 go_wp2_with fail
 go_loopg [5,15] n (fun g s5 s15 wr => ∃ (k:Nat) (v:Value),k≤n∧g=n-k∧s15=.int .i64 k∧v=s5∧wr.ownsRow w.heap.size 9 1 v (nmsTo l k).length ((nmsTo l k).map encStr)∧Below w.heap.size w wr)
 case atStart=>exact ⟨0,_,Nat.zero_le _,rfl,rfl,rfl,World.ownsRow_nil _ _ _ _,HB1.out⟩
 case round =>
  obtain ⟨k,v,hk,rfl,rfl,rfl,hO,hBw⟩:=hrel
  have HO:Hid (wr.ownsRow w.heap.size 9 1 v (nmsTo l k).length ((nmsTo l k).map encStr)):=hO
  have HW:Hid (Below w.heap.size w wr):=hBw
  have hln:=nms_len l k
  clear hO hBw
  by_cases hlt:k<n
  ·have hki:(k:Int)<(n:Int):=by omega
   obtain ⟨x0,x1,x2,x3,x4⟩:=(HN.out.later HW.out).nd (k:=k) (by omega)
   have hbl:b<w.heap.size:=HN.out.1
   have hsz:=HW.out.size
   have hgk:=HG.out k (by omega)
   obtain ⟨x,hx⟩:∃ x,l.getD k noN=x:=⟨_,rfl⟩
   have HX:Hid (l.getD k noN=x):=hx
   rw [hx] at x0 x1 x2 x3 x4 hgk
   clear hx
   obtain ⟨m,hm⟩:∃ m,(nmsTo l k).length=m:=⟨_,rfl⟩
   by_cases h2:x.op=2
   ·have HT:Hid (nmsTo l (k+1)=nmsTo l k ++ [x.name.data.toList]):=nms_hit (by omega) HX.out h2
    have hnm:nameErr x.name=0:=by
     unfold ndErr at hgk
     rw [if_neg (by omega),if_neg (by omega),if_pos h2] at hgk
     split at hgk
     ·cases hgk
     ·rename_i h;simpa using h
    have hns:x.name.size≤8:=by
     unfold nameErr at hnm
     split at hnm
     ·cases hnm
     ·omega
    have hcl:=fun w=>sclone_any x.name w (by omega)
    rw [h2] at x0
    rw [hm] at HO
    clear hgk hnm
    go_wp2_with fail
    refine (hcl _).mono ?_
    rintro e w2 ⟨rfl,hb2⟩
    have HB2:Hid (Below w.heap.size w w2):=onB HW.out (onB (by go_grown) hb2)
    have hO2:=own_later HO.out (onB (by go_grown) hb2)
    have hsz2:=HB2.out.size
    clear hb2 hcl
    go_wp2_with (at_builtin;refine wpList_append_own _ rfl _ _ 128 rfl w.heap.size 9 i0 (.string ⟨#[]⟩) 1 16 Tryz.underlying128 hi0 hz0 hz1 hz2 rfl (by decide) _ _ _ rfl (hO2.alloc _) ⟨w2.heap.size,0,none⟩ 1 1 [.string x.name] rfl rfl one_cell (by intro u hu;simp at hu;subst hu;rfl) (by unfold maxLen;omega) (by omega) (by simp;omega) ?_)
    intro v' w3 hown' hgrow _
    have HB3:Hid (Below w.heap.size w w3):=grown_own HB2.out hO2 hgrow
    have HO3:Hid (w3.ownsRow w.heap.size 9 1 v' (nmsTo l (k+1)).length ((nmsTo l (k+1)).map encStr)):=by
     show World.ownsRow ..
     rw [HT.out,List.length_append,List.map_append,hm]
     exact hown'
    clear hown' hgrow hO2
    go_wp2_with fail
    go_roundg (n-(k+1))
    case measure=>omega
    case rel=>exact ⟨k+1,_,by omega,rfl,by go_num,rfl,HO3.out,HB3.out⟩
   ·have HT:Hid (nmsTo l (k+1)=nmsTo l k):=nms_miss (by omega) HX.out h2
    have e2:(x.op == 2)=false:=by simpa using h2
    clear hgk h2
    go_wp2_with fail
    go_roundg (n-(k+1))
    case measure=>omega
    case rel=>exact ⟨k+1,_,by omega,rfl,by go_num,rfl,by rw [HT.out];exact own_later HO.out (by go_grown),onB HW.out (by go_grown)⟩
  ·have hke:k=n:=by omega
   subst hke
   obtain ⟨zs,hzs⟩:∃ zs,nmsTo l k=zs:=⟨_,rfl⟩
   have HZ:Hid (refsP l=Lib.compact (zs.mergeSort fun x y=>decide (x≤y))):=by show _=_;rw [HP.out,HL.out,hzs]
   rw [hzs] at HO hln
   clear hzs
   by_cases hz:zs=[]
   ·subst hz
    have hv:v=.slice none 0 0∨∃ g c,v=.slice (some ⟨g,0,none⟩) 0 c∧c≤maxLen:=by
     rcases HO.out.2 with ⟨h,_⟩ | ⟨g,c,cur,h,_,_,_,hm,_⟩
     ·exact Or.inl h
     ·exact Or.inr ⟨g,c,h,hm⟩
    have HZ2:Hid (refsP l=[]):=by show _=_;rw [HZ.out,List.mergeSort_nil];rfl
    rcases hv with rfl | ⟨g,c,rfl,hcm⟩
    ·have hso:=Any.slices_Sort_string_none Tryz.lays190 none 0 wr
     have hco:=Any.slices_Compact_string_empty Tryz.lays194 none 0 wr
     clear HO
     go_wp2_with fail
     refine Calls.mono hso ?_
     rintro e w2 ⟨rfl,rfl⟩
     go_wp2_with fail
     refine Calls.mono hco ?_
     rintro e w3 ⟨rfl,rfl⟩
     go_wp2_with fail
     go_returns
     exact ⟨⟨none,0,by rw [HZ2.out];rfl,by rw [HZ2.out];exact StrT.nil _ _ _ (by omega)⟩,HW.out⟩
    ·have hso:=Any.slices_Sort_string_none Tryz.lays190 (some ⟨g,0,none⟩) c wr
     have hco:=Any.slices_Compact_string_empty Tryz.lays194 (some ⟨g,0,none⟩) c wr
     clear HO
     go_wp2_with fail
     refine Calls.mono hso ?_
     rintro e w2 ⟨rfl,rfl⟩
     go_wp2_with fail
     refine Calls.mono hco ?_
     rintro e w3 ⟨rfl,rfl⟩
     go_wp2_with fail
     go_returns
     exact ⟨⟨some ⟨g,0,none⟩,c,by rw [HZ2.out];rfl,by rw [HZ2.out];exact StrT.nil _ _ _ (by unfold maxLen at hcm;omega)⟩,HW.out⟩
   ·have hpos:0<zs.length:=List.length_pos_iff.2 hz
    obtain ⟨g,c,rfl,hgb,hgl,hnc,hcm,-,hH⟩:=Lib.holds_of_ownsRow HO.out (by intro e;have:=HO.out.2;rcases this with ⟨_,h⟩ | ⟨g,c,cur,h,_⟩;omega;rw [e] at h;cases h)
    have HTy:Hid (∃ cs fr,wr.heap[g]?=some (.cells cs 9 fr)):=by
     rcases HO.out.2 with ⟨h,-⟩ | ⟨g',c',cur,h,-,hg',-⟩
     ·cases h
     ·cases h;exact ⟨_,_,hg'⟩
    have hso:=Any.slices_Sort_string Tryz.lays190 g 0 c zs wr hH hgl (by omega)
    clear HO
    go_wp2_with fail
    refine Calls.mono hso ?_
    rintro e w2 ⟨rfl,q,os,hw2⟩
    obtain ⟨ys,hys⟩:∃ ys,(zs.mergeSort fun x y=>decide (x≤y))=ys:=⟨_,rfl⟩
    have hyl:ys.length=zs.length:=by rw [←hys];exact List.length_mergeSort zs
    rw [hys] at HZ hw2
    have HB2:Hid (Below w.heap.size w w2):=by rw [hw2];exact sorted_below HW.out hgb
    have hg2:g<w2.heap.size:=by rw [hw2];simp;omega
    have hH2:Holds encStr w2 g 0 ys.toArray:=by
     rw [hw2]
     exact Sort.holds_grow encStr _ _ _ _ _ (by simpa using hgl) (holds_putRow encStr (Sort.ahead wr q) g 0 zs.toArray _ hH (by simp [hyl]))
    have hco:=Any.slices_Compact_string Tryz.lays194 g 0 c ys w2 hH2 (by omega) (by omega)
    rw [hyl] at hco
    have HT2:Hid (∃ cs fr,w2.heap[g]?=some (.cells cs 9 fr)):=by
     obtain ⟨cs,fr,hty⟩:=HTy.out
     rw [hw2]
     exact grown_ty (put_ty (n:=q) hty)
    have HPk:Hid (∀ q2,StrsV (putRow encStr (Sort.ahead w2 q2) g 0 (Lib.compact ys ++ List.replicate (ys.length-(Lib.compact ys).length) []).toArray) (some ⟨g,0,none⟩) c (Lib.compact ys)):=fun q2=>packed_strs hH2 (by omega) hcm hg2
    rw [hyl] at HPk
    clear hw2 hys hso hH hH2
    go_wp2_with fail
    refine Calls.mono hco ?_
    rintro e w3 ⟨rfl,q2,hw3⟩
    have HB3:Hid (Below w.heap.size w w3):=by rw [hw3];exact packed_below HB2.out hgb
    have HS3:Hid (StrT w3 (some ⟨g,0,none⟩) c (Lib.compact ys)):=by
     rw [hw3]
     obtain ⟨cs,fr,hty⟩:=HT2.out
     obtain ⟨cs',fr',hty'⟩:=put_ty (n:=q2) hty
     exact ⟨HPk.out q2,Or.inr ⟨g,0,_,_,rfl,hty'⟩⟩
    clear hw3 hco HPk
    go_wp2_with fail
    go_returns
    exact ⟨⟨some ⟨g,0,none⟩,c,by rw [HZ.out];rfl,by rw [HZ.out];exact HS3.out⟩,HB3.out⟩
theorem fparse_v (s:ByteArray) (w:World) (h100:s.size≤100):Calls Tryz.prog 146 #[.string s] w fun e w'=>(∃ A c,e=.returned (.tuple #[.slice A (prsL s).length c,.int .i64 (prsA s:Int),errV (prsE s)])∧NdsV w' A c (prsL s))∧Below w.heap.size w w' :=
 (fparse_typ s w h100).mono fun _ _ ⟨⟨A,c,h1,h2⟩,h3⟩=>⟨⟨A,c,h1,h2.1⟩,h3⟩
theorem frefs_v (A:Option Addr) (cap:Nat) (l:List Nd) (w:World) (hN:NdsV w A cap l):Calls Tryz.prog 147 #[.slice A l.length cap] w fun e w'=>(∃ A' c',e=.returned (.tuple #[.slice A' (refsP l).length c',errV (formErr l)])∧StrsV w' A' c' (refsP l))∧Below w.heap.size w w' :=
 (frefs_typ A cap l w hN).mono fun _ _ ⟨⟨A',c',h1,h2⟩,h3⟩=>⟨⟨A',c',h1,h2.1⟩,h3⟩
end Go.Proofs.YtfgegmpoejilnaaGreatDoor
namespace Go.Proofs.YtfgegmpoejilnaaGreatDoor
open Go.ChangeShapes Go.WideShapes Go.ChangeAt Go.RowKit Go.Lib
set_option maxRecDepth 100000
set_option maxHeartbeats 4000000 in
theorem delete_any (g cap i:Nat) (xs:List EnL) (w:World) (hn:xs.length≤3000) (hi:i<xs.length) (hR:RowE w g cap xs) :
  Calls Tryz.prog 109 #[.slice (some ⟨g,0,none⟩) xs.length cap,.int .i64 i,.int .i64 ((i:Int)+1)] w fun e w'=>e=.returned (.slice (some ⟨g,0,none⟩) (xs.length-1) cap)∧RowE w' g cap (xs.take i ++ xs.drop (i+1))∧w.grownBy w' (some g):=by
 obtain ⟨i0,hi0,hz0,hz1,hz2⟩:=info_parts Tryz.infoEnt
 have hcm:=hR.2.2.1
 unfold maxLen at hcm
 have hnc:=hR.2.1
 obtain ⟨⟨cur,hcur,hcs,hct⟩,-,-,hpl⟩:=id hR
 obtain ⟨n,hnn⟩:∃ n,xs.length=n:=⟨_,rfl⟩
 obtain ⟨news,hnews⟩:∃ news,news=cellsE (xs.drop (i+1)):=⟨_,rfl⟩
 have hdl:news.length=(n-(i+1))*2:=by rw [hnews,cellsE_len,List.length_drop,hnn]
 have hcl0:cur.toList.length=cap*2:=by simpa using hcs
 rw [hnn] at hn hi hnc
 obtain ⟨C1,hC1⟩:∃ C1,C1=cur.toList.take (i*2) ++ cellsE (xs.drop (i+1)) ++ cur.toList.drop (i*2+(cellsE (xs.drop (i+1))).length):=⟨_,rfl⟩
 obtain ⟨C2,hC2⟩:∃ C2,C2=C1.take ((xs.length-1)*2) ++ [.slice none 0 0,.int .i64 0] ++ C1.drop ((xs.length-1)*2+2):=⟨_,rfl⟩
 obtain ⟨hl2,ht2⟩:=del_cells hct (by rw [hcl0,hnn];omega) (by rw [hnn];exact hi) hC1 hC2
 have hl1:C1.length=cap*2:=by
  rw [hC1,←hnews]
  simp only [List.length_append,List.length_take,List.length_drop,hdl,hcl0]
  omega
 obtain ⟨A,hA,hsrc⟩:∃ A:Addr,(if cap=i+1 then some (⟨g,0,none⟩:Addr) else some ⟨g,(i+1)*2,none⟩)=some A∧Hid (∀ t u,news[t]?=some u→w.drew.cell? (A.add t)=some u):=by
  by_cases h:cap=i+1
  ·refine ⟨⟨g,0,none⟩,by simp [h],fun t u hu=>?_⟩
   have h0:news.length=0:=by rw [hdl];omega
   rw [List.length_eq_zero_iff.1 h0] at hu
   simp at hu
  ·refine ⟨⟨g,(i+1)*2,none⟩,by simp [h],fun t u hu=>?_⟩
   rw [hnews,←cellsE_drop,List.getElem?_drop] at hu
   rw [plain_add]
   exact hR.cells _ u hu
 have s1:Hid (news.length=(n-(i+1))*2):=hdl
 have s2:Hid (∀ u∈news,u.oneCell'=true):=by rw [hnews];exact cellsE_one _
 have s3:Hid (∀ t,t<news.length→(w.drew.cell? ⟨g,0+i*2+t,none⟩).isSome=true∧w.drew.frozen? ⟨g,0+i*2+t,none⟩=false):=by
  intro t ht
  rw [hdl] at ht
  exact ⟨hR.full (by omega),hR.frozen _⟩
 obtain ⟨W1,hW1⟩:∃ W1,W1=w.drew.setRow g C1.toArray:=⟨_,rfl⟩
 have HW:Hid (W1=w.drew.setCells g (0+i*2) news):=by
  show _=_
  rw [setCells_row g 63 news (0+i*2) cur w.drew hcur (by rw [hdl];omega),hW1,hC1,Nat.zero_add,hnews]
 have hW1h:W1.heap[g]?=some (.cells C1.toArray 63 (0,0)):=by rw [hW1];exact setRow_heap w.drew g cur _ _ _ hcur
 have hcl:∀ ty c,(Builtin.clear_ #[46] ty #[.slice (some ⟨g,(i+(n-(i+1)))*2,none⟩) (n-(i+(n-(i+1)))) c]).run Tryz.prog W1=.ok (.tuple #[]) (W1.setRow g C2.toArray):=fun ty c=>by
  rw [show n-(i+(n-(i+1)))=1 by omega,show i+(n-(i+1))=n-1 by omega]
  rw [run_clear_one W1 46 63 ty (.agg #[.slice none 0 0,.int .i64 0]) (.slice none 0 0) (.int .i64 0) Tryz.underlying46 Tryz.zeroValue63 rfl rfl rfl g ((n-1)*2) c C1.toArray 63 hW1h (by rw [List.size_toArray,hl1];omega),hC2,hnn]
 have HFin:Hid (RowE (W1.setRow g C2.toArray) g cap (xs.take i ++ xs.drop (i+1))∧w.grownBy (W1.setRow g C2.toArray) (some g)):=by
  rw [hW1,setRow_setRow]
  have hg':w.grownBy (w.drew.setRow g C2.toArray) (some g):=grown_trans (grown_drew (grown_refl w _)) (grown_setRow ..)
  refine ⟨⟨⟨C2.toArray,setRow_heap w.drew g cur _ _ _ hcur,by rw [List.size_toArray,hl2,hcl0],ht2⟩,by simp;omega,hR.2.2.1,fun y hy=>?_⟩,hg'⟩
  refine PlTy.grown ?_ hcur hg'
  rcases List.mem_append.1 hy with hy | hy
  ·exact hpl y (List.mem_of_mem_take hy)
  ·exact hpl y (List.mem_of_mem_drop hy)
 rw [hnn]
 have hn':(n:Int)≤3000:=by omega
 have hi':(i:Int)<(n:Int):=by omega
 have hc':(n:Int)≤(cap:Int):=by omega
 have htn:((i:Int)+1).toNat=i+1:=by omega
 have hb1:(0:Int)≤(i:Int)+1:=by omega
 have hb2:(i:Int)+1≤(n:Int):=by omega
 have hb3:(i:Int)+1≤(cap:Int):=by omega
 have hb4:(i:Int)≤(cap:Int):=by omega
 have hic:i≤cap:=by omega
 have hjc:i+1≤cap:=by omega
 have hRn:Hid (n-1=i+(n-(i+1))):=by show _=_;omega
 clear hnn hl1 hl2 ht2 hC1 hC2 hdl hW1 hW1h hR hcur hcs hct hcl0 hpl hnews
 go_enter Tryz.func109,Tryz.ntmps109
 go_wp2_with fail
 go_region_law (refine step_append_room rfl (.tmp 22) (.tmp 25) 46 rfl 63 i0 2 Tryz.underlying46 hi0 hz1 g 0 i cap (by simp [Act.eval,Act.put]) A (n-(i+1)) (cap-(i+1)) news (by simp [Act.eval,Act.put]) s1.out hsrc.out s2.out (by omega) s3.out ?_;rw [←HW.out])
 go_wp2_with fail
 go_ret
 rw [hRn.out]
 exact ⟨rfl,HFin.out⟩
end Go.Proofs.YtfgegmpoejilnaaGreatDoor
namespace Go.Proofs.YtfgegmpoejilnaaGreatDoor
open Go.ChangeShapes Go.WideShapes Go.ChangeAt Go.RowKit Go.Lib
set_option maxRecDepth 20000
theorem RowE.put {w:World} {g cap:Nat} {zs:List EnL} (h:RowE w g cap zs) (hk:zs.length<cap) {x:EnL} (hx:PlTy w x.A x.c x.e.pl):RowE ((w.setCell ⟨g,zs.length*2,none⟩ (.slice x.A x.e.pl.length x.c)).setCell ⟨g,zs.length*2+1,none⟩ (.int .i64 x.e.n)) g cap (zs ++ [x])∧w.grownBy ((w.setCell ⟨g,zs.length*2,none⟩ (.slice x.A x.e.pl.length x.c)).setCell ⟨g,zs.length*2+1,none⟩ (.int .i64 x.e.n)) (some g):=by
 obtain ⟨⟨cur,h1,h2,h3⟩,h4,h5,h6⟩:=id h
 have e:(w.setCell ⟨g,zs.length*2,none⟩ (.slice x.A x.e.pl.length x.c)).setCell ⟨g,zs.length*2+1,none⟩ (.int .i64 x.e.n)=w.setCells g (zs.length*2) (cellsE [x]):=rfl
 have hx2:(cellsE [x]).length=2:=by rw [cellsE_len];rfl
 have hl:cur.toList.length=cap*2:=by simpa using h2
 rw [e,setCells_row g 63 (cellsE [x]) (zs.length*2) cur w h1 (by rw [hx2];omega)]
 refine ⟨h.lay ?_ ?_ (by simp;omega) fun y hy=>?_,grown_setRow ..⟩
 ·simp only [List.length_append,List.length_take,List.length_drop,hx2,hl]
  omega
 ·rw [cellsE_append,h3]
  exact take_join (by simp only [List.length_append,cellsE_len,List.length_cons,List.length_nil];omega)
 ·rcases List.mem_append.1 hy with hy | hy
  ·exact h6 y hy
  ·rw [List.mem_singleton.1 hy];exact hx
theorem grown_set {w w':World} {g:Nat} (h:w.grownBy w' (some g)) (o:Nat) (v:Value):w.grownBy (w'.setCell ⟨g,o,none⟩ v) (some g) :=
 ⟨h.os,h.tape,h.output,by simpa using h.size,fun i hi hr=>(Below.heap_setCell w' ⟨g,o,none⟩ v i fun e=>hr (by rw [e])).trans (h.block i hi hr)⟩
theorem grown_new {w w':World} {r:Option Nat} (h:w.grownBy w' r) (o:Obj):w.grownBy (w'.alloc o) r :=
 ⟨h.os,h.tape,h.output,by have:=h.size;simp;omega,fun i hi hr=>(Below.heap_alloc w' o i (Nat.lt_of_lt_of_le hi h.size)).trans (h.block i hi hr)⟩
theorem keepG {W w':World} {g q:Nat} {u v:Value} (h:q<W.heap.size∧q≠g∧W.cell? ⟨q,0,none⟩=some u∧W.cell? ⟨q,1,none⟩=some v) (hG:W.grownBy w' (some g)):W.grownBy w' (some g)∧w'.cell? ⟨q,0,none⟩=some u∧w'.cell? ⟨q,1,none⟩=some v:=by
 have hb:w'.heap[q]?=W.heap[q]?:=hG.block q h.1 fun e=>h.2.1 (by simpa using e)
 exact ⟨hG,(World.cell?_of_block (a:=⟨q,0,none⟩) hb).trans h.2.2.1,(World.cell?_of_block (a:=⟨q,1,none⟩) hb).trans h.2.2.2⟩
set_option maxHeartbeats 8000000 in
theorem fresh_new (AE:Option Addr) (ce:Nat) (xs:List EnL) (w:World) (hn:xs.length≤3000) (hS:∀ k,k<xs.length→(xs.getD k noL).e.pl.length≤4) (hE:EnsV w AE ce xs) :
  Calls Tryz.prog 30 #[.slice AE xs.length ce] w fun e w'=>(∃ ys,e=.returned (.slice (some ⟨w.heap.size,0,none⟩) xs.length xs.length)∧RowE w' w.heap.size xs.length ys∧lE ys=lE xs∧NewE w.heap.size ys)∧Below w.heap.size w w':=by
 obtain ⟨i0,hi0,hz0,hz1,hz2⟩:=info_parts Tryz.infoEnt
 have HE:Hid (EnsV w AE ce xs):=hE
 have HS:Hid (∀ k,k<xs.length→(xs.getD k noL).e.pl.length≤4):=hS
 obtain ⟨n,hnn⟩:∃ n,xs.length=n:=⟨_,rfl⟩
 have HN:Hid (xs.length=n):=hnn
 rw [hnn] at hn ⊢
 have hmk:∀ w',(Instr.makeSlice 46 (.int .i64 n) (.int .i64 n)).run Tryz.prog w'=.ok (.slice (some ⟨w'.heap.size,0,none⟩) n n) (w'.alloc (.cells (madeCells (Value.agg #[.slice none 0 0,.int .i64 0]).cells (n*2)) 63)):=fun w'=>by
  have h:=run_make (P:=Tryz.prog) w' 46 63 i0 _ Tryz.underlying46 hi0 hz0 .i64 .i64 n n (by omega) (Int.le_refl _) (by rw [hz2];omega) (by omega)
  rw [hz1] at h
  simpa using h
 have HR0:Hid (RowE (w.alloc (.cells (madeCells (Value.agg #[.slice none 0 0,.int .i64 0]).cells (n*2)) 63)) w.heap.size n []):=⟨⟨_,heap_alloc_new w _,size_madeCells _ _,by simp [cellsE]⟩,Nat.zero_le _,by unfold maxLen;omega,fun x hx=>by cases hx⟩
 have hn':(n:Int)≤3000:=by omega
 clear hE hS hnn
 go_enter Tryz.func30,Tryz.ntmps30
 go_wp2_with fail
 clear hmk
 go_loopg [11] n (fun g s11 wr => ∃ (k:Nat) (zs:List EnL),k≤n∧g=n-k∧s11=.int .i64 k∧zs.length=k∧Hid (lE zs=(lE xs).take k∧NewE w.heap.size zs)∧RowE wr w.heap.size n zs∧Below w.heap.size w wr)
 case atStart=>exact ⟨0,[],Nat.zero_le _,rfl,rfl,rfl,(⟨by simp [lE],fun _ h=>by cases h⟩:lE []=(lE xs).take 0∧NewE w.heap.size []),HR0.out,by go_grown⟩
 case round =>
  obtain ⟨k,zs,hk,rfl,rfl,hzl,HZ,hRow,hBw⟩:=hrel
  have HRow:Hid (RowE wr w.heap.size n zs):=hRow
  have HBw:Hid (Below w.heap.size w wr):=hBw
  have HZL:Hid (zs.length=k):=hzl
  by_cases hlt:k<n
  ·have hkx:k<xs.length:=by rw [HN.out];exact hlt
   have hki:(k:Int)<(n:Int):=by omega
   obtain ⟨-,-,h0 | ⟨b,o,rfl,hEs⟩⟩:=HE.out.later hBw
   ·have:=HN.out;rw [h0] at this;simp at this;omega
   obtain ⟨c1,c2⟩:=hEs.at hkx
   have HCl:Hid (∀ w',Below wr.heap.size wr w'→Calls Tryz.prog 59 #[.slice (xs.getD k noL).A (xs.getD k noL).e.pl.length (xs.getD k noL).c] w' fun e w''=>(∃ A' c',e=.returned (.slice A' (xs.getD k noL).e.pl.length c')∧PlTy w'' A' c' (xs.getD k noL).e.pl∧NewA w.heap.size A')∧Below w'.heap.size w' w''):=fun w' hw'=>(clone_new _ _ _ w' (HS.out k hkx) ((hEs.pl hkx).later hw')).mono fun _ _ ⟨⟨A',c',h1,h2,h3⟩,h4⟩=>⟨⟨A',c',h1,h2,h3.le (Nat.le_trans HBw.out.size hw'.size)⟩,h4⟩
   have hBo:=ownEn_below wr (xs.getD k noL).A (xs.getD k noL).e.pl.length (xs.getD k noL).c (xs.getD k noL).e.n 63
   have HBo:Hid (Below wr.heap.size wr (ownEn wr (xs.getD k noL).A (xs.getD k noL).e.pl.length (xs.getD k noL).c (xs.getD k noL).e.n 63)):=hBo
   have hzo:=ownEn_size wr (xs.getD k noL).A (xs.getD k noL).e.pl.length (xs.getD k noL).c (xs.getD k noL).e.n 63
   have ho0:=ownEn_0 wr (xs.getD k noL).A (xs.getD k noL).e.pl.length (xs.getD k noL).c (xs.getD k noL).e.n 63
   have ho1:=ownEn_1 wr (xs.getD k noL).A (xs.getD k noL).e.pl.length (xs.getD k noL).c (xs.getD k noL).e.n 63
   have HLE:Hid ((lE xs).take (k+1)=(lE xs).take k ++ [(xs.getD k noL).e]):=by
    show _=_
    rw [List.take_succ_eq_append_getElem (by rw [lE_len];exact hkx),←lE_at,List.getD_eq_getElem?_getD,List.getElem?_eq_getElem (by rw [lE_len];exact hkx)]
    rfl
   have hwg:w.heap.size<wr.heap.size:=hRow.lt
   generalize xs.getD k noL=x at c1 c2 HCl HBo hzo ho0 ho1 HLE
   clear hEs hBo hRow hBw hzl
   have HPut:Hid (∀ (w3:World) (A':Option Addr) (c':Nat),RowE w3 w.heap.size n zs→PlTy w3 A' c' x.e.pl→RowE ((w3.setCell ⟨w.heap.size,k*2,none⟩ (.slice A' x.e.pl.length c')).setCell ⟨w.heap.size,k*2+1,none⟩ (.int .i64 x.e.n)) w.heap.size n (zs ++ [⟨x.e,A',c'⟩])∧w3.grownBy ((w3.setCell ⟨w.heap.size,k*2,none⟩ (.slice A' x.e.pl.length c')).setCell ⟨w.heap.size,k*2+1,none⟩ (.int .i64 x.e.n)) (some w.heap.size)):=fun w3 A' c' h1 h2=>by
    have h3:=h1.put (by rw [HZL.out];exact hlt) (x:=⟨x.e,A',c'⟩) h2
    rw [HZL.out] at h3
    exact h3
   have HLN:Hid (∀ A' c',NewA w.heap.size A'→lE (zs ++ [⟨x.e,A',c'⟩])=(lE xs).take (k+1)∧NewE w.heap.size (zs ++ [⟨x.e,A',c'⟩])):=fun A' c' hn'=>⟨by rw [lE_append,HZ.out.1,HLE.out];rfl,fun y hy=>by
    rcases List.mem_append.1 hy with hy | hy
    ·exact HZ.out.2 y hy
    ·rw [List.mem_singleton.1 hy];exact hn'⟩
   generalize hxl:x.e.pl.length=m at c1 HCl HBo hzo ho0 ho1 HPut
   generalize x.e.n=N at c2 HBo hzo ho0 ho1 HPut
   clear hxl HLE
   go_wp2_with fail
   obtain ⟨W2,hW2⟩:∃ W2,wr.alloc (.cells #[.slice x.A m x.c,.int .i64 N] 63)=W2:=⟨_,rfl⟩
   have hBo:Below wr.heap.size wr W2:=by rw [←hW2];exact HBo.out
   have hz2:wr.heap.size<W2.heap.size:=by rw [←hW2];show _<(ownEn wr x.A m x.c N 63).heap.size;rw [hzo];omega
   have HBox:Hid (wr.heap.size<W2.heap.size∧wr.heap.size≠w.heap.size∧W2.cell? ⟨wr.heap.size,0,none⟩=some (.slice x.A m x.c)∧W2.cell? ⟨wr.heap.size,1,none⟩=some (.int .i64 N)):=by rw [←hW2];exact ⟨by rw [hW2];exact hz2,by omega,ho0,ho1⟩
   have HB2:Hid (Below wr.heap.size wr W2):=hBo
   have HRow2:Hid (RowE W2 w.heap.size n zs):=HRow.out.later hBo
   rw [hW2]
   clear hW2 hBo hzo ho0 ho1 HBo c1 c2
   go_region_held3 (fun w'=>W2.grownBy w' (some w.heap.size)∧w'.cell? ⟨wr.heap.size,0,none⟩=some (.slice x.A m x.c)∧w'.cell? ⟨wr.heap.size,1,none⟩=some (.int .i64 N))
    ((refine keepG HBox.out ?_;(repeat (first | exact grown_refl _ _ | assumption | refine grown_drew ?_ | refine grown_set ?_ _ _));done))
    (first | (go_at_call 59;refine (HCl.out _ (onB HB2.out (by go_grown))).mono ?_;rintro e w3 ⟨⟨A',c',rfl,hPT,hNw⟩,hb3⟩;have hN3:=onB (W0:=W2) (by go_grown) hb3;have HNw:Hid (NewA w.heap.size A'):=hNw;clear hNw;have hG3:W2.grownBy w3 (some w.heap.size):=grown_below hN3;have HB3:Hid (Below W2.heap.size W2 w3):=hN3;have HPT:Hid (PlTy w3 A' c' x.e.pl):=hPT;obtain ⟨u0,d0⟩:=Option.isSome_iff_exists.1 ((HRow2.out.later hN3).full (j:=k*2) (by omega));obtain ⟨u1,d1⟩:=Option.isSome_iff_exists.1 ((HRow2.out.later hN3).full (j:=k*2+1) (by omega));have f0:=(HRow2.out.later hN3).frozen (k*2);have f1:=(HRow2.out.later hN3).frozen (k*2+1);clear hb3 hN3 hPT))
   clear d0 d1 f0 f1 hG3
   go_wp2_with fail
   go_roundg (n-(k+1))
   case measure=>omega
   case rel =>
    obtain ⟨h1,h2⟩:=HPut.out w3 A' c' (HRow2.out.later HB3.out) HPT.out
    refine ⟨k+1,_,by omega,rfl,by go_num,?_,HLN.out A' c' HNw.out,h1,?_⟩
    ·rw [List.length_append,HZL.out];rfl
    ·exact below_grown (onB HBw.out (onB HB2.out HB3.out)) h2 (onB HBw.out (onB HB2.out HB3.out)).size (Nat.le_refl _)
  ·have hke:k=n:=by omega
   subst hke
   have HFin:Hid (lE zs=lE xs∧NewE w.heap.size zs):=⟨by rw [HZ.out.1,List.take_of_length_le (by rw [lE_len,HN.out];exact Nat.le_refl _)],HZ.out.2⟩
   clear hRow hBw hzl
   go_wp2_with fail
   go_ret
   exact ⟨⟨zs,rfl,HRow.out,HFin.out⟩,HBw.out⟩
theorem fresh_any (AE:Option Addr) (ce:Nat) (xs:List EnL) (w:World) (hn:xs.length≤3000) (hS:∀ k,k<xs.length→(xs.getD k noL).e.pl.length≤4) (hE:EnsV w AE ce xs) :
  Calls Tryz.prog 30 #[.slice AE xs.length ce] w fun e w'=>(∃ ys,e=.returned (.slice (some ⟨w.heap.size,0,none⟩) xs.length xs.length)∧RowE w' w.heap.size xs.length ys∧lE ys=lE xs)∧Below w.heap.size w w' :=
 (fresh_new AE ce xs w hn hS hE).mono fun _ _ ⟨⟨ys,h1,h2,h3,_⟩,h4⟩=>⟨⟨ys,h1,h2,h3⟩,h4⟩
end Go.Proofs.YtfgegmpoejilnaaGreatDoor
namespace Go.Proofs.YtfgegmpoejilnaaGreatDoor
open Go.ChangeShapes Go.WideShapes Go.ChangeAt Go.RowKit
set_option maxRecDepth 20000
def ValB (w:World) (g n T:Nat) (f:Nat→Value):Prop:=w.heap[g]?=some (.cells ((List.range n).map f).toArray T (0,0))
theorem ValB.lt {w:World} {g n T:Nat} {f:Nat→Value} (h:ValB w g n T f):g<w.heap.size:=(Array.getElem?_eq_some_iff.1 h).1
theorem ValB.cell {w:World} {g n T:Nat} {f:Nat→Value} (h:ValB w g n T f) {j:Nat} (hj:j<n):w.cell? ⟨g,j,none⟩=some (f j):=by
 rw [Lib.cell_of_heap h]
 simp [hj]
theorem ValB.frozen {w:World} {g n T:Nat} {f:Nat→Value} (h:ValB w g n T f) (j:Nat):w.frozen? ⟨g,j,none⟩=false:=Lib.frozen_of_heap h j
theorem ValB.same {w w':World} {g n T:Nat} {f:Nat→Value} (h:ValB w g n T f) (hb:w'.heap[g]?=w.heap[g]?):ValB w' g n T f:=hb.trans h
theorem ValB.set {w:World} {g n T:Nat} {f f':Nat→Value} {v:Value} (h:ValB w g n T f) {m:Nat} (hf:∀ j,j<n→f' j=if j=m then v else f j):ValB (w.setCell ⟨g,m,none⟩ v) g n T f':=by
 unfold ValB at *
 simp only [World.setCell,Array.getElem?_modify,if_true,h,Option.map_some,Option.some.injEq,Obj.cells.injEq,and_true,Option.isSome_none,Bool.false_eq_true,if_false]
 apply Array.ext_getElem?
 intro j
 rw [Array.getElem?_setIfInBounds]
 by_cases hj:j<n
 ·by_cases e:m=j
  ·rw [if_pos e,if_pos (by simp;omega)]
   simp [hj,hf j hj,e]
  ·have e':j≠m:=fun x=>e x.symm
   rw [if_neg e]
   simp only [List.getElem?_toArray,List.getElem?_map,List.getElem?_range hj,Option.map_some,hf j hj,if_neg e']
 ·by_cases e:m=j
  ·rw [if_pos e,if_neg (by simp;omega),Array.getElem?_eq_none (by simp;omega)]
  ·rw [if_neg e,Array.getElem?_eq_none (by simp;omega),Array.getElem?_eq_none (by simp;omega)]
theorem ValB.made (w:World) (n T:Nat) (z:Value):ValB (w.alloc (.cells (madeCells #[z] n) T)) w.heap.size n T fun _=>z:=by
 unfold ValB
 have e:madeCells #[z] n=((List.range n).map fun _=>z).toArray:=by
  apply Array.ext
  ·simp [madeCells]
  ·intro i h1 h2
   simp [madeCells,Nat.mod_one]
 rw [e]
 exact heap_alloc_new w _
theorem ValB.off {w:World} {g n T b:Nat} {f:Nat→Value} {cs:Array Value} {t:Nat} {fr:Nat×Nat} (h:ValB w g n T f) (hb:w.heap[b]?=some (.cells cs t fr)) (ht:t≠T):b≠g:=fun e=>by
 rw [e,h] at hb
 simp only [Option.some.injEq,Obj.cells.injEq] at hb
 exact ht hb.2.1.symm
theorem row_ne_int':(3:Nat)≠38:=by decide
theorem own_grown {w w':World} {base e size n:Nat} {v:Value} {xs:List Value} {r:Option Nat} (h:w.ownsRow base e size v n xs) (hG:w.grownBy w' r) (hr:∀ b,v.ownBlock=some b→r≠some b):w'.ownsRow base e size v n xs:=by
 refine ⟨h.1,?_⟩
 rcases h.2 with h0 | ⟨g,cap,cur,rfl,h2,h3,h4⟩
 ·exact Or.inl h0
 ·exact Or.inr ⟨g,cap,cur,rfl,h2,(hG.block g (Array.getElem?_eq_some_iff.1 h3).1 (fun e=>hr g rfl e.symm)).trans h3,h4⟩
theorem own_blk {w:World} {base e size n b:Nat} {v:Value} {xs:List Value} (h:w.ownsRow base e size v n xs) (hb:v.ownBlock=some b):base≤b∧b<w.heap.size∧∃ cur,w.heap[b]?=some (.cells cur e (0,0)):=by
 rcases h.2 with ⟨rfl,-⟩ | ⟨g,cap,cur,rfl,h2,h3,h4⟩
 ·cases hb
 ·cases hb
  exact ⟨h2,(Array.getElem?_eq_some_iff.1 h3).1,cur,h3⟩
theorem own_setc {w:World} {base e size n g j:Nat} {v x:Value} {xs:List Value} (h:w.ownsRow base e size v n xs) (hg:v.ownBlock≠some g):(w.setCell ⟨g,j,none⟩ x).ownsRow base e size v n xs:=by
 refine ⟨h.1,?_⟩
 rcases h.2 with h0 | ⟨g',cap,cur,rfl,h2,h3,h4⟩
 ·exact Or.inl h0
 ·exact Or.inr ⟨g',cap,cur,rfl,h2,by rw [setCell_off _ _ _ _ _ (fun e=>hg (by rw [←e];rfl))];exact h3,h4⟩
theorem IntT.one {w w':World} {A:Option Addr} {c:Nat} {L:List Int} (h:IntT w A c L) (hb:∀ a,A=some a→w'.heap[a.block]?=w.heap[a.block]?):IntT w' A c L:=by
 obtain ⟨h1,h0,h2 | ⟨b,cs,fr,rfl,h3,h4⟩⟩:=h
 ·exact ⟨h1,h0,Or.inl h2⟩
 ·have e:=hb _ rfl
  exact ⟨h1,h0,Or.inr ⟨b,cs,fr,rfl,e.trans h3,fun j hj=>(World.cell?_of_block (a:=⟨b,j,none⟩) e).trans (h4 j hj)⟩⟩
end Go.Proofs.YtfgegmpoejilnaaGreatDoor
