/-
  Cells in a row, in memory: a slice of them, a block of a call's own that holds them.
-/
import Derived.Sort.Walk0
import Derived.Test.YtnlfpaopfloklaaGreatDoorJEAS
import Derived.Test.YtnlfpaopfloklaaGreatDoorJEAU
namespace Go.Proofs.YtnlfpaopfloklaaGreatDoor
open Go.ChangeShapes Go.WideShapes Go.ChangeAt Go.RowKit
set_option maxRecDepth 20000
def noC:Int×Int:=(0,0)
def cellsC:List (Int×Int)→List Value
 | []=>[]
 | c :: r=>.int .i64 c.1 :: .int .i64 c.2 :: cellsC r
theorem cellsC_len (L:List (Int×Int)):(cellsC L).length=L.length*2:=by
 induction L with
 | nil=>rfl
 | cons x r ih=>simp [cellsC,ih];omega
theorem cellsC_append (a b:List (Int×Int)):cellsC (a ++ b)=cellsC a ++ cellsC b:=by
 induction a with
 | nil=>rfl
 | cons x r ih=>simp [cellsC,ih]
theorem cellsC_one (L:List (Int×Int)):∀ v∈cellsC L,v.oneCell'=true:=by
 induction L with
 | nil=>intro v hv;cases hv
 | cons x r ih =>
  intro v hv
  simp only [cellsC,List.mem_cons] at hv
  rcases hv with rfl | rfl | hv
  ·rfl
  ·rfl
  ·exact ih v hv
theorem cellsC_at (L:List (Int×Int)):∀ k,k<L.length→(cellsC L)[k*2]?=some (.int .i64 (L.getD k noC).1)∧(cellsC L)[k*2+1]?=some (.int .i64 (L.getD k noC).2):=by
 induction L with
 | nil=>intro k hk;cases hk
 | cons x r ih =>
  intro k hk
  cases k with
  | zero=>simp [cellsC]
  | succ k =>
   rw [show (k+1)*2=k*2+1+1 by omega]
   simp only [cellsC,List.getElem?_cons_succ,List.getD_cons_succ]
   exact ih k (by simpa using hk)
def CelAt (w:World) (b o:Nat) (L:List (Int×Int)):Prop:=b<w.heap.size∧∀ k,k<L.length→w.cell? ⟨b,o+k*2,none⟩=some (.int .i64 (L.getD k noC).1)∧w.cell? ⟨b,o+k*2+1,none⟩=some (.int .i64 (L.getD k noC).2)
theorem CelAt.later {w w':World} {b o:Nat} {L:List (Int×Int)} (h:CelAt w b o L) (hB:Below w.heap.size w w'):CelAt w' b o L :=
 ⟨Nat.lt_of_lt_of_le h.1 hB.size,fun k hk=>⟨(hB.cell (p:=⟨b,o+k*2,none⟩) h.1).trans (h.2 k hk).1,(hB.cell (p:=⟨b,o+k*2+1,none⟩) h.1).trans (h.2 k hk).2⟩⟩
theorem CelAt.cells {w:World} {b o:Nat} {L:List (Int×Int)} (h:CelAt w b o L):∀ j u,(cellsC L)[j]?=some u→w.cell? ⟨b,o+j,none⟩=some u:=by
 intro j u hj
 have hlt:j<(cellsC L).length:=(List.getElem?_eq_some_iff.1 hj).1
 rw [cellsC_len] at hlt
 have hk:j / 2<L.length:=by omega
 obtain ⟨h1,h2⟩:=cellsC_at L _ hk
 obtain ⟨c1,c2⟩:=h.2 _ hk
 rcases Nat.mod_two_eq_zero_or_one j with hm | hm
 ·have e:j=j / 2*2:=by omega
  rw [e] at hj ⊢
  rw [h1] at hj
  rw [c1]
  exact hj
 ·have e:j=j / 2*2+1:=by omega
  rw [e] at hj ⊢
  rw [h2] at hj
  rw [←Nat.add_assoc,c2]
  exact hj
def CelV (w:World) (A:Option Addr) (cap:Nat) (L:List (Int×Int)):Prop:=L.length≤cap∧cap≤9223372036854775807∧(L=[]∨∃ b o,A=some ⟨b,o,none⟩∧CelAt w b o L)
theorem CelV.later {w w':World} {A:Option Addr} {cap:Nat} {L:List (Int×Int)} (h:CelV w A cap L) (hB:Below w.heap.size w w'):CelV w' A cap L:=by
 obtain ⟨h1,h0,h2 | ⟨b,o,h2,h3⟩⟩:=h
 ·exact ⟨h1,h0,Or.inl h2⟩
 ·exact ⟨h1,h0,Or.inr ⟨b,o,h2,h3.later hB⟩⟩
theorem CelV.nil (w:World) (A:Option Addr) (cap:Nat) (h:cap≤9223372036854775807):CelV w A cap []:=⟨Nat.zero_le _,h,Or.inl rfl⟩
def CelB (w:World) (g:Nat) (L:List (Int×Int)):Prop := ∃ cur:Array Value,w.heap[g]?=some (.cells cur 58 (0,0))∧∀ k,k<L.length→cur[k*2]?=some (.int .i64 (L.getD k noC).1)∧cur[k*2+1]?=some (.int .i64 (L.getD k noC).2)
section
variable {w w':World} {g:Nat} {L:List (Int×Int)}
theorem CelB.lt (h:CelB w g L):g<w.heap.size:=by
 obtain ⟨cur,h1,_⟩:=h
 exact (Array.getElem?_eq_some_iff.1 h1).1
theorem CelB.same (h:CelB w g L) (hb:w'.heap[g]?=w.heap[g]?):CelB w' g L:=by
 obtain ⟨cur,h1,h2⟩:=h
 exact ⟨cur,hb.trans h1,h2⟩
theorem CelB.later (h:CelB w g L) (hB:Below w.heap.size w w'):CelB w' g L:=h.same (hB.block g h.lt)
theorem CelB.at (h:CelB w g L) {k:Nat} (hk:k<L.length):w.cell? ⟨g,k*2,none⟩=some (.int .i64 (L.getD k noC).1)∧w.cell? ⟨g,k*2+1,none⟩=some (.int .i64 (L.getD k noC).2):=by
 obtain ⟨cur,h1,h2⟩:=h
 obtain ⟨h3,h4⟩:=h2 k hk
 exact ⟨by simp [World.cell?,h1,h3],by simp [World.cell?,h1,h4]⟩
theorem CelB.frozen (h:CelB w g L) (j:Nat):w.frozen? ⟨g,j,none⟩=false:=by
 obtain ⟨cur,h1,_⟩:=h
 exact Lib.frozen_of_heap h1 j
theorem CelB.celAt (h:CelB w g L):CelAt w g 0 L:=⟨h.lt,fun k hk=>by rw [Nat.zero_add];exact h.at hk⟩
theorem CelB.set (h:CelB w g L) {x:Nat} (hx:x<L.length) (a b:Int):CelB ((w.setCell ⟨g,x*2,none⟩ (.int .i64 a)).setCell ⟨g,x*2+1,none⟩ (.int .i64 b)) g (L.set x (a,b)):=by
 obtain ⟨cur,h1,h2⟩:=h
 refine ⟨(cur.setIfInBounds (x*2) (.int .i64 a)).setIfInBounds (x*2+1) (.int .i64 b),by simp [World.setCell,Array.getElem?_modify,h1],fun k hk=>?_⟩
 rw [List.length_set] at hk
 obtain ⟨h3,h4⟩:=h2 k hk
 obtain ⟨h5,h6⟩:=h2 x hx
 have z0:=(Array.getElem?_eq_some_iff.1 h5).1
 have z1:=(Array.getElem?_eq_some_iff.1 h6).1
 by_cases e:k=x
 ·subst e
  constructor
  ·rw [Array.getElem?_setIfInBounds_ne (by omega),Array.getElem?_setIfInBounds_self_of_lt z0]
   simp [List.getD,hk]
  ·rw [Array.getElem?_setIfInBounds_self_of_lt (by simpa using z1)]
   simp [List.getD,hk]
 ·have e1:(L.set x (a,b)).getD k noC=L.getD k noC:=by simp [List.getD,List.getElem?_set_ne (fun h=>e h.symm)]
  rw [e1]
  constructor
  ·rw [Array.getElem?_setIfInBounds_ne (by omega),Array.getElem?_setIfInBounds_ne (by omega)];exact h3
  ·rw [Array.getElem?_setIfInBounds_ne (by omega),Array.getElem?_setIfInBounds_ne (by omega)];exact h4
theorem celB_own {base:Nat} {v:Value} (h:w.ownsRow base 58 2 v L.length (cellsC L)) (hl:0<L.length):∃ g c,v=.slice (some ⟨g,0,none⟩) L.length c∧base≤g∧L.length≤c∧c≤9223372036854775807∧CelB w g L:=by
 rcases h.2 with ⟨_,h0⟩ | ⟨g,cap,cur,rfl,hb,hg,h4,h5,h6,h7⟩
 ·omega
 ·refine ⟨g,cap,rfl,hb,h4,by unfold maxLen at h5;omega,cur,hg,fun k hk=>?_⟩
  obtain ⟨x0,x1⟩:=cellsC_at L k hk
  rw [←h7,List.getElem?_take,if_pos (by omega),Array.getElem?_toList] at x0 x1
  exact ⟨x0,x1⟩
end
theorem Tryz.infoCe:(Tryz.prog.info? 58).map (fun i=>(i.zero,i.size,i.bytes))=some (some (.agg #[.int .i64 0,.int .i64 0]),2,16):=by kernel_rfl
def goodB (L:List (Int×Int)) (k:Nat):Bool := !(good (L.getD k noC).1 (L.getD k noC).2)
end Go.Proofs.YtnlfpaopfloklaaGreatDoor
namespace Go.Proofs.YtnlfpaopfloklaaGreatDoor
def noS:ByteArray:=⟨#[]⟩
def okC (c:Int×Int):Prop:=good c.1 c.2=true
theorem okC_no:okC noC:=rfl
theorem okC_ofP (n:Int):okC (ofP n):=by
 unfold okC ofP good
 split
 ·rename_i h;simp [h.1,h.2]
 ·simp
theorem okC_quo (x y:Int):okC (quoP x y):=by
 unfold quoP
 split
 ·rfl
 ·exact okC_ofP _
theorem okC_join (b:Bool) (ka kb:Int) {r:Int×Int} (h:okC r):okC (joinP b ka kb r):=by
 unfold joinP
 split
 ·rfl
 ·split
  ·rfl
  ·exact h
def opP (o:Int) (a b:Int×Int):Int×Int:=if o=3 then plusP a.1 a.2 b.1 b.2 else if o=4 then minusP a.1 a.2 b.1 b.2 else if o=5 then timesP a.1 a.2 b.1 b.2 else overP a.1 a.2 b.1 b.2
theorem opP_ok (o:Int) (a b:Int×Int):okC (opP o a b):=by
 unfold opP
 split
 ·exact okC_join _ _ _ (okC_ofP _)
 ·split
  ·exact okC_join _ _ _ (okC_ofP _)
  ·split
   ·exact okC_join _ _ _ (okC_ofP _)
   ·exact okC_join _ _ _ (okC_quo _ _)
def isS (N:List ByteArray) (s:ByteArray) (i:Nat):Bool:=decide (N.getD i noS=s)
def whereS (N:List ByteArray) (s:ByteArray):Int:=findFrom (isS N s) N.length 0
theorem where_cases (N:List ByteArray) (s:ByteArray):(whereS N s = -1∧∀ j,j<N.length→N.getD j noS≠s)∨∃ i:Nat,whereS N s=(i:Int)∧i<N.length∧N.getD i noS=s:=by
 unfold whereS
 rcases findFrom_cases (isS N s) N.length 0 with ⟨h1,h2⟩ | ⟨m,h1,h2,h3,h4,h5⟩
 ·left
  refine ⟨h1,fun j hj=>?_⟩
  have:=h2 j (Nat.zero_le _) (by omega)
  simpa [isS] using this
 ·right
  exact ⟨m,h1,by omega,of_decide_eq_true h4⟩
def downS (N:List ByteArray) (i:Nat):Bool:=Op.bytesLess (N.getD i noS).toList (N.getD (i-1) noS).toList || (N.getD i noS).toList == (N.getD (i-1) noS).toList
def ckErr (N:List ByteArray) (C:List (Int×Int)):Int:=if C.length≠N.length then 3 else if 0≤findFrom (goodB C) C.length 0 then 1 else if 0≤findFrom (downS N) (N.length-1) 1 then 7 else 0
theorem ck_shape {N:List ByteArray} {C:List (Int×Int)} (h:C.length≠N.length):ckErr N C=3:=by unfold ckErr;rw [if_pos h]
theorem ck_cell {N:List ByteArray} {C:List (Int×Int)} (h:C.length=N.length) {i:Nat} (hi:i<C.length) (hb:goodB C i=true):ckErr N C=1:=by
 unfold ckErr
 rw [if_neg (by simpa using h)]
 rcases findFrom_cases (goodB C) C.length 0 with ⟨_,h5⟩ | ⟨m,e,_⟩
 ·rw [h5 i (Nat.zero_le _) (by omega)] at hb;cases hb
 ·rw [e,if_pos (by omega)]
theorem ck_down {N:List ByteArray} {C:List (Int×Int)} (h:C.length=N.length) (hg:∀ j,j<C.length→goodB C j=false) {i:Nat} (h1:1≤i) (hi:i<N.length) (hb:downS N i=true):ckErr N C=7:=by
 unfold ckErr
 rw [if_neg (by simpa using h),findFrom_none (fun j _ hj=>hg j (by omega)),if_neg (by omega)]
 rcases findFrom_cases (downS N) (N.length-1) 1 with ⟨_,h5⟩ | ⟨m,e,_⟩
 ·rw [h5 i h1 (by omega)] at hb;cases hb
 ·rw [e,if_pos (by omega)]
theorem ck_good {N:List ByteArray} {C:List (Int×Int)} (h:C.length=N.length) (hg:∀ j,j<C.length→goodB C j=false) (hd:∀ j,1≤j→j<N.length→downS N j=false):ckErr N C=0:=by
 unfold ckErr
 rw [if_neg (by simpa using h),findFrom_none (fun j _ hj=>hg j (by omega)),if_neg (by omega),findFrom_none (fun j h1 hj=>hd j h1 (by omega)),if_neg (by omega)]
theorem ck_right {N:List ByteArray} {C:List (Int×Int)} (h:ckErr N C=0):C.length=N.length∧(∀ j,j<C.length→goodB C j=false)∧∀ j,1≤j→j<N.length→downS N j=false:=by
 by_cases h1:C.length=N.length
 ·refine ⟨h1,?_⟩
  by_cases h2:∀ j,j<C.length→goodB C j=false
  ·refine ⟨h2,fun j hj1 hj=>?_⟩
   cases hd:downS N j
   ·rfl
   ·rw [ck_down h1 h2 hj1 hj hd] at h;cases h
  ·exfalso
   apply h2
   intro j hj
   cases hd:goodB C j
   ·rfl
   ·rw [ck_cell h1 hj hd] at h;cases h
 ·rw [ck_shape h1] at h;cases h
theorem ck_ok {N:List ByteArray} {C:List (Int×Int)} (h:ckErr N C=0):∀ c∈C,okC c:=by
 intro c hc
 obtain ⟨j,hj,rfl⟩:=List.getElem_of_mem hc
 have:=(ck_right h).2.1 j hj
 unfold goodB at this
 rw [List.getD_eq_getElem?_getD,List.getElem?_eq_getElem hj] at this
 simpa [okC] using this
/-! names that rise -/
theorem down_not {N:List ByteArray} {i:Nat} (h:downS N i=false):(N.getD (i-1) noS).toList<(N.getD i noS).toList:=by
 unfold downS at h
 rw [Bool.or_eq_false_iff,bytesLess_eq] at h
 have h1:=of_decide_eq_false h.1
 have h2:(N.getD i noS).toList≠(N.getD (i-1) noS).toList:=by simpa using h.2
 rcases Std.lt_trichotomy (N.getD i noS).toList (N.getD (i-1) noS).toList with h3 | h3 | h3
 ·exact absurd h3 h1
 ·exact absurd h3 h2
 ·exact h3
theorem rise_all {N:List ByteArray} (h:∀ j,1≤j→j<N.length→downS N j=false):∀ i j,i<j→j<N.length→(N.getD i noS).toList<(N.getD j noS).toList:=by
 intro i j hij
 induction j with
 | zero=>omega
 | succ j ih =>
  intro hj
  have h1:=down_not (h (j+1) (by omega) hj)
  by_cases e:i=j
  ·subst e;exact h1
  ·exact List.lt_trans (ih (by omega) (by omega)) h1
section
variable (N:List ByteArray) (C:List (Int×Int))
def refC (s:ByteArray):Int×Int:=C.getD (whereS N s).toNat noC
def valT:Tre→Int×Int
 | .num n=>ofP n
 | .ref s=>refC N C s
 | .bin o a b=>opP o (valT a) (valT b)
end
def refsT:Tre→List ByteArray
 | .num _=>[]
 | .ref s=>[s]
 | .bin _ a b=>refsT a ++ refsT b
def missT (N:List ByteArray) (t:Tre):Bool:=(refsT t).any fun s=>decide (whereS N s<0)
theorem val_ok (N:List ByteArray) {C:List (Int×Int)} (hC:∀ c∈C,okC c):∀ t:Tre,okC (valT N C t)
 | .num n=>okC_ofP n
 | .ref s=>by
  rw [valT,refC,List.getD_eq_getElem?_getD]
  cases h:C[(whereS N s).toNat]? with
  | none=>exact okC_no
  | some c=>exact hC c (List.mem_of_getElem? h)
 | .bin o a b=>opP_ok o _ _
/-! the names of a tree are those of the nodes -/
theorem refs_down {l:List Nd} (hl:RightL l) (s:ByteArray):∀ i,i<l.length→s∈refsT (treeOf l i)→∃ j,j<l.length∧(l.getD j noN).op=2∧(l.getD j noN).name=s:=by
 intro i
 induction i using Nat.strongRecOn with
 | _ i ih =>
  intro hi hs
  have ho:=op_range (hl i hi)
  by_cases h1:(l.getD i noN).op=1
  ·rw [tree_num h1] at hs;cases hs
  by_cases h2:(l.getD i noN).op=2
  ·rw [tree_ref h2,refsT,List.mem_singleton] at hs
   exact ⟨i,hi,h2,hs.symm⟩
  ·obtain ⟨a1,a2,a3,a4⟩:=nd_sides (hl i hi) (by omega)
   rw [tree_bin hl hi (by omega),refsT,List.mem_append] at hs
   rcases hs with hs | hs
   ·exact ih _ (by omega) (by omega) hs
   ·exact ih _ (by omega) (by omega) hs
theorem used_who {l:List Nd} (j:Nat):∀ k,1≤usedTo l k j→∃ i,i<k∧1≤uses (l.getD i noN) j
 | 0,h=>by cases h
 | k+1,h=>by
  by_cases h1:1≤uses (l.getD k noN) j
  ·exact ⟨k,Nat.lt_succ_self _,h1⟩
  ·have h2:1≤usedTo l k j+uses (l.getD k noN) j:=h
   obtain ⟨i,hi,h3⟩:=used_who (l:=l) j k (by omega)
   exact ⟨i,by omega,h3⟩
theorem refs_up {l:List Nd} (h:formErr l=0) (s:ByteArray):∀ n j,l.length-j=n→j<l.length→s∈refsT (treeOf l j)→s∈refsT (treeOf l (l.length-1)):=by
 obtain ⟨h1,h2,hl,h4⟩:=form_right h
 intro n
 induction n using Nat.strongRecOn with
 | _ n ih =>
  intro j hn hj hs
  by_cases e:j=l.length-1
  ·rw [←e];exact hs
  obtain ⟨i,hi,hu⟩:=used_who (l:=l) j l.length (by rw [h4 j (by omega)];exact Nat.le_refl _)
  unfold uses at hu
  split at hu
  ·rename_i hop
   obtain ⟨a1,a2,a3,a4⟩:=nd_sides (hl i hi) hop
   have hsi:s∈refsT (treeOf l i):=by
    rw [tree_bin hl hi hop,refsT,List.mem_append]
    by_cases e1:(l.getD i noN).left=(j:Int)
    ·left;rw [e1];exact hs
    ·by_cases e2:(l.getD i noN).right=(j:Int)
     ·right;rw [e2];exact hs
     ·rw [if_neg e1,if_neg e2] at hu;omega
   have hij:j<i:=by
    by_cases e1:(l.getD i noN).left=(j:Int)
    ·omega
    ·by_cases e2:(l.getD i noN).right=(j:Int)
     ·omega
     ·rw [if_neg e1,if_neg e2] at hu;omega
   exact ih (l.length-i) (by omega) i rfl hi hsi
  ·omega
theorem refs_mem {l:List Nd} (h:formErr l=0) (s:ByteArray):s∈refsT (treeOf l (l.length-1))↔∃ j,j<l.length∧(l.getD j noN).op=2∧(l.getD j noN).name=s:=by
 obtain ⟨h1,h2,hl,h4⟩:=form_right h
 refine ⟨refs_down hl s _ (by omega),fun ⟨j,hj,h2,h3⟩=>?_⟩
 refine refs_up h s _ j rfl hj ?_
 rw [tree_ref h2,h3,refsT]
 exact List.mem_singleton.2 rfl
def missR (N:List ByteArray) (l:List Nd) (i:Nat):Bool:=decide ((l.getD i noN).op=2) && decide (whereS N (l.getD i noN).name<0)
theorem miss_yes {N:List ByteArray} {l:List Nd} (h:formErr l=0) {i:Nat} (hi:i<l.length) (hm:missR N l i=true):missT N (treeOf l (l.length-1))=true:=by
 simp only [missR,Bool.and_eq_true,decide_eq_true_eq] at hm
 unfold missT
 rw [List.any_eq_true]
 exact ⟨_,(refs_mem h _).2 ⟨i,hi,hm.1,rfl⟩,decide_eq_true hm.2⟩
theorem miss_no {N:List ByteArray} {l:List Nd} (h:formErr l=0) (hm:∀ i,i<l.length→missR N l i=false):missT N (treeOf l (l.length-1))=false:=by
 rw [Bool.eq_false_iff]
 intro e
 unfold missT at e
 rw [List.any_eq_true] at e
 obtain ⟨s,h1,h2⟩:=e
 obtain ⟨j,hj,h3,h4⟩:=(refs_mem h s).1 h1
 have:=hm j hj
 unfold missR at this
 rw [h4,h3] at this
 simp at this h2
 omega
def valE (l:List Nd) (N:List ByteArray) (C:List (Int×Int)):Int:=if formErr l≠0 then formErr l else if ckErr N C≠0 then ckErr N C else if missT N (treeOf l (l.length-1))=true then 5 else 0
def valC (l:List Nd) (N:List ByteArray) (C:List (Int×Int)):Int×Int:=if valE l N C=0 then valT N C (treeOf l (l.length-1)) else noC
def valG (E:ByteArray→Int×Int):Tre→Int×Int
 | .num n=>ofP n
 | .ref s=>E s
 | .bin o a b=>opP o (valG E a) (valG E b)
theorem valG_names (N:List ByteArray) (C:List (Int×Int)) (E:ByteArray→Int×Int):∀ t:Tre,(∀ s∈refsT t,refC N C s=E s)→valT N C t=valG E t
 | .num _,_=>rfl
 | .ref s,h=>h s (by simp [refsT])
 | .bin o a b,h=>by
  rw [valT,valG,valG_names N C E a fun s hs=>h s (by simp [refsT,hs]),valG_names N C E b fun s hs=>h s (by simp [refsT,hs])]
theorem valG_same (E F:ByteArray→Int×Int):∀ t:Tre,(∀ s∈refsT t,E s=F s)→valG E t=valG F t
 | .num _,_=>rfl
 | .ref s,h=>h s (by simp [refsT])
 | .bin o a b,h=>by
  rw [valG,valG,valG_same E F a fun s hs=>h s (by simp [refsT,hs]),valG_same E F b fun s hs=>h s (by simp [refsT,hs])]
def treF (d:Dm) (i:Nat):Tre:=treeOf (prsL (d.mem i).formula) ((prsL (d.mem i).formula).length-1)
def oneV (d:Dm) (at':Int→Int×Int) (i:Nat):Int×Int:=if (d.mem i).formula.size=0 then (partsOf d.mem d.n i).foldl (partStep d.mem at') (0,0) else valG (fun s=>at' (whL d s.data.toList)) (treF d i)
theorem tre_names {d:Dm} {i:Nat} (hp:prsE (d.mem i).formula=0) {s:ByteArray} (hs:s∈refsT (treF d i)):s.data.toList∈nmsOf d i:=by
 unfold treF at hs
 obtain ⟨j,hj,h2,h3⟩:=(refs_mem (form_read hp) s).1 hs
 rw [←h3]
 refine nms_has ?_ h2
 rw [List.getD_eq_getElem?_getD,List.getElem?_eq_getElem hj]
 exact List.getElem_mem hj
theorem mErr_prsE {d:Dm} {i:Nat} (hf:(d.mem i).formula.size≠0) (h:mErr d i=0):prsE (d.mem i).formula=0:=by
 unfold mErr at h
 rw [if_neg hf] at h
 split at h
 ·rename_i h1;exact absurd h h1
 ·rename_i h1;simpa using h1
theorem oneV_same {d:Dm} (hd:(dimErr d).2=0) {i:Nat} (hm:mErr d i=0) {a b:Int→Int×Int} (h:∀ x∈mNd d i,a x=b x):oneV d a i=oneV d b i:=by
 unfold oneV
 by_cases hf:(d.mem i).formula.size=0
 ·rw [if_pos hf,if_pos hf]
  have hall:∀ (P:List Int) (c:Int×Int),(∀ x∈P,x∈partsOf d.mem d.n i)→P.foldl (partStep d.mem a) c=P.foldl (partStep d.mem b) c:=by
   intro P
   induction P with
   | nil=>intro c _;rfl
   | cons x r ih =>
    intro c hP
    have hx:=hP x (by simp)
    rw [List.foldl_cons,List.foldl_cons]
    have e:partStep d.mem a c x=partStep d.mem b c x:=by
     unfold partStep
     by_cases hs:(d.mem x.toNat).sign=0
     ·rw [if_neg (by omega),if_neg (by omega),if_neg (by omega),if_neg (by omega)]
     ·have hn:x∈mNd d i:=by
       rw [←parts_need hf,List.mem_filter]
       exact ⟨hx,by unfold sgB;exact decide_eq_true hs⟩
      rw [h x hn]
    rw [e]
    exact ih _ fun y hy=>hP y (List.mem_cons_of_mem _ hy)
  exact hall _ _ fun x hx=>hx
 ·rw [if_neg hf,if_neg hf]
  refine valG_same _ _ _ fun s hs=>h _ ?_
  exact (need_names hd hf hm _).2 ⟨_,tre_names (mErr_prsE hf hm) hs,rfl⟩
def byTo (D:Nat→Dm) (p:List Int):Nat→Int
 | 0 => -1
 | k+1=>if leafB (D k).mem (D k).n (p.getD k 0).toNat=false∧(byTo D p k<0∨(D (byTo D p k).toNat).solve<(D k).solve) then (k:Int) else byTo D p k
theorem by_in (D:Nat→Dm) (p:List Int) (k:Nat):byTo D p k = -1∨∃ b:Nat,byTo D p k=(b:Int)∧b<k:=by
 induction k with
 | zero=>exact Or.inl rfl
 | succ k ih =>
  unfold byTo
  split
  ·exact Or.inr ⟨k,rfl,by omega⟩
  ·rcases ih with h | ⟨b,h1,h2⟩
   ·exact Or.inl h
   ·exact Or.inr ⟨b,h1,by omega⟩
def rkD (d:Dm) (i:Int):Nat:=(ordTo (ndL d) d.n).idxOf i
theorem ord_all {d:Dm} (h:(rErr d).2=0) {i:Nat} (hi:i<d.n):(i:Int)∈ordTo (ndL d) d.n:=by
 refine Classical.byContradiction fun hn=>?_
 obtain ⟨h1,h2⟩:=ord_in (ndL d) d.n
 rw [ndL_len] at h2
 have:=few d.n ((i:Int) :: ordTo (ndL d) d.n) (List.nodup_cons.2 ⟨hn,h1⟩) fun x hx=>by
  rcases List.mem_cons.1 hx with rfl | hx
  ·omega
  ·exact h2 x hx
 rw [List.length_cons,ord_len (ndL_inn d) (rErr_acyc h) d.n (by rw [ndL_len];exact Nat.le_refl _)] at this
 omega
theorem rk_less {d:Dm} (h:(rErr d).2=0) {i:Nat} (hi:i<d.n) {x:Int} (hx:x∈mNd d i):rkD d x<rkD d i:=by
 obtain ⟨k,hk,e⟩:=List.getElem_of_mem (ord_all h hi)
 have hl:=ord_len (ndL_inn d) (rErr_acyc h) d.n (by rw [ndL_len];exact Nat.le_refl _)
 have hk2:k<(ndL d).length:=by rw [ndL_len];omega
 obtain ⟨m,h1,h2,h3,h4,-⟩:=ord_at (ndL_inn d) (rErr_acyc h) hk2
 rw [ndL_len] at h1 h3 h4
 have hm:m=i:=by
  rw [List.getD_eq_getElem?_getD,List.getElem?_eq_getElem hk,e] at h1
  have:(i:Int)=(m:Int):=by simpa using h1
  omega
 subst hm
 rw [ndL_at hi] at h4
 have hx2:=h4 x hx
 unfold rkD
 have hsp:ordTo (ndL d) d.n=(ordTo (ndL d) d.n).take k ++ (ordTo (ndL d) d.n).drop k:=(List.take_append_drop _ _).symm
 have hkl:((ordTo (ndL d) d.n).take k).length=k:=by rw [List.length_take];omega
 have a1:(ordTo (ndL d) d.n).idxOf x<k:=by
  rw [hsp,List.idxOf_append,if_pos hx2]
  have:=List.idxOf_lt_length_of_mem hx2
  omega
 have a2:k≤(ordTo (ndL d) d.n).idxOf (m:Int):=by
  rw [hsp,List.idxOf_append,if_neg h3]
  omega
 omega
def msrTo (D:Nat→Dm) (p:List Int):Nat→Nat
 | 0=>0
 | k+1=>msrTo D p k+rkD (D k) (p.getD k 0)
theorem getD_set_at {p:List Int} {b:Nat} {x:Int} (h:b<p.length):(p.set b x).getD b 0=x:=by
 simp [List.getD,h]
theorem getD_set_off {p:List Int} {b k:Nat} {x:Int} (h:k≠b):(p.set b x).getD k 0=p.getD k 0:=by
 simp [List.getD,List.getElem?_set_ne (fun e=>h e.symm)]
theorem msr_less {D:Nat→Dm} {p:List Int} {b:Nat} {x:Int} (hb:b<p.length) (hr:rkD (D b) x<rkD (D b) (p.getD b 0)) (k:Nat):(k≤b→msrTo D (p.set b x) k=msrTo D p k)∧(b<k→msrTo D (p.set b x) k<msrTo D p k):=by
 induction k with
 | zero=>exact ⟨fun _=>rfl,fun h=>by omega⟩
 | succ k ih =>
  refine ⟨fun h=>?_,fun h=>?_⟩
  ·rw [msrTo,msrTo,ih.1 (by omega),getD_set_off (by omega)]
  ·rw [msrTo,msrTo]
   by_cases e:k=b
   ·subst e
    rw [ih.1 (Nat.le_refl _),getD_set_at hb]
    omega
   ·have:=ih.2 (by omega)
    rw [getD_set_off e]
    omega
def solF (D:Nat→Dm) (n:Nat) (inp:List Int→Int×Int):Nat→List Int→Int×Int
 | 0,_=>(0,0)
 | f+1,p=>if byTo D p n<0 then inp p else oneV (D (byTo D p n).toNat) (fun x=>solF D n inp f (p.set (byTo D p n).toNat x)) (p.getD (byTo D p n).toNat 0).toNat
def AllR (D:Nat→Dm) (n:Nat):Prop := ∀ i,i<n→(rErr (D i)).2=0
theorem inO_set {D:Nat→Dm} {n:Nat} {p:List Int} (h:InO D n p) {b:Nat} (hb:b<n) {x:Int} (h0:0≤x) (h1:x<((D b).n:Int)):InO D n (p.set b x):=by
 refine ⟨h.right,by rw [List.length_set];exact h.len,fun i hi=>?_,fun i hi=>?_⟩
 ·by_cases e:i=b
  ·subst e
   rw [getD_set_at (by rw [h.len];exact hb)]
   exact h0
  ·rw [getD_set_off e]
   exact h.lo i hi
 ·by_cases e:i=b
  ·subst e
   rw [getD_set_at (by rw [h.len];exact hb)]
   exact h1
  ·rw [getD_set_off e]
   exact h.hi i hi
theorem sol_same {D:Nat→Dm} {n:Nat} (hR:AllR D n) (inp:List Int→Int×Int):∀ (f g:Nat) (p:List Int),InO D n p→msrTo D p n<f→msrTo D p n<g→solF D n inp f p=solF D n inp g p:=by
 intro f
 induction f with
 | zero=>intro g p _ h;omega
 | succ f ih =>
  intro g p hp hf hg
  obtain ⟨g,rfl⟩:∃ g',g=g'+1:=⟨g-1,by omega⟩
  unfold solF
  rcases by_in D p n with h | ⟨b,h1,h2⟩
  ·rw [h,if_pos (by omega),if_pos (by omega)]
  ·rw [h1,if_neg (by omega),if_neg (by omega),Int.toNat_natCast]
   obtain ⟨hd,hm,-,-⟩:=rErr_right (hR b h2)
   obtain ⟨hp0,hp1⟩:0≤p.getD b 0∧p.getD b 0<((D b).n:Int):=⟨hp.lo b h2,hp.hi b h2⟩
   refine oneV_same hd (hm _ (by omega)) fun x hx=>?_
   have hxi:=mNd_in hx
   have hi2:(p.getD b 0).toNat<(D b).n:=by omega
   have hrk:=rk_less (hR b h2) hi2 hx
   rw [Int.toNat_of_nonneg hp0] at hrk
   have hms:=(msr_less (by rw [hp.len];exact h2) hrk n).2 h2
   exact ih g _ (inO_set hp h2 hxi.1 hxi.2) (by omega) (by omega)
def solV (D:Nat→Dm) (n:Nat) (inp:List Int→Int×Int) (p:List Int):Int×Int:=solF D n inp (msrTo D p n+1) p
theorem sol_leaf {D:Nat→Dm} {n:Nat} (inp:List Int→Int×Int) {p:List Int} (h:byTo D p n<0):solV D n inp p=inp p:=by
 unfold solV solF
 rw [if_pos h]
theorem sol_by {D:Nat→Dm} {n:Nat} (hR:AllR D n) (inp:List Int→Int×Int) {p:List Int} (hp:InO D n p) {b:Nat} (hb:byTo D p n=(b:Int)):solV D n inp p=oneV (D b) (fun x=>solV D n inp (p.set b x)) (p.getD b 0).toNat:=by
 have h2:b<n:=by
  rcases by_in D p n with h | ⟨b',h1,h2⟩
  ·omega
  ·omega
 show solF D n inp (msrTo D p n+1) p=_
 unfold solF
 rw [hb,if_neg (by omega),Int.toNat_natCast]
 obtain ⟨hd,hm,-,-⟩:=rErr_right (hR b h2)
 obtain ⟨hp0,hp1⟩:0≤p.getD b 0∧p.getD b 0<((D b).n:Int):=⟨hp.lo b h2,hp.hi b h2⟩
 refine oneV_same hd (hm _ (by omega)) fun x hx=>?_
 have hxi:=mNd_in hx
 have hi2:(p.getD b 0).toNat<(D b).n:=by omega
 have hrk:=rk_less (hR b h2) hi2 hx
 rw [Int.toNat_of_nonneg hp0] at hrk
 have hms:=(msr_less (by rw [hp.len];exact h2) hrk n).2 h2
 exact sol_same hR inp _ _ _ (inO_set hp h2 hxi.1 hxi.2) (by omega) (by omega)
end Go.Proofs.YtnlfpaopfloklaaGreatDoor
namespace Go.Proofs.YtnlfpaopfloklaaGreatDoor
open Go.ChangeShapes Go.WideShapes Go.ChangeAt Go.RowKit
set_option maxRecDepth 20000
theorem OwD.dimsO {w:World} {B g cd n:Nat} {D:Nat→Dm} {G C:Nat→Nat} (h:OwD w B g cd n D G C):DimsO w B g n D G C:=by
 have hd:=h.dims
 obtain ⟨b1,-,-,-,-⟩:=ow_blk hd
 rw [←rowF_dc] at hd
 refine ⟨b1,?_,fun i hi=>?_⟩
 ·rcases hd.2 with ⟨h',_⟩ | ⟨g',cap',cur,h',hb,hg,hnc,hcm,hcs,ht⟩
  ·cases h'
  ·cases h'
   refine ⟨cur,hg,fun j hj=>?_⟩
   have:=rowF_get (dcV D (fun i=>some ⟨G i,0,none⟩) C) hj
   rw [←ht,List.getElem?_take,if_pos (by omega),Array.getElem?_toList] at this
   exact this
 ·have hm:=h.mems i hi
  obtain ⟨m1,-,m3,-,-⟩:=ow_blk hm
  rw [←rowF_mc] at hm
  rcases hm.2 with ⟨h',_⟩ | ⟨g',cap',cur,h',hb,hg,hnc,hcm,hcs,ht⟩
  ·cases h'
  ·cases h'
   refine ⟨m1,m3,cur,_,hg,fun j hj=>?_⟩
   have:=rowF_get (mcV (D i).mem) hj
   rw [←ht,List.getElem?_take,if_pos (by omega),Array.getElem?_toList] at this
   exact this
theorem ofresh_any (A0:Option Addr) (cap n:Nat) (D:Nat→Dm) (A:Nat→Option Addr) (C:Nat→Nat) (w:World) (hE:(allErr D n).2.2=0) (hM:DimsV w A0 cap n D A C) :
  Calls Tryz.prog 11 #[.agg #[.slice A0 n cap]] w fun e w'=>(∃ g c G C',e=.returned (.agg #[.slice (some ⟨g,0,none⟩) n c])∧n≤c∧DimsO w' w.heap.size g n D G C')∧Below w.heap.size w w' :=
 (ofresh_own A0 cap n D A C w hE hM).mono fun _ _ ⟨⟨g,c,G,C',h1,h2⟩,h3⟩=>⟨⟨g,c,G,C',h1,(ow_blk h2.dims).2.2.1,h2.dimsO⟩,h3⟩
end Go.Proofs.YtnlfpaopfloklaaGreatDoor
