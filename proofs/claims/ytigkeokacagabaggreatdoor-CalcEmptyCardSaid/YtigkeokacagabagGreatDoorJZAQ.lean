/-
  What package tree tells, as plain functions on plain data: the path of a member, its parts, its leafs, how a leaf counts in a member, how long paths are; and small facts on them.
-/
import Derived.Sort.Walk0
import Derived.Test.YtigkeokacagabagGreatDoorShelfG
import Derived.Laws.Cover1
import Derived.Test.YtigkeokacagabagGreatDoorJZAM
import Derived.Test.YtigkeokacagabagGreatDoorJZAP
namespace Go.Proofs.YtigkeokacagabagGreatDoor
def Sg (M:Nat→Mem) (n:Nat):Prop := ∀ k,k<n→-1≤(M k).sign∧(M k).sign≤1
theorem memErr_tree {M:Nat→Mem} {i:Nat} (h:memErr M i=0):(-1≤(M i).parent∧(M i).parent<(i:Int))∧(-1≤(M i).sign∧(M i).sign≤1)∧(0≤(M i).parent→(M (M i).parent.toNat).formula.size=0):=by
 unfold memErr at h
 split at h
 ·simp at h
 ·split at h
  ·simp at h
  ·split at h
   ·simp at h
   ·split at h
    ·simp at h
    ·split at h
     ·simp at h
     ·rename_i h1 h2 h3 h4 h5
      refine ⟨by omega,by omega,fun h6=>?_⟩
      exact Decidable.byContradiction fun h7=>h4 ⟨h6,h7⟩
theorem Sg.of {d:Dm} (h:(dimErr d).2=0):Sg d.mem d.n:=fun k hk=>(memErr_tree ((dimErr_right h).2.2.2 k hk)).2.1
end Go.Proofs.YtigkeokacagabagGreatDoor
namespace Go.Proofs.YtigkeokacagabagGreatDoor
open Go Go.ChangeShapes Go.WideShapes Go.ChangeAt Go.RowKit Go.Deep
set_option maxRecDepth 100000
section
variable {H:Type} {enc:TypeId×Value→H} {w:World} {held:Bool}
theorem plain_add (b o k:Nat):(⟨b,o,none⟩:Addr).add k=⟨b,o+k,none⟩:=by
 unfold Addr.add
 by_cases hk:k=0
 ·subst hk;simp
 ·rw [if_neg hk]
end
end Go.Proofs.YtigkeokacagabagGreatDoor
namespace Go.Proofs.YtigkeokacagabagGreatDoor
theorem nms_has {l:List Nd} {x:Nd} (hx:x∈l) (h:x.op=2):x.name.data.toList∈nmsTo l l.length:=by
 unfold nmsTo
 rw [List.take_length]
 exact List.mem_map.2 ⟨x,List.mem_filter.2 ⟨hx,by simp [h]⟩,rfl⟩
end Go.Proofs.YtigkeokacagabagGreatDoor
namespace Go.Proofs.YtigkeokacagabagGreatDoor
open Go.ChangeShapes Go.WideShapes Go.ChangeAt Go.RowKit
def joinP (blank:Bool) (ka kb:Int) (r:Int×Int):Int×Int:=if ka=2∨kb=2 then (2,0) else if blank=true then (0,0) else r
def JoinsTo (fb fo:Nat) (ka na kb nb k n:Int) (er:Value):Prop := ∀ (w:World),Calls Tryz.prog 172 #[.agg #[.int .i64 ka,.int .i64 na],.agg #[.int .i64 kb,.int .i64 nb],.func (.func fb) #[] #[],.func (.func fo) #[] #[]] w fun e w'=>e=.returned (.tuple #[.agg #[.int .i64 k,.int .i64 n],er])∧Below w.heap.size w w'
def OpTo (f:Nat) (ka na kb nb k n:Int) (er:Value):Prop := ∀ (w:World),Calls Tryz.prog f #[.agg #[.int .i64 ka,.int .i64 na],.agg #[.int .i64 kb,.int .i64 nb]] w fun e w'=>e=.returned (.tuple #[.agg #[.int .i64 k,.int .i64 n],er])∧Below w.heap.size w w'
theorem joins_yes (fb fo:Nat) (p:Int→Int→Bool) (he:Enters fb) (hp:Blank fb p) (heo:Enters fo) (ka na kb nb:Int) (ha:good ka na=true) (hb:good kb nb=true) (r:Int×Int) (ho:Makes fo na nb r) :
  JoinsTo fb fo ka na kb nb (joinP (p ka kb) ka kb r).1 (joinP (p ka kb) ka kb r).2 .nilIface:=by
 intro w
 unfold joinP
 by_cases hf:ka=2∨kb=2
 ·rw [if_pos hf]
  exact join_fault _ _ ka na kb nb w ha hb (by simp;exact hf)
 ·rw [if_neg hf]
  have hff:((fun k:Int=>k == 2) ka || (fun k:Int=>k == 2) kb)=false:=by simp;omega
  cases hpp:p ka kb
  ·rw [if_neg (by simp)]
   exact join_made fb fo p he hp heo ka na kb nb w ha hb r ho hff hpp
  ·rw [if_pos rfl]
   exact join_blank fb p he hp _ ka na kb nb w ha hb hff hpp
theorem good_bd {k n:Int} (h:good k n=true) : -1000000000000≤n∧n≤1000000000000:=by simp [good] at h;omega
def plusP (ka na kb nb:Int):Int×Int:=joinP (!(ka != 0 || kb != 0)) ka kb (ofP (na+nb))
def minusP (ka na kb nb:Int):Int×Int:=joinP (!(ka != 0 || kb != 0)) ka kb (ofP (na-nb))
def timesP (ka na kb nb:Int):Int×Int:=joinP (ka == 0 || kb == 0) ka kb (ofP (na*nb))
def overP (ka na kb nb:Int):Int×Int:=joinP (ka == 0 || kb == 0) ka kb (quoP na nb)
theorem add_of (ka na kb nb k n:Int) (er:Value) (h:JoinsTo 173 175 ka na kb nb k n er):OpTo 131 ka na kb nb k n er:=by
 intro w
 unfold JoinsTo at h
 go_enter Tryz.func131,Tryz.ntmps131
 go_wp2_with fail
 refine (h _).mono ?_
 rintro e w1 ⟨rfl,hb⟩
 have hB:Below w.heap.size w w1:=Below.trans (by go_grown) (hb.mono (by simp;omega))
 obtain ⟨hc,hf⟩:=bcell hb
 have hz:=bsize hb
 simp at hz
 go_wp2_with fail
 refine bodyPost_ret (v:=.tuple #[.agg #[.int .i64 k,.int .i64 n],er]) (by simp [results,Tryz.results131,go_sem,hc]) rfl ⟨rfl,?_⟩
 go_grown
theorem add_yes (ka na kb nb:Int) (ha:good ka na=true) (hb:good kb nb=true):OpTo 131 ka na kb nb (plusP ka na kb nb).1 (plusP ka na kb nb).2 .nilIface:=by
 obtain ⟨h1,h2⟩:=good_bd ha
 obtain ⟨h3,h4⟩:=good_bd hb
 exact add_of _ _ _ _ _ _ _ (joins_yes _ _ _ both_in both_any plus_in ka na kb nb ha hb _ (plus_any na nb h1 h2 h3 h4))
theorem sub_of (ka na kb nb k n:Int) (er:Value) (h:JoinsTo 173 174 ka na kb nb k n er):OpTo 130 ka na kb nb k n er:=by
 intro w
 unfold JoinsTo at h
 go_enter Tryz.func130,Tryz.ntmps130
 go_wp2_with fail
 refine (h _).mono ?_
 rintro e w1 ⟨rfl,hb⟩
 have hB:Below w.heap.size w w1:=Below.trans (by go_grown) (hb.mono (by simp;omega))
 obtain ⟨hc,hf⟩:=bcell hb
 have hz:=bsize hb
 simp at hz
 go_wp2_with fail
 refine bodyPost_ret (v:=.tuple #[.agg #[.int .i64 k,.int .i64 n],er]) (by simp [results,Tryz.results130,go_sem,hc]) rfl ⟨rfl,?_⟩
 go_grown
theorem sub_yes (ka na kb nb:Int) (ha:good ka na=true) (hb:good kb nb=true):OpTo 130 ka na kb nb (minusP ka na kb nb).1 (minusP ka na kb nb).2 .nilIface:=by
 obtain ⟨h1,h2⟩:=good_bd ha
 obtain ⟨h3,h4⟩:=good_bd hb
 exact sub_of _ _ _ _ _ _ _ (joins_yes _ _ _ both_in both_any minus_in ka na kb nb ha hb _ (minus_any na nb h1 h2 h3 h4))
theorem mul_of (ka na kb nb k n:Int) (er:Value) (h:JoinsTo 229 230 ka na kb nb k n er):OpTo 205 ka na kb nb k n er:=by
 intro w
 unfold JoinsTo at h
 go_enter Tryz.func205,Tryz.ntmps205
 go_wp2_with fail
 refine (h _).mono ?_
 rintro e w1 ⟨rfl,hb⟩
 have hB:Below w.heap.size w w1:=Below.trans (by go_grown) (hb.mono (by simp;omega))
 obtain ⟨hc,hf⟩:=bcell hb
 have hz:=bsize hb
 simp at hz
 go_wp2_with fail
 refine bodyPost_ret (v:=.tuple #[.agg #[.int .i64 k,.int .i64 n],er]) (by simp [results,Tryz.results205,go_sem,hc]) rfl ⟨rfl,?_⟩
 go_grown
theorem mul_yes (ka na kb nb:Int) (ha:good ka na=true) (hb:good kb nb=true):OpTo 205 ka na kb nb (timesP ka na kb nb).1 (timesP ka na kb nb).2 .nilIface:=by
 obtain ⟨h1,h2⟩:=good_bd ha
 obtain ⟨h3,h4⟩:=good_bd hb
 exact mul_of _ _ _ _ _ _ _ (joins_yes _ _ _ one_in one_any product_in ka na kb nb ha hb _ (product_any na nb h1 h2 h3 h4))
theorem div_of (ka na kb nb k n:Int) (er:Value) (h:JoinsTo 229 231 ka na kb nb k n er):OpTo 206 ka na kb nb k n er:=by
 intro w
 unfold JoinsTo at h
 go_enter Tryz.func206,Tryz.ntmps206
 go_wp2_with fail
 refine (h _).mono ?_
 rintro e w1 ⟨rfl,hb⟩
 have hB:Below w.heap.size w w1:=Below.trans (by go_grown) (hb.mono (by simp;omega))
 obtain ⟨hc,hf⟩:=bcell hb
 have hz:=bsize hb
 simp at hz
 go_wp2_with fail
 refine bodyPost_ret (v:=.tuple #[.agg #[.int .i64 k,.int .i64 n],er]) (by simp [results,Tryz.results206,go_sem,hc]) rfl ⟨rfl,?_⟩
 go_grown
theorem div_yes (ka na kb nb:Int) (ha:good ka na=true) (hb:good kb nb=true):OpTo 206 ka na kb nb (overP ka na kb nb).1 (overP ka na kb nb).2 .nilIface:=by
 obtain ⟨h1,h2⟩:=good_bd ha
 obtain ⟨h3,h4⟩:=good_bd hb
 exact div_of _ _ _ _ _ _ _ (joins_yes _ _ _ one_in one_any quotient_in ka na kb nb ha hb _ (quotient_any na nb h1 h2))
end Go.Proofs.YtigkeokacagabagGreatDoor
namespace Go.Proofs.YtigkeokacagabagGreatDoor
open Go.ChangeShapes Go.WideShapes Go.ChangeAt Go.RowKit
set_option maxRecDepth 20000
def noC:Int×Int:=(0,0)
def cellsC:List (Int×Int)→List Value
 | []=>[]
 | c :: r=>.int .i64 c.1 :: .int .i64 c.2 :: cellsC r
theorem cellsC_append (a b:List (Int×Int)):cellsC (a ++ b)=cellsC a ++ cellsC b:=by
 induction a with
 | nil=>rfl
 | cons x r ih=>simp [cellsC,ih]
theorem cellsC_one (L:List (Int×Int)):∀ v∈cellsC L,v.oneCell'=true:=by
 induction L with
 | nil=>intro v hv;cases hv
 | cons x r ih =>
  intro v hv
  simp only [cellsC,List.mem_cons] at hv
  rcases hv with rfl | rfl | hv
  ·rfl
  ·rfl
  ·exact ih v hv
theorem cellsC_at (L:List (Int×Int)):∀ k,k<L.length→(cellsC L)[k*2]?=some (.int .i64 (L.getD k noC).1)∧(cellsC L)[k*2+1]?=some (.int .i64 (L.getD k noC).2):=by
 induction L with
 | nil=>intro k hk;cases hk
 | cons x r ih =>
  intro k hk
  cases k with
  | zero=>simp [cellsC]
  | succ k =>
   rw [show (k+1)*2=k*2+1+1 by omega]
   simp only [cellsC,List.getElem?_cons_succ,List.getD_cons_succ]
   exact ih k (by simpa using hk)
def CelAt (w:World) (b o:Nat) (L:List (Int×Int)):Prop:=b<w.heap.size∧∀ k,k<L.length→w.cell? ⟨b,o+k*2,none⟩=some (.int .i64 (L.getD k noC).1)∧w.cell? ⟨b,o+k*2+1,none⟩=some (.int .i64 (L.getD k noC).2)
theorem CelAt.later {w w':World} {b o:Nat} {L:List (Int×Int)} (h:CelAt w b o L) (hB:Below w.heap.size w w'):CelAt w' b o L :=
 ⟨Nat.lt_of_lt_of_le h.1 hB.size,fun k hk=>⟨(hB.cell (p:=⟨b,o+k*2,none⟩) h.1).trans (h.2 k hk).1,(hB.cell (p:=⟨b,o+k*2+1,none⟩) h.1).trans (h.2 k hk).2⟩⟩
def CelV (w:World) (A:Option Addr) (cap:Nat) (L:List (Int×Int)):Prop:=L.length≤cap∧cap≤9223372036854775807∧(L=[]∨∃ b o,A=some ⟨b,o,none⟩∧CelAt w b o L)
theorem CelV.later {w w':World} {A:Option Addr} {cap:Nat} {L:List (Int×Int)} (h:CelV w A cap L) (hB:Below w.heap.size w w'):CelV w' A cap L:=by
 obtain ⟨h1,h0,h2 | ⟨b,o,h2,h3⟩⟩:=h
 ·exact ⟨h1,h0,Or.inl h2⟩
 ·exact ⟨h1,h0,Or.inr ⟨b,o,h2,h3.later hB⟩⟩
theorem CelV.nil (w:World) (A:Option Addr) (cap:Nat) (h:cap≤9223372036854775807):CelV w A cap []:=⟨Nat.zero_le _,h,Or.inl rfl⟩
def CelB (w:World) (g:Nat) (L:List (Int×Int)):Prop := ∃ cur:Array Value,w.heap[g]?=some (.cells cur 32 (0,0))∧∀ k,k<L.length→cur[k*2]?=some (.int .i64 (L.getD k noC).1)∧cur[k*2+1]?=some (.int .i64 (L.getD k noC).2)
section
variable {w w':World} {g:Nat} {L:List (Int×Int)}
theorem CelB.lt (h:CelB w g L):g<w.heap.size:=by
 obtain ⟨cur,h1,_⟩:=h
 exact (Array.getElem?_eq_some_iff.1 h1).1
theorem CelB.same (h:CelB w g L) (hb:w'.heap[g]?=w.heap[g]?):CelB w' g L:=by
 obtain ⟨cur,h1,h2⟩:=h
 exact ⟨cur,hb.trans h1,h2⟩
theorem CelB.later (h:CelB w g L) (hB:Below w.heap.size w w'):CelB w' g L:=h.same (hB.block g h.lt)
theorem CelB.at (h:CelB w g L) {k:Nat} (hk:k<L.length):w.cell? ⟨g,k*2,none⟩=some (.int .i64 (L.getD k noC).1)∧w.cell? ⟨g,k*2+1,none⟩=some (.int .i64 (L.getD k noC).2):=by
 obtain ⟨cur,h1,h2⟩:=h
 obtain ⟨h3,h4⟩:=h2 k hk
 exact ⟨by simp [World.cell?,h1,h3],by simp [World.cell?,h1,h4]⟩
theorem CelB.frozen (h:CelB w g L) (j:Nat):w.frozen? ⟨g,j,none⟩=false:=by
 obtain ⟨cur,h1,_⟩:=h
 exact Lib.frozen_of_heap h1 j
theorem CelB.celAt (h:CelB w g L):CelAt w g 0 L:=⟨h.lt,fun k hk=>by rw [Nat.zero_add];exact h.at hk⟩
theorem CelB.set (h:CelB w g L) {x:Nat} (hx:x<L.length) (a b:Int):CelB ((w.setCell ⟨g,x*2,none⟩ (.int .i64 a)).setCell ⟨g,x*2+1,none⟩ (.int .i64 b)) g (L.set x (a,b)):=by
 obtain ⟨cur,h1,h2⟩:=h
 refine ⟨(cur.setIfInBounds (x*2) (.int .i64 a)).setIfInBounds (x*2+1) (.int .i64 b),by simp [World.setCell,Array.getElem?_modify,h1],fun k hk=>?_⟩
 rw [List.length_set] at hk
 obtain ⟨h3,h4⟩:=h2 k hk
 obtain ⟨h5,h6⟩:=h2 x hx
 have z0:=(Array.getElem?_eq_some_iff.1 h5).1
 have z1:=(Array.getElem?_eq_some_iff.1 h6).1
 by_cases e:k=x
 ·subst e
  constructor
  ·rw [Array.getElem?_setIfInBounds_ne (by omega),Array.getElem?_setIfInBounds_self_of_lt z0]
   simp [List.getD,hk]
  ·rw [Array.getElem?_setIfInBounds_self_of_lt (by simpa using z1)]
   simp [List.getD,hk]
 ·have e1:(L.set x (a,b)).getD k noC=L.getD k noC:=by simp [List.getD,List.getElem?_set_ne (fun h=>e h.symm)]
  rw [e1]
  constructor
  ·rw [Array.getElem?_setIfInBounds_ne (by omega),Array.getElem?_setIfInBounds_ne (by omega)];exact h3
  ·rw [Array.getElem?_setIfInBounds_ne (by omega),Array.getElem?_setIfInBounds_ne (by omega)];exact h4
theorem celB_own {base:Nat} {v:Value} (h:w.ownsRow base 32 2 v L.length (cellsC L)) (hl:0<L.length):∃ g c,v=.slice (some ⟨g,0,none⟩) L.length c∧base≤g∧L.length≤c∧c≤9223372036854775807∧CelB w g L:=by
 rcases h.2 with ⟨_,h0⟩ | ⟨g,cap,cur,rfl,hb,hg,h4,h5,h6,h7⟩
 ·omega
 ·refine ⟨g,cap,rfl,hb,h4,by unfold maxLen at h5;omega,cur,hg,fun k hk=>?_⟩
  obtain ⟨x0,x1⟩:=cellsC_at L k hk
  rw [←h7,List.getElem?_take,if_pos (by omega),Array.getElem?_toList] at x0 x1
  exact ⟨x0,x1⟩
end
theorem Tryz.infoCe:(Tryz.prog.info? 32).map (fun i=>(i.zero,i.size,i.bytes))=some (some (.agg #[.int .i64 0,.int .i64 0]),2,16):=by kernel_rfl
def goodB (L:List (Int×Int)) (k:Nat):Bool := !(good (L.getD k noC).1 (L.getD k noC).2)
end Go.Proofs.YtigkeokacagabagGreatDoor
namespace Go.Proofs.YtigkeokacagabagGreatDoor
def noS:ByteArray:=⟨#[]⟩
def okC (c:Int×Int):Prop:=good c.1 c.2=true
theorem okC_no:okC noC:=rfl
theorem okC_ofP (n:Int):okC (ofP n):=by
 unfold okC ofP good
 split
 ·rename_i h;simp [h.1,h.2]
 ·simp
theorem okC_quo (x y:Int):okC (quoP x y):=by
 unfold quoP
 split
 ·rfl
 ·exact okC_ofP _
theorem okC_join (b:Bool) (ka kb:Int) {r:Int×Int} (h:okC r):okC (joinP b ka kb r):=by
 unfold joinP
 split
 ·rfl
 ·split
  ·rfl
  ·exact h
def opP (o:Int) (a b:Int×Int):Int×Int:=if o=3 then plusP a.1 a.2 b.1 b.2 else if o=4 then minusP a.1 a.2 b.1 b.2 else if o=5 then timesP a.1 a.2 b.1 b.2 else overP a.1 a.2 b.1 b.2
theorem opP_ok (o:Int) (a b:Int×Int):okC (opP o a b):=by
 unfold opP
 split
 ·exact okC_join _ _ _ (okC_ofP _)
 ·split
  ·exact okC_join _ _ _ (okC_ofP _)
  ·split
   ·exact okC_join _ _ _ (okC_ofP _)
   ·exact okC_join _ _ _ (okC_quo _ _)
def isS (N:List ByteArray) (s:ByteArray) (i:Nat):Bool:=decide (N.getD i noS=s)
def whereS (N:List ByteArray) (s:ByteArray):Int:=findFrom (isS N s) N.length 0
theorem where_cases (N:List ByteArray) (s:ByteArray):(whereS N s = -1∧∀ j,j<N.length→N.getD j noS≠s)∨∃ i:Nat,whereS N s=(i:Int)∧i<N.length∧N.getD i noS=s:=by
 unfold whereS
 rcases findFrom_cases (isS N s) N.length 0 with ⟨h1,h2⟩ | ⟨m,h1,h2,h3,h4,h5⟩
 ·left
  refine ⟨h1,fun j hj=>?_⟩
  have:=h2 j (Nat.zero_le _) (by omega)
  simpa [isS] using this
 ·right
  exact ⟨m,h1,by omega,of_decide_eq_true h4⟩
def downS (N:List ByteArray) (i:Nat):Bool:=Op.bytesLess (N.getD i noS).toList (N.getD (i-1) noS).toList || (N.getD i noS).toList == (N.getD (i-1) noS).toList
def ckErr (N:List ByteArray) (C:List (Int×Int)):Int:=if C.length≠N.length then 3 else if 0≤findFrom (goodB C) C.length 0 then 1 else if 0≤findFrom (downS N) (N.length-1) 1 then 7 else 0
theorem ck_shape {N:List ByteArray} {C:List (Int×Int)} (h:C.length≠N.length):ckErr N C=3:=by unfold ckErr;rw [if_pos h]
theorem ck_cell {N:List ByteArray} {C:List (Int×Int)} (h:C.length=N.length) {i:Nat} (hi:i<C.length) (hb:goodB C i=true):ckErr N C=1:=by
 unfold ckErr
 rw [if_neg (by simpa using h)]
 rcases findFrom_cases (goodB C) C.length 0 with ⟨_,h5⟩ | ⟨m,e,_⟩
 ·rw [h5 i (Nat.zero_le _) (by omega)] at hb;cases hb
 ·rw [e,if_pos (by omega)]
theorem ck_down {N:List ByteArray} {C:List (Int×Int)} (h:C.length=N.length) (hg:∀ j,j<C.length→goodB C j=false) {i:Nat} (h1:1≤i) (hi:i<N.length) (hb:downS N i=true):ckErr N C=7:=by
 unfold ckErr
 rw [if_neg (by simpa using h),findFrom_none (fun j _ hj=>hg j (by omega)),if_neg (by omega)]
 rcases findFrom_cases (downS N) (N.length-1) 1 with ⟨_,h5⟩ | ⟨m,e,_⟩
 ·rw [h5 i h1 (by omega)] at hb;cases hb
 ·rw [e,if_pos (by omega)]
theorem ck_good {N:List ByteArray} {C:List (Int×Int)} (h:C.length=N.length) (hg:∀ j,j<C.length→goodB C j=false) (hd:∀ j,1≤j→j<N.length→downS N j=false):ckErr N C=0:=by
 unfold ckErr
 rw [if_neg (by simpa using h),findFrom_none (fun j _ hj=>hg j (by omega)),if_neg (by omega),findFrom_none (fun j h1 hj=>hd j h1 (by omega)),if_neg (by omega)]
theorem ck_right {N:List ByteArray} {C:List (Int×Int)} (h:ckErr N C=0):C.length=N.length∧(∀ j,j<C.length→goodB C j=false)∧∀ j,1≤j→j<N.length→downS N j=false:=by
 by_cases h1:C.length=N.length
 ·refine ⟨h1,?_⟩
  by_cases h2:∀ j,j<C.length→goodB C j=false
  ·refine ⟨h2,fun j hj1 hj=>?_⟩
   cases hd:downS N j
   ·rfl
   ·rw [ck_down h1 h2 hj1 hj hd] at h;cases h
  ·exfalso
   apply h2
   intro j hj
   cases hd:goodB C j
   ·rfl
   ·rw [ck_cell h1 hj hd] at h;cases h
 ·rw [ck_shape h1] at h;cases h
theorem ck_ok {N:List ByteArray} {C:List (Int×Int)} (h:ckErr N C=0):∀ c∈C,okC c:=by
 intro c hc
 obtain ⟨j,hj,rfl⟩:=List.getElem_of_mem hc
 have:=(ck_right h).2.1 j hj
 unfold goodB at this
 rw [List.getD_eq_getElem?_getD,List.getElem?_eq_getElem hj] at this
 simpa [okC] using this
/-! names that rise -/
theorem down_not {N:List ByteArray} {i:Nat} (h:downS N i=false):(N.getD (i-1) noS).toList<(N.getD i noS).toList:=by
 unfold downS at h
 rw [Bool.or_eq_false_iff,bytesLess_eq] at h
 have h1:=of_decide_eq_false h.1
 have h2:(N.getD i noS).toList≠(N.getD (i-1) noS).toList:=by simpa using h.2
 rcases Std.lt_trichotomy (N.getD i noS).toList (N.getD (i-1) noS).toList with h3 | h3 | h3
 ·exact absurd h3 h1
 ·exact absurd h3 h2
 ·exact h3
theorem rise_all {N:List ByteArray} (h:∀ j,1≤j→j<N.length→downS N j=false):∀ i j,i<j→j<N.length→(N.getD i noS).toList<(N.getD j noS).toList:=by
 intro i j hij
 induction j with
 | zero=>omega
 | succ j ih =>
  intro hj
  have h1:=down_not (h (j+1) (by omega) hj)
  by_cases e:i=j
  ·subst e;exact h1
  ·exact List.lt_trans (ih (by omega) (by omega)) h1
end Go.Proofs.YtigkeokacagabagGreatDoor
namespace Go.Proofs.YtigkeokacagabagGreatDoor
open Go.ChangeShapes Go.WideShapes Go.ChangeAt Go.RowKit
set_option maxRecDepth 20000
def NmV (w:World) (A:Option Addr) (c:Nat) (N:List ByteArray):Prop:=N.length≤c∧N.length<4611686018427387904∧c≤9223372036854775807∧(N=[]∨∃ b o,A=some ⟨b,o,none⟩∧b<w.heap.size∧∀ j,j<N.length→w.cell? ⟨b,o+j,none⟩=some (.string (N.getD j noS)))
theorem NmV.later {w w':World} {A:Option Addr} {c:Nat} {N:List ByteArray} (h:NmV w A c N) (hB:Below w.heap.size w w'):NmV w' A c N:=by
 obtain ⟨h1,h2,h3,h4 | ⟨b,o,h4,h5,h6⟩⟩:=h
 ·exact ⟨h1,h2,h3,Or.inl h4⟩
 ·exact ⟨h1,h2,h3,Or.inr ⟨b,o,h4,Nat.lt_of_lt_of_le h5 hB.size,fun j hj=>(hB.cell (p:=⟨b,o+j,none⟩) h5).trans (h6 j hj)⟩⟩
set_option maxHeartbeats 4000000 in
theorem rkcheck_any (An:Option Addr) (cn:Nat) (N:List ByteArray) (Ac:Option Addr) (cc:Nat) (C:List (Int×Int)) (w:World) (hN:NmV w An cn N) (hC:CelV w Ac cc C) :
  Calls Tryz.prog 126 #[.slice An N.length cn,.slice Ac C.length cc] w fun e w'=>e=.returned (errV (ckErr N C))∧Below w.heap.size w w':=by
 by_cases hne:C.length=N.length
 case neg =>
  have hb:((C.length:Int) != (N.length:Int))=true:=by simp;omega
  rw [ck_shape hne,errV_some (by decide)]
  clear hne hN hC
  go_enter Tryz.func126,Tryz.ntmps126
  go_wp2_with fail
  go_ret
  exact ⟨rfl,Below.refl _ _⟩
 obtain ⟨-,hN2,-,hN4⟩:=hN
 obtain ⟨-,-,hC3⟩:=hC
 obtain ⟨n,hn⟩:∃ n,N.length=n:=⟨_,rfl⟩
 have HNL:Hid (N.length=n):=hn
 have HCL:Hid (C.length=n):=hne.trans hn
 rw [hne,hn]
 rw [hn] at hN2 
 by_cases h0:n=0
 ·subst h0
  rw [ck_good (N:=N) (C:=C) hne (fun j hj=>by have:=HCL.out;omega) (fun j _ hj=>by omega),errV_zero]
  clear hN4 hC3 hne hn hN2
  go_enter Tryz.func126,Tryz.ntmps126
  go_wp2_with fail
  refine wp_loop_rounds 1 ?_
  rw [rounds_succ]
  go_wp2_with fail
  refine wp_loop_rounds 1 ?_
  rw [rounds_succ]
  go_wp2_with fail
  go_ret
  exact ⟨rfl,Below.refl _ _⟩
 obtain ⟨b,o,rfl,hCA⟩:=hC3.resolve_left (fun e=>by rw [e] at hne;simp at hne;omega)
 obtain ⟨bn,on,rfl,hNb,hNA⟩:=hN4.resolve_left (fun e=>by rw [e] at hn;simp at hn;omega)
 have HC:Hid (CelAt w b o C):=hCA
 have HN:Hid (∀ j,j<N.length→w.cell? ⟨bn,on+j,none⟩=some (.string (N.getD j noS))):=hNA
 have hni:(n:Int)<4611686018427387904:=by omega
 have hn0:0<(n:Int):=by omega
 clear hne hn hCA hNA hN2
 go_enter Tryz.func126,Tryz.ntmps126
 go_wp2_with fail
 go_loopg [17] n (fun g s17 wr => ∃ (k:Nat),k≤n∧g=n-k∧s17=.int .i64 k∧(∀ j,j<k→goodB C j=false)∧Below w.heap.size w wr)
 case atStart=>exact ⟨0,Nat.zero_le _,rfl,rfl,fun j hj=>absurd hj (Nat.not_lt_zero j),Below.refl _ _⟩
 case round =>
  obtain ⟨k,hk,rfl,rfl,hbd,hBw⟩:=hrel
  have HBd:Hid (∀ j,j<k→goodB C j=false):=hbd
  have HW:Hid (Below w.heap.size w wr):=hBw
  have hbl:b<w.heap.size:=HC.out.1
  have hsz:=hBw.size
  clear hbd hBw
  by_cases hlt:k<n
  ·have hki:(k:Int)<(n:Int):=by omega
   obtain ⟨x0,x1⟩:=(HC.out.later HW.out).2 k (by rw [HCL.out];exact hlt)
   have hck:=check_any (C.getD k noC).1 (C.getD k noC).2
   obtain ⟨kk,hkk⟩:∃ kk,(C.getD k noC).1=kk:=⟨_,rfl⟩
   obtain ⟨nn,hnn⟩:∃ nn,(C.getD k noC).2=nn:=⟨_,rfl⟩
   have HG:Hid (goodB C k = !(good kk nn)):=by show _=_;unfold goodB;rw [hkk,hnn]
   rw [hkk] at x0 hck
   rw [hnn] at x1 hck
   clear hkk hnn
   cases hg:good kk nn
   ·rw [hg] at hck
    have HF:Hid (ckErr N C=1):=ck_cell (by rw [HCL.out,HNL.out]) (i:=k) (by rw [HCL.out];exact hlt) (by rw [HG.out,hg];rfl)
    rw [if_neg (by decide)] at hck
    clear hg
    go_wp2_with fail
    refine (hck _).mono ?_
    rintro e w1 ⟨rfl,hb1⟩
    have HB1:Hid (Below w.heap.size w w1):=onB HW.out (onB (by go_grown) hb1)
    clear hb1 hck
    go_wp2_with fail
    go_ret
    exact ⟨by rw [HF.out];rfl,HB1.out⟩
   ·rw [hg,if_pos rfl] at hck
    have HGd:Hid (goodB C k=false):=by show _=_;rw [HG.out,hg];rfl
    clear hg
    go_wp2_with fail
    refine (hck _).mono ?_
    rintro e w1 ⟨rfl,hb1⟩
    have HB1:Hid (Below w.heap.size w w1):=onB HW.out (onB (by go_grown) hb1)
    clear hb1 hck
    go_wp2_with fail
    go_roundg (n-(k+1))
    case measure=>omega
    case rel=>exact ⟨k+1,by omega,rfl,by go_num,fun j hj=>by rcases Nat.lt_succ_iff_lt_or_eq.1 hj with h | h;exact HBd.out j h;rw [h];exact HGd.out,HB1.out⟩
  ·have hke:k=n:=by omega
   subst hke
   have HAll:Hid (∀ j,j<C.length→goodB C j=false):=fun j hj=>HBd.out j (by have:=HCL.out;omega)
   go_wp2_with fail
   go_loopg [8] k (fun g s8 ws => ∃ (i:Nat),i<k∧g=k-i∧s8=.int .i64 ((i:Int)+1)∧(∀ j,1≤j→j<i+1→downS N j=false)∧Below w.heap.size w ws)
   case atStart=>exact ⟨0,by omega,rfl,rfl,fun j h1 h2=>by omega,HW.out⟩
   case round =>
    obtain ⟨i,hi,rfl,rfl,hbd,hBw⟩:=hrel
    have HDn:Hid (∀ j,1≤j→j<i+1→downS N j=false):=hbd
    have HV:Hid (Below w.heap.size w wr):=hBw
    clear hbd
    by_cases hlt2:i+1<k
    ·have hki:(i:Int)+1<(k:Int):=by omega
     have c1:=(hBw.cell (p:=⟨bn,on+(i+1),none⟩) hNb).trans (HN.out (i+1) (by rw [HNL.out];exact hlt2))
     have c0:=(hBw.cell (p:=⟨bn,on+i,none⟩) hNb).trans (HN.out i (by rw [HNL.out];omega))
     obtain ⟨x,hx⟩:∃ x,N.getD (i+1) noS=x:=⟨_,rfl⟩
     obtain ⟨y,hy⟩:∃ y,N.getD i noS=y:=⟨_,rfl⟩
     have HD:Hid (downS N (i+1)=(Op.bytesLess x.toList y.toList || x.toList == y.toList)):=by show _=_;unfold downS;rw [hx,Nat.add_sub_cancel,hy]
     rw [hx] at c1
     rw [hy] at c0
     have hsub:(i:Int)+1-1=(i:Int):=by omega
     have hto:((i:Int)+1).toNat=i+1:=by omega
     clear hx hy hBw
     cases ht:(Op.bytesLess x.toList y.toList || x.toList == y.toList)
     ·have HDF:Hid (downS N (i+1)=false):=by show _=_;rw [HD.out,ht]
      clear HD
      go_wp2_with fail
      go_quiet (fail)
      have HB2:Hid (Below w.heap.size w (wr.drewN nq)):=below_drewN HV.out _
      go_wp2_with fail
      go_roundg (k-(i+1))
      case measure=>omega
      case rel=>exact ⟨i+1,hlt2,rfl,by go_num,fun j h1 hj=>by rcases Nat.lt_succ_iff_lt_or_eq.1 hj with h | h;exact HDn.out j h1 h;rw [h];exact HDF.out,HB2.out⟩
     ·have HF:Hid (ckErr N C=7):=ck_down (by rw [HCL.out,HNL.out]) HAll.out (i:=i+1) (by omega) (by rw [HNL.out];exact hlt2) (by rw [HD.out,ht])
      clear HD
      go_wp2_with fail
      go_quiet (fail)
      have HB2:Hid (Below w.heap.size w (wr.drewN nq)):=below_drewN HV.out _
      go_wp2_with fail
      go_ret
      exact ⟨by rw [HF.out];rfl,HB2.out⟩
    ·have hie:k=i+1:=by omega
     have HF:Hid (ckErr N C=0):=ck_good (by rw [HCL.out,HNL.out]) HAll.out (fun j h1 hj=>HDn.out j h1 (by have:=HNL.out;omega))
     have hki : ¬ (i:Int)+1<(k:Int):=by omega
     clear hie
     go_wp2_with fail
     go_ret
     exact ⟨by rw [HF.out];rfl,HV.out⟩
theorem first_false (p:Nat→Bool):∀ n,p n=false→∃ k,k≤n∧p k=false∧∀ t,t<k→p t=true:=by
 intro n
 induction n with
 | zero=>intro h;exact ⟨0,Nat.le_refl _,h,fun t ht=>absurd ht (Nat.not_lt_zero _)⟩
 | succ n ih =>
  intro h
  by_cases e:∃ j,j≤n∧p j=false
  ·obtain ⟨j,hj,h1⟩:=e
   clear ih
   have hw:∀ m j,j≤m→p j=false→∃ k,k≤j∧p k=false∧∀ t,t<k→p t=true:=by
    intro m
    induction m with
    | zero=>intro j hj h1;exact ⟨j,Nat.le_refl _,h1,fun t ht=>by omega⟩
    | succ m ih =>
     intro j hj h1
     by_cases e2:∃ i,i<j∧p i=false
     ·obtain ⟨i,hi,h2⟩:=e2
      obtain ⟨k,h3,h4,h5⟩:=ih i (by omega) h2
      exact ⟨k,by omega,h4,h5⟩
     ·refine ⟨j,Nat.le_refl _,h1,fun t ht=>?_⟩
      cases hp:p t
      ·exact absurd ⟨t,ht,hp⟩ e2
      ·rfl
   obtain ⟨k,h2,h3,h4⟩:=hw j j (Nat.le_refl _) h1
   exact ⟨k,by omega,h3,h4⟩
  ·refine ⟨n+1,Nat.le_refl _,h,fun t ht=>?_⟩
   cases hp:p t
   ·exact absurd ⟨t,by omega,hp⟩ e
   ·rfl
theorem not_less (x:ByteArray):Op.bytesLess x.toList x.toList=false:=by
 rw [bytesLess_eq]
 exact decide_eq_false (List.lt_irrefl _)
theorem bs_where {N:List ByteArray} (hr:∀ j,1≤j→j<N.length→downS N j=false) (x:ByteArray) (S:Nat→ByteArray) (hS:S=fun j=>if j<N.length then N.getD j noS else x) :
  (decide (Lib.bsGo (fun t=>Op.bytesLess (S t).toList x.toList) N.length 0 N.length<N.length∧S (Lib.bsGo (fun t=>Op.bytesLess (S t).toList x.toList) N.length 0 N.length)=x)=decide (0≤whereS N x)) ∧
  (0≤whereS N x→(Lib.bsGo (fun t=>Op.bytesLess (S t).toList x.toList) N.length 0 N.length:Int)=whereS N x):=by
 have hup:=rise_all hr
 have s1:∀ j,j<N.length→S j=N.getD j noS:=fun j hj=>by rw [hS];exact if_pos hj
 have s2:∀ j,N.length≤j→S j=x:=fun j hj=>by rw [hS];exact if_neg (by omega)
 obtain ⟨k,hk,h1,h2⟩:=first_false (fun t=>Op.bytesLess (S t).toList x.toList) N.length (by show Op.bytesLess (S N.length).toList x.toList=false;rw [s2 _ (Nat.le_refl _)];exact not_less x)
 have h1':Op.bytesLess (S k).toList x.toList=false:=h1
 have h2':∀ t,t<k→Op.bytesLess (S t).toList x.toList=true:=h2
 have h3:∀ t,k≤t→Op.bytesLess (S t).toList x.toList=false:=by
  intro t ht
  by_cases e:N.length≤t
  ·rw [s2 t e];exact not_less x
  ·by_cases e2:t=k
   ·rw [e2];exact h1'
   ·rw [s1 t (by omega),bytesLess_eq]
    rw [s1 k (by omega),bytesLess_eq] at h1'
    refine decide_eq_false fun h=>of_decide_eq_false h1' (List.lt_trans (hup k t (by omega) (by omega)) h)
 have hbs:Lib.bsGo (fun t=>Op.bytesLess (S t).toList x.toList) N.length 0 N.length=k:=Lib.bsGo_spec _ k h2 h3 _ _ _ (by omega) (Nat.zero_le _) hk
 rw [hbs]
 rcases where_cases N x with ⟨hw,hn⟩ | ⟨i,hw,hi,he⟩
 ·refine ⟨?_,fun h=>by omega⟩
  rw [hw,decide_eq_false (show ¬ (0:Int)≤-1 by omega)]
  refine decide_eq_false fun h=>?_
  rw [s1 k h.1] at h
  exact hn k h.1 h.2
 ·have hki:k=i:=by
   have hle:k≤i:=by
    apply Nat.le_of_not_lt
    intro h
    have:=h2' i h
    rw [s1 i hi,he,not_less] at this
    cases this
   by_cases e:k=i
   ·exact e
   ·have hlt:=hup k i (by omega) hi
    rw [s1 k (by omega),bytesLess_eq] at h1'
    rw [he] at hlt
    exact absurd hlt (of_decide_eq_false h1')
  subst hki
  refine ⟨?_,fun _=>hw.symm⟩
  rw [hw,decide_eq_true (show (0:Int)≤(k:Int) by omega)]
  exact decide_eq_true ⟨hi,by rw [s1 k hi];exact he⟩
theorem bsearch_any (An:Option Addr) (cn:Nat) (N:List ByteArray) (x:ByteArray) (w:World) (hN:NmV w An cn N) (hr:∀ j,1≤j→j<N.length→downS N j=false) :
  Calls Tryz.prog 129 #[.slice An N.length cn,.string x] w fun e w'=>(∃ i:Nat,e=.returned (.tuple #[.int .i64 i,.bool (decide (0≤whereS N x))])∧(0≤whereS N x→(i:Int)=whereS N x))∧Below w.heap.size w w':=by
 obtain ⟨h1,h2,h3,h4 | ⟨b,o,rfl,h5,h6⟩⟩:=hN
 ·subst h4
  refine (Any2.slices_BinarySearch_string_empty Tryz.lays26 An cn x w).mono ?_
  rintro e w' ⟨rfl,rfl⟩
  exact ⟨⟨0,rfl,fun h=>absurd h (by show ¬ (0:Int)≤whereS [] x;unfold whereS;show ¬ (0:Int)≤-1;omega)⟩,Below.refl _ _⟩
 ·obtain ⟨e1,e2⟩:=bs_where hr x (fun j=>if j<N.length then N.getD j noS else x) rfl
  refine (Any2.slices_BinarySearch_string Tryz.lays26 b o N.length cn (fun j=>if j<N.length then N.getD j noS else x) x w h2 (fun j hj=>by simp only [if_pos hj];exact h6 j hj)).mono ?_
  rintro e w' ⟨rfl,q,rfl⟩
  exact ⟨⟨_,by rw [e1],e2⟩,below_drewN (Below.refl _ _) _⟩
def isC (N:List ByteArray) (C:List (Int×Int)) (x:ByteArray):Int×Int:=if 0≤whereS N x then C.getD (whereS N x).toNat noC else noC
def isE (N:List ByteArray) (x:ByteArray):Int:=if 0≤whereS N x then 0 else 5
set_option maxHeartbeats 1000000 in
theorem value1_any (q r:Nat) (An:Option Addr) (cn:Nat) (N:List ByteArray) (Ac:Option Addr) (cc:Nat) (C:List (Int×Int)) (x:ByteArray) (w:World) (hq:w.cell? ⟨q,0,none⟩=some (.slice An N.length cn)) (hrr:w.cell? ⟨r,0,none⟩=some (.slice Ac C.length cc)) (hN:NmV w An cn N) (hC:CelV w Ac cc C) (hck:ckErr N C=0) :
  Calls Tryz.prog 128 #[.string x,.pointer (some ⟨q,0,none⟩),.pointer (some ⟨r,0,none⟩)] w fun e w'=>e=.returned (.tuple #[.agg #[.int .i64 (isC N C x).1,.int .i64 (isC N C x).2],errV (isE N x)])∧Below w.heap.size w w':=by
 obtain ⟨hlen,-,hr⟩:=ck_right hck
 have hbs:=fun w' (hb:Below w.heap.size w w')=>bsearch_any An cn N x w' (hN.later hb) hr
 have hrl:=World.block_lt_of_cell? _ _ hrr
 have hql:=World.block_lt_of_cell? _ _ hq
 simp only at hrl hql
 by_cases h0:0≤whereS N x
 ·rw [decide_eq_true h0] at hbs
  obtain ⟨i,hi,hil,-⟩:∃ i:Nat,whereS N x=(i:Int)∧i<N.length∧N.getD i noS=x:=by
   rcases where_cases N x with ⟨hw,-⟩ | h
   ·omega
   ·exact h
  obtain ⟨-,-,hC3⟩:=hC
  obtain ⟨b,o,rfl,hCA⟩:=hC3.resolve_left (fun e=>by rw [e] at hlen;simp at hlen;omega)
  obtain ⟨c,hc⟩:∃ c,C.getD i noC=c:=⟨_,rfl⟩
  have hic:isC N C x=c:=by unfold isC;rw [if_pos h0,hi];exact hc
  have hie:isE N x=0:=by unfold isE;rw [if_pos h0]
  have HC:Hid (CelAt w b o C):=hCA
  have HI:Hid (∀ j:Nat,(0≤whereS N x→(j:Int)=whereS N x)→j=i):=fun j hj=>by have:=hj h0;omega
  have HCc:Hid (C.getD i noC=c):=hc
  have hil':(i:Int)<(C.length:Int):=by omega
  rw [hic,hie,errV_zero]
  obtain ⟨m,hm⟩:∃ m,C.length=m:=⟨_,rfl⟩
  have HM:Hid (C.length=m):=hm
  rw [hm] at hrr hil'
  clear hck hN hr hi hic hie hC3 hCA h0 hc hm hil hlen
  go_enter Tryz.func128,Tryz.ntmps128
  go_wp2_with fail
  refine (hbs _ (by go_grown)).mono ?_
  rintro e w1 ⟨⟨j,rfl,hj⟩,hb⟩
  have hji:=HI.out j hj
  subst hji
  obtain ⟨hbc,hbf⟩:=bcell hb
  have hz:=bsize hb
  simp at hz
  have hb1:Below w.heap.size w w1:=onB (by go_grown) hb
  clear hb
  obtain ⟨c0,c1⟩:=HC.out.2 j (by rw [HM.out];omega)
  rw [HCc.out] at c0 c1
  have HB1:Hid (Below w.heap.size w w1):=hb1
  have hbl:b<w.heap.size:=HC.out.1
  clear hb1 hbs hq hj
  go_wp2_with fail
  refine bodyPost_ret (v:=.tuple #[.agg #[.int .i64 c.1,.int .i64 c.2],.nilIface]) (by simp [results,Tryz.results128,go_sem,hbc]) rfl ⟨rfl,?_⟩
  exact ((HB1.out.setCell (Nat.le_refl _) _).setCell (Nat.le_refl _) _)
 ·rw [decide_eq_false h0] at hbs
  have hic:isC N C x=noC:=by unfold isC;rw [if_neg h0]
  have hie:isE N x=5:=by unfold isE;rw [if_neg h0]
  rw [hic,hie,errV_some (by decide)]
  unfold noC
  clear hck hN hr hic hie hC hlen
  go_enter Tryz.func128,Tryz.ntmps128
  go_wp2_with fail
  refine (hbs _ (by go_grown)).mono ?_
  rintro e w1 ⟨⟨j,rfl,hj⟩,hb⟩
  obtain ⟨hbc,hbf⟩:=bcell hb
  have hz:=bsize hb
  simp at hz
  have hb1:Below w.heap.size w w1:=onB (by go_grown) hb
  have HB1:Hid (Below w.heap.size w w1):=hb1
  clear hb hb1 hbs hq hj h0
  go_wp2_with fail
  refine bodyPost_ret (v:=.tuple #[.agg #[.int .i64 0,.int .i64 0],.iface 83 (.int .i64 5)]) (by simp [results,Tryz.results128,go_sem,hbc]) rfl ⟨rfl,?_⟩
  first | exact HB1.out | exact ((HB1.out.setCell (Nat.le_refl _) _).setCell (Nat.le_refl _) _)
end Go.Proofs.YtigkeokacagabagGreatDoor
namespace Go.Proofs.YtigkeokacagabagGreatDoor
open Go.ChangeShapes Go.WideShapes Go.ChangeAt Go.RowKit
def At (s:Nat) (k n:Int) (w:World):Prop:=s<w.heap.size∧w.cell? ⟨s,0,none⟩=some (.int .i64 k)∧w.cell? ⟨s,1,none⟩=some (.int .i64 n)
end Go.Proofs.YtigkeokacagabagGreatDoor
