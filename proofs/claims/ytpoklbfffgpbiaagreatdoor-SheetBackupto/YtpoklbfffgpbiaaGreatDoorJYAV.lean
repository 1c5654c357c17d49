/-
  Reading a text word by word, on plain data: one step at a time it comes to what all of it comes to.
-/
import Derived.Maps.AppendAt
import Derived.Sort.Walk0
import Derived.Deep.CutBlock
import Derived.Laws.OwnMore
import Derived.Test.YtpoklbfffgpbiaaGreatDoorJYAU
namespace Go.Proofs.YtpoklbfffgpbiaaGreatDoor
section
variable {S:Type} (s:ByteArray) (tk:S→ByteArray→S)
def runR:Nat→Bool→Rd S→Rd S×Bool
 | 0,_,r=>(r,false)
 | f+1,false,r =>
  if nextB s r.at'=40 then runR f false (wordR s tk 1 ⟨r.at',r.opn+1,r.st⟩)
  else if digB (nextB s r.at') then runR f true (wordR s tk (digitsN s r.at') r)
  else if letB (nextB s r.at') then runR f true (wordR s tk (leadN letB (s.extract r.at' s.size)) r)
  else (r,false)
 | f+1,true,r =>
  if 0<r.opn∧nextB s r.at'=41 then runR f true (wordR s tk 1 ⟨r.at',r.opn-1,r.st⟩)
  else if r.at'<s.size then (if signI (nextB s r.at')<0 then (r,false) else runR f false (wordR s tk 1 r))
  else (r,decide (r.opn=0))
end
section
variable {S:Type} {s:ByteArray} {tk:S→ByteArray→S}
theorem dig_pos {a:Nat} (ha:a≤s.size) (h:digB (nextB s a)=true):1≤digitsN s a∧a+digitsN s a≤s.size:=by
 have hlt:a<s.size:=next_zero (fun e=>by rw [e] at h;revert h;decide) ha
 have h1:=(lead_word (n:=0) hlt h (Nat.zero_le _)).1
 refine ⟨?_,(dig_word (o:=0) ha h).1⟩
 unfold digitsN
 split <;> omega
theorem let_pos {a:Nat} (ha:a≤s.size) (h:letB (nextB s a)=true):1≤leadN letB (s.extract a s.size)∧a+leadN letB (s.extract a s.size)≤s.size:=by
 have hlt:a<s.size:=next_zero (fun e=>by rw [e] at h;revert h;decide) ha
 exact ⟨(lead_word (n:=0) hlt h (Nat.zero_le _)).1,(let_word (o:=0) ha h).1⟩
theorem run_fuel:∀ (f g:Nat) (ph:Bool) (r:Rd S),r.at'≤s.size→s.size-r.at'<f→s.size-r.at'<g→runR s tk f ph r=runR s tk g ph r
 | 0,_,_,_,_,h,_=>by omega
 | _+1,0,_,_,_,_,h=>by omega
 | f+1,g+1,false,r,hr,hf,hg=>by
  rw [runR,runR]
  by_cases h1:nextB s r.at'=40
  ·rw [if_pos h1,if_pos h1]
   have h:=(opn_word (o:=0) hr h1).1
   exact run_fuel f g false _ h (by show s.size-(r.at'+1)<f;omega) (by show s.size-(r.at'+1)<g;omega)
  rw [if_neg h1,if_neg h1]
  by_cases h2:digB (nextB s r.at')=true
  ·rw [if_pos h2,if_pos h2]
   have h:=dig_pos hr h2
   exact run_fuel f g true _ h.2 (by show s.size-(r.at'+digitsN s r.at')<f;omega) (by show s.size-(r.at'+digitsN s r.at')<g;omega)
  rw [if_neg h2,if_neg h2]
  by_cases h3:letB (nextB s r.at')=true
  ·rw [if_pos h3,if_pos h3]
   have h:=let_pos hr h3
   exact run_fuel f g true _ h.2 (by show s.size-(r.at'+leadN letB (s.extract r.at' s.size))<f;omega) (by show s.size-(r.at'+leadN letB (s.extract r.at' s.size))<g;omega)
  rw [if_neg h3,if_neg h3]
 | f+1,g+1,true,r,hr,hf,hg=>by
  rw [runR,runR]
  by_cases h1:0<r.opn∧nextB s r.at'=41
  ·rw [if_pos h1,if_pos h1]
   have h:=(cls_word (o:=0) hr h1.2).1
   exact run_fuel f g true _ h (by show s.size-(r.at'+1)<f;omega) (by show s.size-(r.at'+1)<g;omega)
  rw [if_neg h1,if_neg h1]
  by_cases h2:r.at'<s.size
  ·rw [if_pos h2,if_pos h2]
   by_cases h3:signI (nextB s r.at')<0
   ·rw [if_pos h3,if_pos h3]
   ·rw [if_neg h3,if_neg h3]
    exact run_fuel f g false _ h2 (by show s.size-(r.at'+1)<f;omega) (by show s.size-(r.at'+1)<g;omega)
  ·rw [if_neg h2,if_neg h2]
end
def toEnd {S:Type} (s:ByteArray) (tk:S→ByteArray→S) (ph:Bool) (r:Rd S):Rd S×Bool:=runR s tk (s.size+1) ph r
section
variable {S:Type} {s:ByteArray} {tk:S→ByteArray→S} {r:Rd S}
theorem end_open (hr:r.at'≤s.size) (h:nextB s r.at'=40):toEnd s tk false r=toEnd s tk false (wordR s tk 1 ⟨r.at',r.opn+1,r.st⟩):=by
 have h1:=(opn_word (o:=0) hr h).1
 unfold toEnd
 rw [runR,if_pos h]
 exact run_fuel _ _ _ _ h1 (by show s.size-(r.at'+1)<_;omega) (by show s.size-(r.at'+1)<_;omega)
theorem end_dig (hr:r.at'≤s.size) (h:digB (nextB s r.at')=true):toEnd s tk false r=toEnd s tk true (wordR s tk (digitsN s r.at') r):=by
 have h1:=dig_pos hr h
 have h40:nextB s r.at'≠40:=fun e=>by rw [e] at h;revert h;decide
 unfold toEnd
 rw [runR,if_neg h40,if_pos h]
 exact run_fuel _ _ _ _ h1.2 (by show s.size-(r.at'+digitsN s r.at')<_;omega) (by show s.size-(r.at'+digitsN s r.at')<_;omega)
theorem end_let (hr:r.at'≤s.size) (h:letB (nextB s r.at')=true):toEnd s tk false r=toEnd s tk true (wordR s tk (leadN letB (s.extract r.at' s.size)) r):=by
 have h1:=let_pos hr h
 have h40:nextB s r.at'≠40:=fun e=>by rw [e] at h;revert h;decide
 have hd : ¬ digB (nextB s r.at')=true:=fun e=>by unfold digB at e;unfold letB at h;simp at e h;omega
 unfold toEnd
 rw [runR,if_neg h40,if_neg hd,if_pos h]
 exact run_fuel _ _ _ _ h1.2 (by show s.size-(r.at'+leadN letB (s.extract r.at' s.size))<_;omega) (by show s.size-(r.at'+leadN letB (s.extract r.at' s.size))<_;omega)
theorem end_none (h:nextB s r.at'≠40) (h1:digB (nextB s r.at')=false) (h2:letB (nextB s r.at')=false):toEnd s tk false r=(r,false):=by
 unfold toEnd
 rw [runR,if_neg h,if_neg (by rw [h1];decide),if_neg (by rw [h2];decide)]
theorem end_close (hr:r.at'≤s.size) (h:0<r.opn∧nextB s r.at'=41):toEnd s tk true r=toEnd s tk true (wordR s tk 1 ⟨r.at',r.opn-1,r.st⟩):=by
 have h1:=(cls_word (o:=0) hr h.2).1
 unfold toEnd
 rw [runR,if_pos h]
 exact run_fuel _ _ _ _ h1 (by show s.size-(r.at'+1)<_;omega) (by show s.size-(r.at'+1)<_;omega)
theorem end_sign (h : ¬ (0<r.opn∧nextB s r.at'=41)) (hlt:r.at'<s.size) (hs : ¬ signI (nextB s r.at')<0):toEnd s tk true r=toEnd s tk false (wordR s tk 1 r):=by
 have e:runR s tk (s.size+1) true r=runR s tk s.size false (wordR s tk 1 r):=by rw [runR,if_neg h,if_pos hlt,if_neg hs]
 unfold toEnd
 rw [e]
 exact run_fuel _ _ _ _ hlt (by show s.size-(r.at'+1)<_;omega) (by show s.size-(r.at'+1)<_;omega)
theorem end_bad (h : ¬ (0<r.opn∧nextB s r.at'=41)) (hlt:r.at'<s.size) (hs:signI (nextB s r.at')<0):toEnd s tk true r=(r,false):=by
 unfold toEnd
 rw [runR,if_neg h,if_pos hlt,if_pos hs]
theorem end_end (h : ¬ (0<r.opn∧nextB s r.at'=41)) (hlt : ¬ r.at'<s.size):toEnd s tk true r=(r,decide (r.opn=0)):=by
 unfold toEnd
 rw [runR,if_neg h,if_neg hlt]
theorem end_opens:∀ (f:Nat) (r:Rd S),r.at'≤s.size→toEnd s tk false r=toEnd s tk false (opensR s tk f r)
 | 0,_,_=>rfl
 | f+1,r,hr=>by
  rw [opensR]
  split
  ·rename_i h
   rw [end_open hr h]
   exact end_opens f _ (opn_word (o:=0) hr h).1
  ·rfl
theorem opened_ne:∀ (f:Nat) (r:Rd S),r.at'≤s.size→s.size-r.at'≤f→nextB s (opensR s tk f r).at'≠40
 | 0,r,hr,hf=>by
  have e:r.at'=s.size:=by omega
  rw [opensR,e,nextB,if_pos rfl]
  decide
 | f+1,r,hr,hf=>by
  rw [opensR]
  split
  ·rename_i h
   have h1:=(opn_word (o:=0) hr h).1
   exact opened_ne f _ h1 (by show s.size-(r.at'+1)≤f;omega)
  ·rename_i h;exact h
theorem end_closes:∀ (f:Nat) (r:Rd S),r.at'≤s.size→toEnd s tk true r=toEnd s tk true (closesR s tk f r)
 | 0,_,_=>rfl
 | f+1,r,hr=>by
  rw [closesR]
  split
  ·rename_i h
   rw [end_close hr h]
   exact end_closes f _ (cls_word (o:=0) hr h.2).1
  ·rfl
theorem closed_ne:∀ (f:Nat) (r:Rd S),r.at'≤s.size→s.size-r.at'≤f→¬ (0<(closesR s tk f r).opn∧nextB s (closesR s tk f r).at'=41)
 | 0,r,hr,hf=>by
  have e:r.at'=s.size:=by omega
  rw [closesR,e,nextB,if_pos rfl]
  intro h
  exact absurd h.2 (by decide)
 | f+1,r,hr,hf=>by
  rw [closesR]
  split
  ·rename_i h
   have h1:=(cls_word (o:=0) hr h.2).1
   exact closed_ne f _ h1 (by show s.size-(r.at'+1)≤f;omega)
  ·rename_i h;exact h
theorem end_operand (hr:r.at'≤s.size):((operandR s tk r).2=true∧toEnd s tk false r=toEnd s tk true (operandR s tk r).1∧¬ (0<(operandR s tk r).1.opn∧nextB s (operandR s tk r).1.at'=41))∨((operandR s tk r).2=false∧toEnd s tk false r=((operandR s tk r).1,false)):=by
 have ho:(openedR s tk r).at'≤s.size:=opens_in _ r hr
 have e0:toEnd s tk false r=toEnd s tk false (openedR s tk r):=end_opens _ r hr
 have hne:nextB s (openedR s tk r).at'≠40:=opened_ne _ r hr (Nat.le_refl _)
 cases hd:digB (nextB s (openedR s tk r).at')
 ·cases hl:letB (nextB s (openedR s tk r).at')
  ·right
   have e:=opnd_no (s:=s) (tk:=tk) (r:=r) hd hl
   rw [e]
   exact ⟨rfl,by rw [e0];exact end_none hne hd hl⟩
  ·left
   have e:=opnd_let (s:=s) (tk:=tk) (r:=r) hd hl
   rw [e]
   have h1:=let_pos ho hl
   refine ⟨rfl,?_,closed_ne _ _ h1.2 (by omega)⟩
   rw [e0,end_let ho hl]
   exact end_closes _ _ h1.2
 ·left
  have e:=opnd_dig (s:=s) (tk:=tk) (r:=r) hd
  rw [e]
  have h1:=dig_pos ho hd
  refine ⟨rfl,?_,closed_ne _ _ h1.2 (by omega)⟩
  rw [e0,end_dig ho hd]
  exact end_closes _ _ h1.2
theorem end_loop:∀ (f:Nat) (r:Rd S),r.at'≤s.size→s.size-r.at'≤f→¬ (0<r.opn∧nextB s r.at'=41)→toEnd s tk true r=if (loopR s tk f r).2 then ((loopR s tk f r).1,decide ((loopR s tk f r).1.opn=0)) else ((loopR s tk f r).1,false)
 | 0,r,hr,hf,hc=>by
  rw [loopR,if_pos rfl]
  exact end_end hc (by omega)
 | f+1,r,hr,hf,hc=>by
  by_cases hlt:r.at'<s.size
  ·by_cases hs:signI (nextB s r.at')<0
   ·have e:signR s tk r=(r,false):=by rw [signR,if_pos hs]
    rw [loop_sgn hlt (by rw [e]),e,if_neg (fun e=>Bool.noConfusion e)]
    exact end_bad hc hlt hs
   ·have e:signR s tk r=(wordR s tk 1 r,true):=by rw [signR,if_neg hs]
    have h1:(wordR s tk 1 r).at'≤s.size:=hlt
    rw [end_sign hc hlt hs]
    rcases end_operand (tk:=tk) h1 with ⟨g1,g2,g3⟩ | ⟨g1,g2⟩
    ·rw [loop_on hlt (by rw [e]) (by rw [e];exact g1),e,g2]
     have hat:=operand_at (s:=s) (tk:=tk) (wordR s tk 1 r)
     have hw:(wordR s tk 1 r).at'=r.at'+1:=rfl
     exact end_loop f _ (operand_in _ h1) (by omega) g3
    ·rw [loop_opd hlt (by rw [e]) (by rw [e];exact g1),e,if_neg (fun e=>Bool.noConfusion e)]
     exact g2
  ·rw [loop_end hlt,if_pos rfl]
   exact end_end hc hlt
theorem all_end_eq (hr:r.at'≤s.size):allR s tk r=toEnd s tk false r:=by
 rcases end_operand (tk:=tk) hr with ⟨g1,g2,g3⟩ | ⟨g1,g2⟩
 ·rw [g2,end_loop s.size _ (operand_in _ hr) (by omega) g3]
  unfold allR
  rw [if_pos g1]
 ·rw [g2,all_no g1]
end
end Go.Proofs.YtpoklbfffgpbiaaGreatDoor
namespace Go.Proofs.YtpoklbfffgpbiaaGreatDoor
open Go Go.ChangeShapes Go.WideShapes Go.ChangeAt Go.RowKit
set_option maxRecDepth 20000
theorem own_kept {w w':World} {base e size n:Nat} {v:Value} {xs:List Value} (h:w.ownsRow base e size v n xs) (hk:∀ b,v.ownBlock=some b→w'.heap[b]?=w.heap[b]?):w'.ownsRow base e size v n xs:=by
 refine ⟨h.1,?_⟩
 rcases h.2 with h0 | ⟨g',cap,cur,rfl,h2,h3,h4⟩
 ·exact Or.inl h0
 ·exact Or.inr ⟨g',cap,cur,rfl,h2,(hk g' rfl).trans h3,h4⟩
def dmL (L:List RDm):Nat→Dm:=fun i=>toDm (L.getD i noRD)
theorem cellsDo_cg {D D':Nat→Dm} {A A':Nat→Option Addr} {C C':Nat→Nat}:∀ k,(∀ i,i<k→D i=D' i∧A i=A' i∧C i=C' i)→cellsDo D A C k=cellsDo D' A' C' k
 | 0,_=>rfl
 | k+1,h=>by
  obtain ⟨h1,h2,h3⟩:=h k (by omega)
  rw [cellsDo,cellsDo,cellsDo_cg k fun i hi=>h i (by omega),h1,h2,h3]
theorem cellsMb_cg {M M':Nat→Mem}:∀ k,(∀ i,i<k→M i=M' i)→cellsMb M k=cellsMb M' k
 | 0,_=>rfl
 | k+1,h=>by rw [cellsMb,cellsMb,cellsMb_cg k fun i hi=>h i (by omega),h k (by omega)]
structure DmV (w:World) (B:Nat) (vd:Value) (A:Nat→Option Addr) (C:Nat→Nat) (L:List RDm):Prop where
 dims:w.ownsRow B 32 3 vd L.length (cellsDo (dmL L) A C L.length)
 mems:∀ j,j<L.length→w.ownsRow B 43 4 (.slice (A j) (dmL L j).n (C j)) (dmL L j).n (cellsMb (dmL L j).mem (dmL L j).n)
 last:∀ j,j+1<L.length→∀ g,(Value.slice (A j) 0 0).ownBlock=some g→(Value.slice (A (L.length-1)) 0 0).ownBlock≠some g
theorem own_slice (A:Option Addr) (n c:Nat):(Value.slice A n c).ownBlock=(Value.slice A 0 0).ownBlock:=by cases A <;> rfl
theorem DmV.nil (w:World) (B:Nat) (A:Nat→Option Addr) (C:Nat→Nat):DmV w B (.slice none 0 0) A C []:=⟨World.ownsRow_nil w B _ 3,fun j hj=>absurd hj (Nat.not_lt_zero _),fun j hj=>by simp at hj⟩
theorem DmV.keep {w w':World} {B:Nat} {vd:Value} {A:Nat→Option Addr} {C:Nat→Nat} {L:List RDm} (h:DmV w B vd A C L) (hk:∀ b cs fr t,B≤b→w.heap[b]?=some (.cells cs t fr)→t=32∨t=43→w'.heap[b]?=w.heap[b]?):DmV w' B vd A C L :=
 ⟨own_kept h.dims fun b hb=>by obtain ⟨h1,-,cur,h2⟩:=own_blk h.dims hb;exact hk b cur _ _ h1 h2 (Or.inl rfl),
  fun j hj=>own_kept (h.mems j hj) fun b hb=>by obtain ⟨h1,-,cur,h2⟩:=own_blk (h.mems j hj) hb;exact hk b cur _ _ h1 h2 (Or.inr rfl),h.last⟩
theorem DmV.later {w w':World} {B:Nat} {vd:Value} {A:Nat→Option Addr} {C:Nat→Nat} {L:List RDm} (h:DmV w B vd A C L) (hb:Below w.heap.size w w'):DmV w' B vd A C L :=
 h.keep fun b _ _ _ _ h1 _=>hb.block b (Array.getElem?_eq_some_iff.1 h1).1
theorem getD_ahead {L:List RDm} {d:RDm} {i:Nat} (h:i<L.length):(L ++ [d]).getD i noRD=L.getD i noRD:=by
 simp [List.getD,List.getElem?_append_left h]
theorem getD_new {L:List RDm} {d:RDm}:(L ++ [d]).getD L.length noRD=d:=by simp [List.getD]
theorem DmV.push {w w':World} {B:Nat} {vd vd':Value} {A:Nat→Option Addr} {C:Nat→Nat} {L:List RDm} {nm:ByteArray} {sv:Int} (h:DmV w B vd A C L) (hk:∀ b cs fr,B≤b→w.heap[b]?=some (.cells cs 43 fr)→w'.heap[b]?=w.heap[b]?) (hown:w'.ownsRow B 32 3 vd' (L.length+1) (cellsDo (dmL L) A C L.length ++ [.string nm,.int .i64 sv,.slice none 0 0])):DmV w' B vd' (fun j=>if j<L.length then A j else none) (fun j=>if j<L.length then C j else 0) (L ++ [⟨nm,sv,[]⟩]):=by
 have e1:∀ j,j<L.length→dmL (L ++ [⟨nm,sv,[]⟩]) j=dmL L j:=fun j hj=>by unfold dmL;rw [getD_ahead hj]
 have e2:dmL (L ++ [⟨nm,sv,[]⟩]) L.length=⟨nm,sv,0,fun k=>List.getD [] k noM⟩:=by unfold dmL;rw [getD_new];rfl
 have hl:(L ++ [(⟨nm,sv,[]⟩:RDm)]).length=L.length+1:=by simp
 refine ⟨?_,fun j hj=>?_,fun j hj g hg=>?_⟩
 ·rw [hl,cellsDo,e2,cellsDo_cg (A':=A) (C':=C) L.length fun i hi=>⟨e1 i hi,if_pos hi,if_pos hi⟩]
  simp only [Nat.lt_irrefl,if_false]
  exact hown
 ·rw [hl] at hj
  by_cases hlt:j<L.length
  ·rw [e1 j hlt]
   simp only [if_pos hlt]
   exact own_kept (h.mems j hlt) fun b hb=>by obtain ⟨h1,-,cur,h2⟩:=own_blk (h.mems j hlt) hb;exact hk b cur _ h1 h2
  ·obtain rfl:j=L.length:=by omega
   rw [e2]
   simp only [Nat.lt_irrefl,if_false]
   exact World.ownsRow_nil w' B _ 4
 ·rw [hl]
  simp [Value.ownBlock]
theorem getD_addM {L:List RDm} {m:Mem} {j:Nat} (hj:j+1<L.length):(addM L m).getD j noRD=L.getD j noRD:=by
 unfold addM
 simp only [List.getD,List.getElem?_set]
 rw [if_neg (by omega)]
theorem getD_addM_last {L:List RDm} {m:Mem} (hn:0<L.length):(addM L m).getD (L.length-1) noRD=⟨(L.getD (L.length-1) noRD).name,(L.getD (L.length-1) noRD).solve,(L.getD (L.length-1) noRD).mem ++ [m]⟩:=by
 unfold addM
 rw [List.getD,List.getElem?_set,if_pos rfl,if_pos (by omega)]
 rfl
theorem DmV.more {w wa w1:World} {B gd cd g cg:Nat} {A:Nat→Option Addr} {C:Nat→Nat} {L:List RDm} {m:Mem} (h:DmV w B (.slice (some ⟨gd,0,none⟩) L.length cd) A C L) (hn:0<L.length) (hb:Below w.heap.size w wa)
  (hown:w1.ownsRow B 43 4 (.slice (some ⟨g,0,none⟩) ((dmL L (L.length-1)).n+1) cg) ((dmL L (L.length-1)).n+1) (cellsMb (dmL L (L.length-1)).mem (dmL L (L.length-1)).n ++ [.string m.name,.int .i64 m.parent,.int .i64 m.sign,.string m.formula]))
  (hgrow:wa.grownBy w1 (Value.slice (A (L.length-1)) (dmL L (L.length-1)).n (C (L.length-1))).ownBlock) (hat:(Value.slice (A (L.length-1)) (dmL L (L.length-1)).n (C (L.length-1))).ownBlock=some g∨wa.heap.size≤g) :
  DmV (w1.setCell ⟨gd,(L.length-1)*3+2,none⟩ (.slice (some ⟨g,0,none⟩) ((dmL L (L.length-1)).n+1) cg)) B (.slice (some ⟨gd,0,none⟩) L.length cd) (fun j=>if j=L.length-1 then some ⟨g,0,none⟩ else A j) (fun j=>if j=L.length-1 then cg else C j) (addM L m):=by
 obtain ⟨hgd0,hgd1,curd,hgd2⟩:=own_blk h.dims (b:=gd) rfl
 have hl:L.length-1<L.length:=by omega
 have hadd:(addM L m).length=L.length:=addM_len L m
 have e1:∀ j,j+1<L.length→dmL (addM L m) j=dmL L j:=fun j hj=>by unfold dmL;rw [getD_addM hj]
 have e2:dmL (addM L m) (L.length-1)=⟨(dmL L (L.length-1)).name,(dmL L (L.length-1)).solve,(dmL L (L.length-1)).n+1,fun k=>((L.getD (L.length-1) noRD).mem ++ [m]).getD k noM⟩:=by
  unfold dmL
  rw [getD_addM_last hn]
  unfold toDm
  simp
 have hrow:w1.heap[gd]?=w.heap[gd]?:=by
  refine (hgrow.block gd (Nat.lt_of_lt_of_le hgd1 hb.size) fun e=>?_).trans (hb.block gd hgd1)
  exact own_ne (h.mems _ hl) hgd2 (by decide) e.symm
 have hd1:w1.ownsRow B 32 3 (.slice (some ⟨gd,0,none⟩) L.length cd) L.length (cellsDo (dmL L) A C L.length):=own_kept h.dims fun b hb'=>by cases hb';exact hrow
 have hne:g≠gd:=fun e=>by
  subst e
  exact own_ne hown (hrow.trans hgd2) (by decide) rfl
 refine ⟨?_,fun j hj=>?_,fun j hj g' hg'=>?_⟩
 ·rw [hadd]
  have h2:=(hd1.stored ((L.length-1)*3+2) (.slice (some ⟨g,0,none⟩) ((dmL L (L.length-1)).n+1) cg)).1
  have e3:(cellsDo (dmL L) A C L.length).set ((L.length-1)*3+2) (.slice (some ⟨g,0,none⟩) ((dmL L (L.length-1)).n+1) cg)=cellsDo (dmL (addM L m)) (fun j=>if j=L.length-1 then some ⟨g,0,none⟩ else A j) (fun j=>if j=L.length-1 then cg else C j) L.length:=by
   obtain ⟨l,hl'⟩:∃ l,L.length=l+1:=⟨L.length-1,by omega⟩
   simp only [hl',Nat.add_sub_cancel] at e1 e2 ⊢
   rw [cellsDo,cellsDo,e2,List.set_append_right _ _ (by rw [cellsDo_len];omega),cellsDo_len,show l*3+2-l*3=2 by omega]
   simp only [if_true]
   congr 1
   refine cellsDo_cg l fun i hi=>⟨(e1 i (by omega)).symm,?_,?_⟩ <;> rw [if_neg (by omega)]
  rw [←e3]
  exact h2
 ·rw [hadd] at hj
  by_cases hlt:j=L.length-1
  ·subst hlt
   rw [e2]
   simp only [if_true]
   rw [cellsMb]
   have e4:cellsMb (fun k=>((L.getD (L.length-1) noRD).mem ++ [m]).getD k noM) (dmL L (L.length-1)).n=cellsMb (dmL L (L.length-1)).mem (dmL L (L.length-1)).n:=cellsMb_cg _ fun i hi=>by
    show ((L.getD (L.length-1) noRD).mem ++ [m]).getD i noM=(L.getD (L.length-1) noRD).mem.getD i noM
    have hi':i<(L.getD (L.length-1) noRD).mem.length:=hi
    generalize (L.getD (L.length-1) noRD).mem=mm at hi'
    simp [List.getD,List.getElem?_append_left hi']
   have e5:((L.getD (L.length-1) noRD).mem ++ [m]).getD (dmL L (L.length-1)).n noM=m:=by
    show ((L.getD (L.length-1) noRD).mem ++ [m]).getD (L.getD (L.length-1) noRD).mem.length noM=m
    generalize (L.getD (L.length-1) noRD).mem=mm
    simp [List.getD]
   rw [e4,e5]
   exact own_setc hown (fun e=>hne (Option.some.inj e))
  ·rw [e1 j (by omega)]
   simp only [if_neg hlt]
   refine own_kept (h.mems j hj) fun b hb'=>?_
   obtain ⟨h1,h2,cur,h3⟩:=own_blk (h.mems j hj) hb'
   have hne2:b≠gd:=fun e=>by
    subst e
    rw [hgd2] at h3
    have:=(Obj.cells.inj (Option.some.inj h3)).2.1
    exact absurd this (by decide)
   rw [setCell_off _ _ _ _ _ hne2,hgrow.block b (Nat.lt_of_lt_of_le h2 hb.size) fun e=>?_,hb.block b h2]
   rw [own_slice] at hb' e
   exact h.last j (by omega) b hb' e.symm
 ·rw [hadd] at hj ⊢
  simp only [if_true]
  rw [if_neg (by omega)] at hg'
  intro e
  have hgg:g=g':=by simpa [Value.ownBlock] using e
  subst hgg
  obtain ⟨h1,h2,-⟩:=own_blk (h.mems j (by omega)) (by rw [own_slice];exact hg')
  rcases hat with h3 | h3
  ·rw [own_slice] at h3
   exact h.last j hj g hg' h3
  ·have:=hb.size
   omega
theorem DmV.toV {w:World} {B:Nat} {vd:Value} {A:Nat→Option Addr} {C:Nat→Nat} {L:List RDm} (h:DmV w B vd A C L):∃ A0 cap,vd=.slice A0 L.length cap∧DimsV w A0 cap L.length (dmL L) A C:=by
 refine dims_own h.dims fun j hj=>?_
 obtain ⟨A1,c1,h1,h2⟩:=memT_own (h.mems j hj)
 cases h1
 exact h2
def cellsW (S:RdQ):Nat→List Value
 | 0=>[]
 | k+1=>cellsW S k ++ [.int .i64 ((S.first+k:Nat):Int),.string (S.pl.getD k noWd),.int .i64 (S.num.getD k 0)]
theorem cellsW_len (S:RdQ):∀ k,(cellsW S k).length=k*3
 | 0=>rfl
 | k+1=>by rw [cellsW,List.length_append,cellsW_len S k];simp;omega
theorem cellsW_cg {S S':RdQ} (hf:S.first=S'.first):∀ k,(∀ i,i<k→S.pl.getD i noWd=S'.pl.getD i noWd∧S.num.getD i 0=S'.num.getD i 0)→cellsW S k=cellsW S' k
 | 0,_=>rfl
 | k+1,h=>by
  obtain ⟨h1,h2⟩:=h k (by omega)
  rw [cellsW,cellsW,cellsW_cg hf k fun i hi=>h i (by omega),hf,h1,h2]
theorem cellsW_at (S:RdQ) (n:Nat):∀ k,k<n→(cellsW S n)[k*3]?=some (.int .i64 ((S.first+k:Nat):Int))∧(cellsW S n)[k*3+1]?=some (.string (S.pl.getD k noWd))∧(cellsW S n)[k*3+2]?=some (.int .i64 (S.num.getD k 0)):=by
 induction n with
 | zero=>intro k h;omega
 | succ n ih =>
  intro k hk
  rw [cellsW]
  have hl:=cellsW_len S n
  by_cases h:k=n
  ·subst h
   refine ⟨?_,?_,?_⟩ <;> rw [List.getElem?_append_right (by omega),hl]
   ·rw [Nat.sub_self];rfl
   ·rw [show k*3+1-k*3=1 by omega];rfl
   ·rw [show k*3+2-k*3=2 by omega];rfl
  ·have:=ih k (by omega)
   refine ⟨?_,?_,?_⟩ <;> rw [List.getElem?_append_left (by omega)]
   ·exact this.1
   ·exact this.2.1
   ·exact this.2.2
theorem cellsW_more {S:RdQ} {i:Nat} {p:ByteArray} {x:Int} (hn:S.num.length=S.pl.length) (hi:S.pl.length=0∨S.first+S.pl.length=i):cellsW ⟨S.dims,S.pl ++ [p],S.num ++ [x],if S.pl.length=0 then i else S.first⟩ (S.pl.length+1)=cellsW S S.pl.length ++ [.int .i64 (i:Int),.string p,.int .i64 x]:=by
 rw [cellsW]
 congr 1
 ·by_cases h0:S.pl.length=0
  ·rw [h0];rfl
  ·refine cellsW_cg (by simp only [if_neg h0]) _ fun k hk=>⟨?_,?_⟩
   ·simp [List.getD,List.getElem?_append_left hk]
   ·simp only [List.getD]
    rw [List.getElem?_append_left (by omega)]
 ·have e1:(S.pl ++ [p]).getD S.pl.length noWd=p:=by simp [List.getD]
  have e2:(S.num ++ [x]).getD S.pl.length 0=x:=by rw [←hn];simp [List.getD]
  simp only [e1,e2]
  congr 3
  split
  ·omega
  ·omega
end Go.Proofs.YtpoklbfffgpbiaaGreatDoor
