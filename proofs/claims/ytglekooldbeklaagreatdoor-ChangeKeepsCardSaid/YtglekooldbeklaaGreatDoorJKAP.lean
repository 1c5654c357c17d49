/-
  An outline copied: what Fresh of package outline answers: the same outline, in blocks of the call's own.
-/
import Derived.Test.YtglekooldbeklaaGreatDoorJKAL
import Derived.Test.YtglekooldbeklaaGreatDoorJKAO
namespace Go.Proofs.YtglekooldbeklaaGreatDoor
open Go.ChangeShapes Go.WideShapes Go.ChangeAt Go.RowKit
set_option maxRecDepth 20000
theorem Tryz.infoMemH:(Tryz.prog.info? 29).map (fun i=>(i.zero,i.size,i.bytes))=some (some (.agg #[.string ⟨#[]⟩,.int .i64 0,.int .i64 0,.string ⟨#[]⟩]),4,48):=by kernel_rfl
theorem Tryz.infoDimH:(Tryz.prog.info? 32).map (fun i=>(i.zero,i.size,i.bytes))=some (some (.agg #[.string ⟨#[]⟩,.int .i64 0,.slice none 0 0]),3,48):=by kernel_rfl
def dcV (D:Nat→Dm) (A:Nat→Option Addr) (C:Nat→Nat) (j:Nat):Value:=if j % 3=0 then .string (D (j / 3)).name else if j % 3=1 then .int .i64 (D (j / 3)).solve else .slice (A (j / 3)) (D (j / 3)).n (C (j / 3))
def mcV (M:Nat→Mem) (j:Nat):Value:=if j % 4=0 then .string (M (j / 4)).name else if j % 4=1 then .int .i64 (M (j / 4)).parent else if j % 4=2 then .int .i64 (M (j / 4)).sign else .string (M (j / 4)).formula
def rowF (f:Nat→Value) (n:Nat):List Value:=(List.range n).map f
theorem rowF_len (f:Nat→Value) (n:Nat):(rowF f n).length=n:=by simp [rowF]
theorem rowF_at {f:Nat→Value} {n j:Nat} {u:Value} (h:(rowF f n)[j]?=some u):j<n∧u=f j:=by
 have hj:j<n:=by have:=(List.getElem?_eq_some_iff.1 h).1;rwa [rowF_len] at this
 simp [rowF,List.getElem?_range hj] at h
 exact ⟨hj,h.symm⟩
theorem rowF_get (f:Nat→Value) {n j:Nat} (h:j<n):(rowF f n)[j]?=some (f j):=by simp [rowF,List.getElem?_range h]
theorem dcV_one (D:Nat→Dm) (A:Nat→Option Addr) (C:Nat→Nat) (n:Nat):∀ u∈rowF (dcV D A C) n,u.oneCell'=true:=fun u hu=>by
 unfold rowF at hu
 obtain ⟨j,-,rfl⟩:=List.mem_map.1 hu
 unfold dcV
 split
 ·rfl
 ·split <;> rfl
theorem mcV_one (M:Nat→Mem) (n:Nat):∀ u∈rowF (mcV M) n,u.oneCell'=true:=fun u hu=>by
 unfold rowF at hu
 obtain ⟨j,-,rfl⟩:=List.mem_map.1 hu
 unfold mcV
 split
 ·rfl
 ·split
  ·rfl
  ·split <;> rfl
theorem DimsAt.dc {w:World} {b o n:Nat} {D:Nat→Dm} {A:Nat→Option Addr} {C:Nat→Nat} (h:DimsAt w b o n D A C) {j:Nat} (hj:j<n*3):w.cell? ⟨b,o+j,none⟩=some (dcV D A C j):=by
 obtain ⟨h1,h2,h3,-⟩:=h.2 (j / 3) (by omega)
 unfold dcV
 split
 ·rename_i e;rw [show o+j=o+j / 3*3 by omega];exact h1
 ·split
  ·rename_i e;rw [show o+j=o+j / 3*3+1 by omega];exact h2
  ·rw [show o+j=o+j / 3*3+2 by omega];exact h3
theorem MemsAt.mc {w:World} {b o n:Nat} {M:Nat→Mem} (h:MemsAt w b o n M) {j:Nat} (hj:j<n*4):w.cell? ⟨b,o+j,none⟩=some (mcV M j):=by
 obtain ⟨h1,h2,h3,h4⟩:=h.2 (j / 4) (by omega)
 unfold mcV
 split
 ·rw [show o+j=o+j / 4*4 by omega];exact h1
 ·split
  ·rw [show o+j=o+j / 4*4+1 by omega];exact h2
  ·split
   ·rw [show o+j=o+j / 4*4+2 by omega];exact h3
   ·rw [show o+j=o+j / 4*4+3 by omega];exact h4
theorem set_tyD {w:World} {g k T:Nat} {cs:Array Value} {fr:Nat×Nat} {v:Value} (h:w.heap[g]?=some (.cells cs T fr)):(w.setCell ⟨g,k,none⟩ v).heap[g]?=some (.cells (cs.setIfInBounds k v) T fr):=by
 rw [Sort.setCell_eq]
 unfold Sort.mapBlock
 simp only [Array.getElem?_modify,if_true,h,Option.map_some]
 rfl
def ValB (w:World) (g n T:Nat) (f:Nat→Value):Prop:=w.heap[g]?=some (.cells ((List.range n).map f).toArray T (0,0))
theorem ValB.lt {w:World} {g n T:Nat} {f:Nat→Value} (h:ValB w g n T f):g<w.heap.size:=(Array.getElem?_eq_some_iff.1 h).1
theorem ValB.cell {w:World} {g n T:Nat} {f:Nat→Value} (h:ValB w g n T f) {j:Nat} (hj:j<n):w.cell? ⟨g,j,none⟩=some (f j):=by
 rw [Lib.cell_of_heap h]
 simp [hj]
theorem ValB.frozen {w:World} {g n T:Nat} {f:Nat→Value} (h:ValB w g n T f) (j:Nat):w.frozen? ⟨g,j,none⟩=false:=Lib.frozen_of_heap h j
theorem ValB.same {w w':World} {g n T:Nat} {f:Nat→Value} (h:ValB w g n T f) (hb:w'.heap[g]?=w.heap[g]?):ValB w' g n T f:=hb.trans h
theorem ValB.set {w:World} {g n T:Nat} {f f':Nat→Value} {v:Value} (h:ValB w g n T f) {m:Nat} (hf:∀ j,j<n→f' j=if j=m then v else f j):ValB (w.setCell ⟨g,m,none⟩ v) g n T f':=by
 unfold ValB at *
 simp only [World.setCell,Array.getElem?_modify,if_true,h,Option.map_some,Option.some.injEq,Obj.cells.injEq,and_true,Option.isSome_none,Bool.false_eq_true,if_false]
 apply Array.ext_getElem?
 intro j
 rw [Array.getElem?_setIfInBounds]
 by_cases hj:j<n
 ·by_cases e:m=j
  ·rw [if_pos e,if_pos (by simp;omega)]
   simp [hj,hf j hj,e]
  ·have e':j≠m:=fun x=>e x.symm
   rw [if_neg e]
   simp only [List.getElem?_toArray,List.getElem?_map,List.getElem?_range hj,Option.map_some,hf j hj,if_neg e']
 ·by_cases e:m=j
  ·rw [if_pos e,if_neg (by simp;omega),Array.getElem?_eq_none (by simp;omega)]
  ·rw [if_neg e,Array.getElem?_eq_none (by simp;omega),Array.getElem?_eq_none (by simp;omega)]
theorem ValB.made (w:World) (n T:Nat) (z:Value):ValB (w.alloc (.cells (madeCells #[z] n) T)) w.heap.size n T fun _=>z:=by
 unfold ValB
 have e:madeCells #[z] n=((List.range n).map fun _=>z).toArray:=by
  apply Array.ext
  ·simp [madeCells]
  ·intro i h1 h2
   simp [madeCells,Nat.mod_one]
 rw [e]
 exact heap_alloc_new w _
theorem ValB.off {w:World} {g n T b:Nat} {f:Nat→Value} {cs:Array Value} {t:Nat} {fr:Nat×Nat} (h:ValB w g n T f) (hb:w.heap[b]?=some (.cells cs t fr)) (ht:t≠T):b≠g:=fun e=>by
 rw [e,h] at hb
 simp only [Option.some.injEq,Obj.cells.injEq] at hb
 exact ht hb.2.1.symm
theorem row_ne_int':(3:Nat)≠41:=by decide
theorem own_grown {w w':World} {base e size n:Nat} {v:Value} {xs:List Value} {r:Option Nat} (h:w.ownsRow base e size v n xs) (hG:w.grownBy w' r) (hr:∀ b,v.ownBlock=some b→r≠some b):w'.ownsRow base e size v n xs:=by
 refine ⟨h.1,?_⟩
 rcases h.2 with h0 | ⟨g,cap,cur,rfl,h2,h3,h4⟩
 ·exact Or.inl h0
 ·exact Or.inr ⟨g,cap,cur,rfl,h2,(hG.block g (Array.getElem?_eq_some_iff.1 h3).1 (fun e=>hr g rfl e.symm)).trans h3,h4⟩
theorem own_blk {w:World} {base e size n b:Nat} {v:Value} {xs:List Value} (h:w.ownsRow base e size v n xs) (hb:v.ownBlock=some b):base≤b∧b<w.heap.size∧∃ cur,w.heap[b]?=some (.cells cur e (0,0)):=by
 rcases h.2 with ⟨rfl,-⟩ | ⟨g,cap,cur,rfl,h2,h3,h4⟩
 ·cases hb
 ·cases hb
  exact ⟨h2,(Array.getElem?_eq_some_iff.1 h3).1,cur,h3⟩
theorem own_setc {w:World} {base e size n g j:Nat} {v x:Value} {xs:List Value} (h:w.ownsRow base e size v n xs) (hg:v.ownBlock≠some g):(w.setCell ⟨g,j,none⟩ x).ownsRow base e size v n xs:=by
 refine ⟨h.1,?_⟩
 rcases h.2 with h0 | ⟨g',cap,cur,rfl,h2,h3,h4⟩
 ·exact Or.inl h0
 ·exact Or.inr ⟨g',cap,cur,rfl,h2,by rw [setCell_off _ _ _ _ _ (fun e=>hg (by rw [←e];rfl))];exact h3,h4⟩
theorem IntT.one {w w':World} {A:Option Addr} {c:Nat} {L:List Int} (h:IntT w A c L) (hb:∀ a,A=some a→w'.heap[a.block]?=w.heap[a.block]?):IntT w' A c L:=by
 obtain ⟨h1,h0,h2 | ⟨b,cs,fr,rfl,h3,h4⟩⟩:=h
 ·exact ⟨h1,h0,Or.inl h2⟩
 ·have e:=hb _ rfl
  exact ⟨h1,h0,Or.inr ⟨b,cs,fr,rfl,e.trans h3,fun j hj=>(World.cell?_of_block (a:=⟨b,j,none⟩) e).trans (h4 j hj)⟩⟩
theorem ops_snoc (l:List Int) (x:Int):opsN (l ++ [x])=opsN l+(if x≠0 then 1 else 0)∧zerosN (l ++ [x])=zerosN l+(if x=0 then 1 else 0):=by
 unfold opsN zerosN
 rw [List.countP_append,List.countP_append]
 by_cases e:x=0 <;> simp [e]
theorem take_is_opd {b:Bld} {t:ByteArray} (h:48≤byteN t 0):takeB b t=addB (opndN t) b:=by
 have hs : ¬ 0≤signI (byteN t 0):=by
  unfold signI
  rw [if_neg (by omega),if_neg (by omega),if_neg (by omega),if_neg (by omega)]
  omega
 rw [takeB,if_neg (by omega),if_neg (by omega),if_neg hs]
theorem fit_opd {a o n:Nat} {b:Bld} {x:Nd} (hn:1≤n) (hF:FitB a o false b):FitB (a+n) o true (addB x b):=by
 obtain ⟨f1,f2,f3,f4,f5⟩:=hF
 refine ⟨f1,?_,?_,?_,?_⟩
 ·simp [addB] at f2 ⊢;omega
 ·simp [addB];omega
 ·simp [addB];omega
 ·simp [addB];omega
theorem fit_step {a o o':Nat} {ph ph':Bool} {b:Bld} {t:ByteArray} (hS:Stp o ph t o' ph') (hF:FitB a o ph b):FitB (a+t.size) o' ph' (takeB b t):=by
 cases hS with
 | opn o t h1 h40 =>
  obtain ⟨f1,f2,f3,f4,f5⟩:=hF
  have hT:takeB b t=⟨b.nodes,b.ready,b.waiting ++ [0]⟩:=by rw [takeB,if_pos h40]
  rw [hT]
  obtain ⟨s1,s2⟩:=ops_snoc b.waiting 0
  rw [if_neg (by decide)] at s1
  rw [if_pos rfl] at s2
  simp at f2
  refine ⟨?_,?_,?_,?_,?_⟩
  ·show zerosN (b.waiting ++ [0])=_;omega
  ·show opsN (b.waiting ++ [0])+_≤b.ready.length;simp;omega
  ·show b.nodes.length+opsN (b.waiting ++ [0])≤_;omega
  ·show (b.waiting ++ [0]).length≤_;simp;omega
  ·show b.ready.length≤_;omega
 | cls _ t h1 h41 =>
  obtain ⟨f1,f2,f3,f4,f5⟩:=hF
  simp at f2
  have hT:takeB b t=⟨(settleB 0 b).nodes,(settleB 0 b).ready,(settleB 0 b).waiting.take ((settleB 0 b).waiting.length-1)⟩:=by rw [takeB,if_neg (by omega),if_pos h41]
  rw [hT]
  obtain ⟨q1,q2,q3,q4,q5⟩:=settleB_inv 0 b f2
  have hpos:1≤(settleB 0 b).waiting.length:=by have:=zo_len (settleB 0 b).waiting;omega
  obtain ⟨k,hk⟩:∃ k,(settleB 0 b).waiting.length=k+1:=⟨(settleB 0 b).waiting.length-1,by omega⟩
  have hz:(settleB 0 b).waiting.getD k 0=0:=settle_zero _ b rfl k hk
  obtain ⟨o1,o2⟩:=ops_last hk
  rw [hz,if_neg (by decide)] at o1
  rw [hz,if_pos rfl] at o2
  rw [hk,Nat.add_sub_cancel]
  refine ⟨?_,?_,?_,?_,?_⟩
  ·show zerosN ((settleB 0 b).waiting.take k)=_;omega
  ·show opsN ((settleB 0 b).waiting.take k)+_≤(settleB 0 b).ready.length;simp;omega
  ·show (settleB 0 b).nodes.length+opsN ((settleB 0 b).waiting.take k)≤_;omega
  ·show ((settleB 0 b).waiting.take k).length≤_;simp;omega
  ·show (settleB 0 b).ready.length≤_;omega
 | num _ t h1 h7 hd =>
  have h0:=hd 0 (by omega)
  unfold digB at h0
  simp at h0
  rw [take_is_opd (by omega)]
  exact fit_opd h1 hF
 | nam _ t h1 hl =>
  have h0:=hl 0 (by omega)
  unfold letB at h0
  simp at h0
  rw [take_is_opd (by omega)]
  exact fit_opd h1 hF
 | sgn _ t h1 hs =>
  obtain ⟨f1,f2,f3,f4,f5⟩:=hF
  simp at f2
  obtain ⟨i,hi⟩:∃ i,signI (byteN t 0)=i:=⟨_,rfl⟩
  have hc:=sign_cases hs
  have hT:takeB b t=⟨(settleB (bindN (3+i)) b).nodes,(settleB (bindN (3+i)) b).ready,(settleB (bindN (3+i)) b).waiting ++ [3+i]⟩:=by
   rw [takeB,if_neg (by omega),if_neg (by omega),if_pos hs,hi]
  rw [hT]
  obtain ⟨q1,q2,q3,q4,q5⟩:=settleB_inv (bindN (3+i)) b f2
  obtain ⟨s1,s2⟩:=ops_snoc (settleB (bindN (3+i)) b).waiting (3+i)
  rw [if_pos (by omega)] at s1
  rw [if_neg (by omega)] at s2
  generalize settleB (bindN (3+i)) b=b1 at *
  refine ⟨?_,?_,?_,?_,?_⟩
  ·show zerosN (b1.waiting ++ [3+i])=_;omega
  ·show opsN (b1.waiting ++ [3+i])+_≤b1.ready.length;simp;omega
  ·show b1.nodes.length+opsN (b1.waiting ++ [3+i])≤_;omega
  ·show (b1.waiting ++ [3+i]).length≤_;simp;omega
  ·show b1.ready.length≤_;omega
theorem take_any (N p a o o':Nat) (ph ph':Bool) (b:Bld) (t:ByteArray) (w:World) (hN:N≤w.heap.size) (hS:Stp o ph t o' ph') (hF:FitB a o ph b) (ha:a+t.size≤100) (hB:BldAt N p b w) :
  Calls Tryz.prog 135 #[.pointer (some ⟨p,0,none⟩),.string t] w fun e w'=>e=.returned (.tuple #[])∧BldAt N p (takeB b t) w'∧Kept N (fun k=>k=p) w w':=by
 obtain ⟨f1,f2,f3,f4,f5⟩:=hF
 cases hS with
 | opn o t h1 h40 =>
  have hT:takeB b t=⟨b.nodes,b.ready,b.waiting ++ [0]⟩:=by rw [takeB,if_pos h40]
  rw [hT]
  exact take_opn N p b t w hN h1 h40 (by omega) hB
 | cls _ t h1 h41 =>
  simp at f2
  have hT:takeB b t=⟨(settleB 0 b).nodes,(settleB 0 b).ready,(settleB 0 b).waiting.take ((settleB 0 b).waiting.length-1)⟩:=by rw [takeB,if_neg (by omega),if_pos h41]
  rw [hT]
  exact take_cls N p b t w hN h1 h41 (by omega) (by omega) f2 (by omega) (by omega) hB
 | num _ t h1 h7 hd =>
  have h0:=hd 0 (by omega)
  unfold digB at h0
  simp at h0
  rw [take_is_opd (by omega)]
  exact take_opd N p b t w hN h1 (by omega) (Or.inr ⟨h7,hd⟩) (by omega) (by omega) hB
 | nam _ t h1 hl =>
  have h0:=hl 0 (by omega)
  have h0':=h0
  unfold letB at h0
  simp at h0
  rw [take_is_opd (by omega)]
  exact take_opd N p b t w hN h1 (by omega) (Or.inl h0') (by omega) (by omega) hB
 | sgn _ t h1 hs =>
  simp at f2
  obtain ⟨i,hi⟩:∃ i,signI (byteN t 0)=i:=⟨_,rfl⟩
  have hc:=sign_cases hs
  have hT:takeB b t=⟨(settleB (bindN (3+i)) b).nodes,(settleB (bindN (3+i)) b).ready,(settleB (bindN (3+i)) b).waiting ++ [3+i]⟩:=by
   rw [takeB,if_neg (by omega),if_neg (by omega),if_pos hs,hi]
  rw [hT]
  exact take_sgn N p b t w hN h1 (byteN t 0) i rfl hi (by rw [hi] at hc;exact hc) (by omega) (by omega) f2 (by omega) hB
def tkB (N p:Nat):Tkr Bld:=⟨N,p,100,135,#[.pointer (some ⟨p,0,none⟩)],takeB,fun b w=>BldAt N p b w,FitB⟩
theorem tkB_ok (N p:Nat):(tkB N p).Ok:=by
 refine ⟨by show 100≤_;omega,?_,?_,?_,?_⟩
 ·intro args w;show (callFunc 135 args).run Tryz.prog w=_;simp [go_sem,tkB]
 ·rintro q st w w' hq hqp ⟨AN,cN,AR,cR,AW,cW,hV⟩ hg
  refine ⟨_,_,_,_,_,_,hV.stay fun k hk hkp=>hg.block k hk fun e=>?_⟩
  have e':k=q:=by simpa using e
  have hq':q<N:=hq
  have hqp':q≠p:=hqp
  omega
 ·intro a o ph st t o' ph' hS hF _
  exact fit_step hS hF
 ·intro a o ph st t o' ph' w hS hF ha hN hB
  exact take_any N p a o o' ph ph' st t w hN hS hF ha hB
end Go.Proofs.YtglekooldbeklaaGreatDoor
