/-
  What is reached from some numbers, one step after another (plain); a list that grows, with the set of what stands in it, in memory.
-/
import Derived.Maps.OwnSet
import Derived.Test.YtfgegmpoejilnaaGreatDoorJGBC
namespace Go.Proofs.YtfgegmpoejilnaaGreatDoor
open Go.ChangeShapes Go.WideShapes Go.ChangeAt Go.RowKit
set_option maxRecDepth 20000
inductive Rea (nx:Nat→List Int) (S:List Int):Int→Prop
 | base {x:Int}:x∈S→Rea nx S x
 | step {y:Nat} {x:Int}:Rea nx S (y:Int)→x∈nx y→Rea nx S x
def InN (N:Nat) (L:List Int):Prop := ∀ z∈L,∃ y:Nat,z=(y:Int)∧y<N
theorem inN_few {N:Nat} {L:List Int} (h:InN N L) (hn:L.Nodup):L.length≤N:=few N L hn fun x hx=>by
 obtain ⟨y,rfl,hy⟩:=h x hx
 omega
structure ReI (nx:Nat→List Int) (S L:List Int) (k:Nat):Prop where
 nd:L.Nodup
 got:∀ z∈L,Rea nx S z
 beg:∀ z∈S,z∈L
 clo:∀ j,j<k→∀ z∈nx (L.getD j 0).toNat,z∈L
theorem ReI.all {nx:Nat→List Int} {S L:List Int} (h:ReI nx S L L.length):∀ z,z∈L↔Rea nx S z:=by
 intro z
 refine ⟨h.got z,fun hz=>?_⟩
 induction hz with
 | base hx=>exact h.beg _ hx
 | @step y x _ hx ih =>
  obtain ⟨j,hj,e⟩:=List.getElem_of_mem ih
  have:=h.clo j hj
  rw [List.getD_eq_getElem?_getD,List.getElem?_eq_getElem hj,Option.getD_some,e,Int.toNat_natCast] at this
  exact this _ hx
theorem ReI.next {nx:Nat→List Int} {S L L':List Int} {k y:Nat} (h:ReI nx S L k) (hk:k<L.length) (hy:L.getD k 0=(y:Int)) (hp:L <+: L') (hn:L'.Nodup) (hm:∀ z,z∈L'↔z∈L∨z∈nx y):ReI nx S L' (k+1):=by
 obtain ⟨M,rfl⟩:=hp
 have hat:∀ j,j<L.length→(L ++ M).getD j 0=L.getD j 0:=fun j hj=>by
  rw [List.getD_eq_getElem?_getD,List.getD_eq_getElem?_getD,List.getElem?_append_left hj]
 refine ⟨hn,fun z hz=>?_,fun z hz=>(hm z).2 (Or.inl (h.beg z hz)),fun j hj z hz=>?_⟩
 ·rcases (hm z).1 hz with h1 | h1
  ·exact h.got z h1
  ·have h2:=h.got _ (getD_memI hk)
   rw [hy] at h2
   exact .step h2 h1
 ·rw [hat j (by omega)] at hz
  refine (hm z).2 ?_
  by_cases e:j=k
  ·subst e
   rw [hy,Int.toNat_natCast] at hz
   exact Or.inr hz
  ·exact Or.inl (h.clo j (by omega) z hz)
theorem ReI.first {nx:Nat→List Int} {S L:List Int} (hn:L.Nodup) (hm:∀ z,z∈L↔z∈([]:List Int)∨z∈S):ReI nx S L 0 :=
 ⟨hn,fun z hz=>.base (by simpa using (hm z).1 hz),fun z hz=>(hm z).2 (Or.inr hz),fun j hj=>absurd hj (Nat.not_lt_zero _)⟩
theorem rea_in {nx:Nat→List Int} {S:List Int} {N:Nat} (hS:InN N S) (hx:∀ y,y<N→InN N (nx y)) {z:Int} (h:Rea nx S z):∃ y:Nat,z=(y:Int)∧y<N:=by
 induction h with
 | base h=>exact hS _ h
 | @step y x _ h ih =>
  obtain ⟨y',e,hy⟩:=ih
  have:y=y':=by omega
  subst this
  exact hx y hy _ h
def SeD (L:List Int):DataW Unit:=Maps.setOf (.agg []) (L.map (Lit.int .i64))
theorem any_int (x:Int):∀ l:List Int,l.any ((fun y:Lit=>y.sameKey (.int .i64 x)) ∘ Lit.int .i64)=l.contains x
 | []=>rfl
 | a :: r=>by
  rw [List.any_cons,List.contains_cons,any_int x r]
  congr 1
  show decide (IntKind.i64=IntKind.i64∧a=x)=(x == a)
  by_cases e:a=x
  ·subst e
   simp
  ·have e' : ¬ x=a:=fun h=>e h.symm
   simp [e,e']
theorem has_SeD (L:List Int) (x:Int):Maps.has (SeD L) (.int .i64 x)=L.contains x:=by
 unfold SeD
 rw [Maps.has_setOf _ _ _ (fun y hy=>by obtain ⟨_,_,rfl⟩:=List.mem_map.1 hy;trivial),List.any_map]
 exact any_int x _
theorem SeD_snoc (L:List Int) (x:Int):SeD (L ++ [x])=(SeD L).put (.int .i64 x) (.agg []):=by
 unfold SeD
 rw [List.map_append,List.map_singleton,Maps.setOf_snoc]
theorem keyd_int:Maps.Keyed Tryz.prog 3:=Maps.int_keyed Tryz.underlying3
theorem zero_unit (w:World):(zeroValue 179).run Tryz.prog w=.ok (.agg #[]) w:=by kernel_rfl
structure RS (w:World) (B bS bF bM:Nat) (v:Value) (L:List Int):Prop where
 hS:w.heap[bS]?=some (.cells #[.map (some bM)] 178 (0,0))
 hF:w.heap[bF]?=some (.cells #[v] 38 (0,0))
 hM:w.ownsMap Tryz.prog 3 (unitElem (H:=Unit)) bM L.length (SeD L)
 own:w.ownsRow B 3 1 v L.length (mapI L)
 lS:B≤bS
 lF:B≤bF
 lM:B≤bM
section
variable {w w':World} {B bS bF bM:Nat} {v:Value} {L:List Int}
theorem RS.later (h:RS w B bS bF bM v L) (hB:Below w.heap.size w w'):RS w' B bS bF bM v L :=
 ⟨(hB.block _ (Array.getElem?_eq_some_iff.1 h.hS).1).trans h.hS,(hB.block _ (Array.getElem?_eq_some_iff.1 h.hF).1).trans h.hF,h.hM.kept (grown_belowR (r:=none) hB) (by simp),own_later h.own hB,h.lS,h.lF,h.lM⟩
theorem RS.cells (h:RS w B bS bF bM v L):w.cell? ⟨bS,0,none⟩=some (.map (some bM))∧w.cell? ⟨bF,0,none⟩=some v∧w.frozen? ⟨bF,0,none⟩=false∧bS<w.heap.size∧bF<w.heap.size :=
 ⟨by simp [World.cell?,h.hS],by simp [World.cell?,h.hF],by simp [World.frozen?,h.hF],(Array.getElem?_eq_some_iff.1 h.hS).1,(Array.getElem?_eq_some_iff.1 h.hF).1⟩
theorem RS.map (h:RS w B bS bF bM v L):∃ es ck,w.heap[bM]?=some (.map es ck):=by
 obtain ⟨es,ck,hb,-⟩:=h.hM
 exact ⟨es,ck,hb⟩
theorem RS.ne (h:RS w B bS bF bM v L):bS≠bM∧bF≠bM∧bS≠bF∧(∀ b,v.ownBlock=some b→b≠bS∧b≠bF∧b≠bM):=by
 obtain ⟨es,ck,hb⟩:=h.map
 refine ⟨fun e=>?_,fun e=>?_,fun e=>?_,fun b hv=>?_⟩
 ·have h1:=h.hS;rw [e,hb] at h1;simp at h1
 ·have h1:=h.hF;rw [e,hb] at h1;simp at h1
 ·have h1:=h.hS;rw [e,h.hF] at h1;simp at h1
 ·obtain ⟨-,-,cur,hc⟩:=own_blk h.own hv
  refine ⟨fun e=>?_,fun e=>?_,fun e=>?_⟩
  ·rw [e,h.hS] at hc;simp at hc
  ·rw [e,h.hF] at hc;simp at hc
  ·rw [e,hb] at hc;simp at hc
theorem RS.made (w:World):RS (((w.alloc (.cells #[.slice none 0 0] 38)).alloc (.map #[] 0)).alloc (.cells #[.map (some (w.heap.size+1))] 178)) w.heap.size (w.heap.size+2) w.heap.size (w.heap.size+1) (.slice none 0 0) []:=by
 have s1:(w.alloc (.cells #[.slice none 0 0] 38)).heap.size=w.heap.size+1:=by simp
 have s2:((w.alloc (.cells #[.slice none 0 0] 38)).alloc (.map #[] 0)).heap.size=w.heap.size+2:=by simp
 refine ⟨?_,?_,?_,World.ownsRow_nil _ _ _ _,by omega,Nat.le_refl _,by omega⟩
 ·have h:=heap_alloc_new ((w.alloc (.cells #[.slice none 0 0] 38)).alloc (.map #[] 0)) (.cells #[.map (some (w.heap.size+1))] 178)
  rw [s2] at h
  exact h
 ·rw [heap_alloc_old _ _ (by omega),heap_alloc_old _ _ (by omega)]
  exact heap_alloc_new w _
 ·have h:=World.ownsMap_made (w.alloc (.cells #[.slice none 0 0] 38)) Tryz.prog 3 (unitElem (H:=Unit))
  rw [s1] at h
  exact h.alloc _
theorem RS.mid (h:RS w B bS bF bM v L) {wa w1:World} (hwa:Below w.heap.size w wa) (hg1:wa.grownBy w1 (some bM)):w1.heap[bS]?=w.heap[bS]?∧w1.heap[bF]?=w.heap[bF]?∧w1.ownsRow B 3 1 v L.length (mapI L):=by
 obtain ⟨n1,n2,n3,n4⟩:=h.ne
 have lt1:=(Array.getElem?_eq_some_iff.1 h.hS).1
 have lt2:=(Array.getElem?_eq_some_iff.1 h.hF).1
 have hs:=hwa.size
 refine ⟨(hg1.block _ (by omega) (by simpa using n1)).trans (hwa.block _ lt1),(hg1.block _ (by omega) (by simpa using n2)).trans (hwa.block _ lt2),own_grown (own_later h.own hwa) hg1 fun b hb e=>?_⟩
 cases e
 exact (n4 _ hb).2.2 rfl
theorem RS.push (h:RS w B bS bF bM v L) {wa w1 wb w2:World} {x:Int} {v':Value} (hwa:Below w.heap.size w wa) (hm1:w1.ownsMap Tryz.prog 3 (unitElem (H:=Unit)) bM (L.length+1) ((SeD L).put (.int .i64 x) (.agg []))) (hg1:wa.grownBy w1 (some bM)) (hwb:Below w1.heap.size w1 wb)
  (hO2:w2.ownsRow B 3 1 v' (L.length+1) (mapI L ++ [.int .i64 x])) (hg2:wb.grownBy w2 v.ownBlock):w2.cell? ⟨bF,0,none⟩=some v∧w2.frozen? ⟨bF,0,none⟩=false∧bF<w2.heap.size∧RS (w2.setCell ⟨bF,0,none⟩ v') B bS bF bM v' (L ++ [x]):=by
 obtain ⟨n1,n2,n3,n4⟩:=h.ne
 obtain ⟨m1,m2,m3⟩:=h.mid hwa hg1
 have lt1:=(Array.getElem?_eq_some_iff.1 (m1.trans h.hS)).1
 have lt2:=(Array.getElem?_eq_some_iff.1 (m2.trans h.hF)).1
 have hs:=hwb.size
 have hs2:=hg2.size
 have kS:w2.heap[bS]?=some (.cells #[.map (some bM)] 178 (0,0)):=((hg2.block _ (by omega) fun e=>(n4 _ e.symm).1 rfl).trans (hwb.block _ lt1)).trans (m1.trans h.hS)
 have kF:w2.heap[bF]?=some (.cells #[v] 38 (0,0)):=((hg2.block _ (by omega) fun e=>(n4 _ e.symm).2.1 rfl).trans (hwb.block _ lt2)).trans (m2.trans h.hF)
 refine ⟨by simp [World.cell?,kF],by simp [World.frozen?,kF],(Array.getElem?_eq_some_iff.1 kF).1,?_,?_,?_,?_,h.lS,h.lF,h.lM⟩
 ·rw [setCell_off _ _ _ _ _ n3]
  exact kS
 ·simp [World.setCell,Array.getElem?_modify,kF]
 ·rw [SeD_snoc,List.length_append,List.length_singleton]
  exact (((hm1.kept (grown_belowR (r:=none) hwb) (by simp)).kept hg2 fun e=>(n4 _ e.symm).2.2 rfl)).setCell (Ne.symm n2) _
 ·rw [List.length_append,List.length_singleton,mapI_snoc]
  refine own_setc hO2 fun e=>?_
  obtain ⟨-,-,cur,hc⟩:=own_blk hO2 e
  rw [kF] at hc
  simp at hc
theorem below_grownW {W0 w w':World} {r:Option Nat} (h:Below W0.heap.size W0 w) (hg:w.grownBy w' r) (hr:∀ b,r=some b→W0.heap.size≤b):Below W0.heap.size W0 w' :=
 ⟨hg.os.trans h.os,hg.tape.trans h.tape,hg.output.trans h.output,Nat.le_trans h.size hg.size,fun b hb=>(hg.block b (Nat.lt_of_lt_of_le hb h.size) (fun e=>by have:=hr b e.symm;omega)).trans (h.block b hb)⟩
end
def RM (w:World) (W0:World) (bS bF bM N:Nat) (L:List Int) (A:Option Addr) (c:Nat) (T:List Int) (k:Nat) (v:Value) (L':List Int):Prop:=RS w W0.heap.size bS bF bM v L'∧L <+: L'∧L'.Nodup∧InN N L'∧(∀ z,z∈L'↔z∈L∨z∈T.take k)∧IntT w A c T∧(∀ a,A=some a→v.ownBlock≠some a.block)∧Below W0.heap.size W0 w
section
variable {w W0:World} {bS bF bM N:Nat} {L:List Int} {A:Option Addr} {c:Nat} {T:List Int} {k:Nat} {v:Value} {L':List Int}
theorem RM.old (h:RM w W0 bS bF bM N L A c T k v L') (hk:k<T.length) (hx:T.getD k 0∈L') {wa:World} (hwa:Below w.heap.size w wa):RM wa W0 bS bF bM N L A c T (k+1) v L':=by
 obtain ⟨h1,h2,h3,h4,h5,h6,h7,h8⟩:=h
 refine ⟨h1.later hwa,h2,h3,h4,fun z=>?_,h6.later hwa,h7,onB h8 hwa⟩
 rw [h5 z,List.take_succ_eq_append_getElem hk,List.mem_append,List.mem_singleton]
 constructor
 ·intro h
  exact h.imp id Or.inl
 ·rintro (h | h | h)
  ·exact Or.inl h
  ·exact Or.inr h
  ·rw [List.getD_eq_getElem?_getD,List.getElem?_eq_getElem hk,Option.getD_some,←h] at hx
   exact (h5 z).1 hx
theorem RM.new (h:RM w W0 bS bF bM N L A c T k v L') (hk:k<T.length) {y:Nat} (hy:T.getD k 0=(y:Int)) (hyN:y<N) (hx:(y:Int)∉L') {wa w1 wb w2:World} {v':Value} (hwa:Below w.heap.size w wa) (hm1:w1.ownsMap Tryz.prog 3 (unitElem (H:=Unit)) bM (L'.length+1) ((SeD L').put (.int .i64 (y:Int)) (.agg []))) (hg1:wa.grownBy w1 (some bM)) (hwb:Below w1.heap.size w1 wb)
  (hO2:w2.ownsRow W0.heap.size 3 1 v' (L'.length+1) (mapI L' ++ [.int .i64 (y:Int)])) (hg2:wb.grownBy w2 v.ownBlock) (hat:v'.ownBlock=v.ownBlock∨v'.ownBlock=some wb.heap.size):w2.cell? ⟨bF,0,none⟩=some v∧w2.frozen? ⟨bF,0,none⟩=false∧bF<w2.heap.size∧RM (w2.setCell ⟨bF,0,none⟩ v') W0 bS bF bM N L A c T (k+1) v' (L' ++ [(y:Int)]):=by
 obtain ⟨h1,⟨M,rfl⟩,h3,h4,h5,h6,h7,h8⟩:=h
 obtain ⟨p1,p2,p3,p4⟩:=h1.push hwa hm1 hg1 hwb hO2 hg2
 obtain ⟨n1,n2,n3,n4⟩:=h1.ne
 have hb1:Below W0.heap.size W0 w1:=below_grownW (onB h8 hwa) hg1 fun b e=>by cases e;exact h1.lM
 have hb2:Below W0.heap.size W0 w2:=below_grownW (onB hb1 hwb) hg2 fun b e=>(own_blk h1.own e).1
 have keep:∀ a,A=some a→T≠[]→(w2.setCell ⟨bF,0,none⟩ v').heap[a.block]?=w.heap[a.block]?:=fun a ha hT=>by
  obtain ⟨-,-,h0 | ⟨b,cs,fr,h2,h3,-⟩⟩:=h6
  ·exact absurd h0 hT
  ·rw [ha] at h2
   cases h2
   have lt:=(Array.getElem?_eq_some_iff.1 h3).1
   have s1:=hwa.size
   have s2:=hg1.size
   have s3:=hwb.size
   have nF:b≠bF:=fun e=>by rw [e,h1.hF] at h3;simp at h3
   have nM:b≠bM:=fun e=>by obtain ⟨es,ck,hm⟩:=h1.map;rw [e,hm] at h3;simp at h3
   show (w2.setCell ⟨bF,0,none⟩ v').heap[b]?=w.heap[b]?
   rw [setCell_off _ _ _ _ _ nF]
   exact (((hg2.block b (by omega) fun e=>h7 _ ha e.symm).trans (hwb.block b (by omega))).trans (hg1.block b (by omega) (by simpa using nM))).trans (hwa.block b lt)
 have hT:T≠[]:=fun e=>by rw [e] at hk;simp at hk
 refine ⟨p1,p2,p3,p4,⟨M ++ [(y:Int)],by rw [List.append_assoc]⟩,?_,?_,fun z=>?_,h6.one fun a ha=>keep a ha hT,fun a ha e=>?_,hb2.setCell h1.lF _⟩
 ·rw [List.nodup_append]
  exact ⟨h3,by simp,fun a ha b hb e=>by simp at hb;subst hb;subst e;exact hx ha⟩
 ·intro z hz
  rcases List.mem_append.1 hz with h | h
  ·exact h4 z h
  ·exact ⟨y,by simpa using h,hyN⟩
 ·rw [List.mem_append,h5 z,List.take_succ_eq_append_getElem hk,List.mem_append,List.mem_singleton,List.mem_singleton]
  rw [List.getD_eq_getElem?_getD,List.getElem?_eq_getElem hk,Option.getD_some] at hy
  rw [hy]
  exact or_assoc
 ·rcases hat with h | h
  ·exact h7 a ha (h.symm.trans e)
  ·obtain ⟨-,-,h0 | ⟨b,cs,fr,h2,h3,-⟩⟩:=h6
   ·exact hT h0
   ·rw [ha] at h2
    cases h2
    have lt:=(Array.getElem?_eq_some_iff.1 h3).1
    have s1:=hwa.size
    have s2:=hg1.size
    have s3:=hwb.size
    rw [h] at e
    simp at e
    omega
end
theorem ent_meet (args:Array Value) (w:World):(callFunc 112 args).run Tryz.prog w=.ok (.enter 112 args) w:=by simp [go_sem]
set_option maxHeartbeats 8000000 in
theorem meet_any (W0:World) (bS bF bM N:Nat) (v:Value) (L:List Int) (A:Option Addr) (c:Nat) (T:List Int) (w:World) (hN:N≤3000) (hTl:T.length≤3000) (hTi:InN N T) (h0:RM w W0 bS bF bM N L A c T 0 v L) :
  Calls Tryz.prog 112 #[.slice A T.length c,.pointer (some ⟨bS,0,none⟩),.pointer (some ⟨bF,0,none⟩)] w fun e w'=>e=.returned (.tuple #[])∧∃ v' L',RM w' W0 bS bF bM N L A c T T.length v' L':=by
 obtain ⟨i0,hi0,hz0,hz1,hz2⟩:=info_parts Tryz.infoInt
 have HTi:Hid (InN N T):=hTi
 have HR0:Hid (RM w W0 bS bF bM N L A c T 0 v L):=h0
 obtain ⟨tl,htl⟩:∃ tl,T.length=tl:=⟨_,rfl⟩
 have HTl:Hid (T.length=tl):=htl
 rw [htl] at hTl ⊢
 have htI:(tl:Int)≤3000:=by omega
 clear h0 hTi htl
 go_enter Tryz.func112,Tryz.ntmps112
 go_wp2_with fail
 go_loopg [10] tl (fun gg s10 wr => ∃ (k:Nat),k≤tl∧gg=tl-k∧s10=.int .i64 k∧Hid (∃ v' L',RM wr W0 bS bF bM N L A c T k v' L'))
 case atStart=>exact ⟨0,Nat.zero_le _,rfl,rfl,⟨v,L,HR0.out⟩⟩
 case round =>
  obtain ⟨k,hk,rfl,rfl,HK⟩:=hrel
  by_cases hlt:k<tl
  ·have hki:(k:Int)<(tl:Int):=by omega
   have hkT:k<T.length:=by rw [HTl.out];exact hlt
   obtain ⟨v1,L1,hR⟩:=HK.out
   have HR:Hid (RM wr W0 bS bF bM N L A c T k v1 L1):=hR
   obtain ⟨y,hy,hyN⟩:=HTi.out _ (getD_memI hkT)
   obtain ⟨hS,-,hnd,hin,-,hcT,-,hBw⟩:=hR
   obtain ⟨c0,c1,f1,hbs,hbf⟩:=hS.cells
   obtain ⟨hcS,-,hS0 | ⟨bt,cs,fr,rfl,hbT,hcl⟩⟩:=hcT
   ·rw [hS0] at hkT;simp at hkT
   have cx:=hcl k hkT
   have hbt:bt<wr.heap.size:=(Array.getElem?_eq_some_iff.1 hbT).1
   rw [HTl.out] at hcS
   rw [hy] at cx
   have hcSI:(tl:Int)≤(c:Int):=by omega
   have hyI:(y:Int)<3000:=by omega
   have hl1:=inN_few hin hnd
   have hown:=hS.hM
   have hkey:keyOf Tryz.prog 3 (.int .i64 (y:Int))=some (.int .i64 (y:Int)):=Maps.keyOf_int_mk Tryz.underlying3 (WalkArith.wf_i64 (by omega))
   have hhas:=has_SeD L1 (y:Int)
   obtain ⟨AO,cO,hv⟩:∃ AO cO,v1=.slice AO L1.length cO:=by
    rcases hS.own.2 with ⟨h1,h2⟩ | ⟨g,cap,cur,h1,-⟩
    ·exact ⟨none,0,by rw [h1,h2]⟩
    ·exact ⟨_,_,h1⟩
   have hBs:W0.heap.size≤wr.heap.size:=hBw.size
   have HY:Hid (T.getD k 0=(y:Int)):=hy
   by_cases hx:(y:Int)∈L1
   ·have hh:Maps.has (SeD L1) (.int .i64 (y:Int))=true:=by rw [hhas];exact List.contains_iff_mem.2 hx
    have HF:Hid (∀ wa,Below wr.heap.size wr wa→RM wa W0 bS bF bM N L (some ⟨bt,0,none⟩) c T (k+1) v1 L1):=fun wa hwa=>HR.out.old hkT (by rw [HY.out];exact hx) hwa
    clear hS hnd hin hcl hbT hhas hy hBw hv hx
    go_wp2_with (at_lookup;refine wpList_lookup_own_unit _ rfl _ _ 178 rfl 3 179 keyd_int Tryz.underlying178 (zero_unit _) bM _ _ rfl hown _ _ rfl hkey ?_)
    go_roundg (tl-(k+1))
    case measure=>omega
    case rel=>exact ⟨k+1,by omega,rfl,by go_num,⟨v1,L1,HF.out _ (by go_grown)⟩⟩
   ·have hh:Maps.has (SeD L1) (.int .i64 (y:Int))=false:=by rw [hhas];exact Bool.eq_false_iff.2 fun h=>hx (List.contains_iff_mem.1 h)
    subst hv
    have HMid:Hid (∀ wa w1,Below wr.heap.size wr wa→wa.grownBy w1 (some bM)→w1.cell? ⟨bF,0,none⟩=some (.slice AO L1.length cO)∧w1.ownsRow W0.heap.size 3 1 (.slice AO L1.length cO) L1.length (mapI L1)∧bF<w1.heap.size∧W0.heap.size≤w1.heap.size):=fun wa w1 hwa hg1=>by
     obtain ⟨-,m2,m3⟩:=HR.out.1.mid hwa hg1
     have s1:=hwa.size
     have s2:=hg1.size
     have s3:=HR.out.2.2.2.2.2.2.2.size
     have s4:=HR.out.1.cells.2.2.2.2
     exact ⟨(World.cell?_of_block (a:=⟨bF,0,none⟩) m2).trans HR.out.1.cells.2.1,m3,by omega,by omega⟩
    have HNew:=hid_of (fun wa w1 wb w2 v'=>HR.out.new hkT HY.out hyN hx (wa:=wa) (w1:=w1) (wb:=wb) (w2:=w2) (v':=v'))
    have hown2:=hown.alloc (.cells #[] 179)
    obtain ⟨ln,hln⟩:∃ ln,L1.length=ln:=⟨_,rfl⟩
    rw [hln] at hown hown2 c1 HMid HNew hl1
    have hlnI:ln≤3000:=by omega
    clear hS hnd hin hcl hbT hhas hy hBw hx hln
    go_wp2_with (first
     | (at_lookup;refine wpList_lookup_own_unit _ rfl _ _ 178 rfl 3 179 keyd_int Tryz.underlying178 (zero_unit _) bM _ _ rfl hown _ _ rfl hkey ?_)
     | (at_mapUpdate;refine wpList_mapUpdate_own _ rfl _ _ _ 178 rfl 3 179 keyd_int Tryz.underlying178 (unitElem (H:=Unit)) bM ln _ rfl hown2 (by unfold maxLen;omega) _ _ _ rfl rfl hkey _ [] unitElem_mk ?_))
    intro w1 hm1 hg1
    obtain ⟨x1,x2,x3,x4⟩:=HMid.out _ _ (by go_grown) hg1
    have HO1:Hid (w1.ownsRow W0.heap.size 3 1 (.slice AO ln cO) ln (mapI L1)):=x2
    have HG1:=hid_of hg1
    have HM1:=hid_of hm1
    clear x2 hg1 hm1 hown hown2 c0 c1 f1
    go_wp2_with (at_builtin;refine wpList_append_own_at _ rfl _ _ 38 rfl W0.heap.size 3 i0 (.int .i64 0) 1 8 Tryz.underlying38 hi0 hz0 hz1 hz2 rfl (by decide) _ _ _ rfl (HO1.out.alloc _) ⟨w1.heap.size,0,none⟩ 1 1 [.int .i64 y] rfl rfl one_cell one_one (by unfold maxLen;omega) (by omega) (by simp;omega) ?_)
    intro v' w2 hown' hgrow _ hat
    obtain ⟨A',c',rfl⟩:∃ A' c',v'=.slice A' (ln+1) c':=by
     rcases hown'.2 with ⟨-,h⟩ | ⟨g',c',cur,h,-⟩
     ·omega
     ·exact ⟨_,_,h⟩
    obtain ⟨y1,y2,y3,hRM⟩:=HNew.out _ _ _ _ _ (by go_grown) HM1.out HG1.out (by go_grown) hown' hgrow (hat.imp id fun h=>by rw [h];simp)
    have HF:=hid_of hRM
    clear hown' hgrow hat hRM x1 x3 x4
    go_wp2_with fail
    go_roundg (tl-(k+1))
    case measure=>omega
    case rel=>exact ⟨k+1,by omega,rfl,by go_num,⟨_,_,HF.out⟩⟩
  ·have hke:k=tl:=by omega
   subst hke
   go_wp2_with fail
   first | go_end0 | refine bodyPost_ret (results_none rfl _ _ _) rfl ?_
   exact ⟨rfl,HK.out⟩
end Go.Proofs.YtfgegmpoejilnaaGreatDoor
