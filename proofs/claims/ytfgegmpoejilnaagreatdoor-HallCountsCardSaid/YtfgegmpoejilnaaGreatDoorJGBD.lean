/-
  A list of numbers of a call's own, wherever in its block: what slices.BinarySearch and slices.Insert answer of it.
-/
import Derived.Test.YtfgegmpoejilnaaGreatDoorShelfH
import Derived.Test.YtfgegmpoejilnaaGreatDoorJGAY
namespace Go.Proofs.YtfgegmpoejilnaaGreatDoor
open Go.ChangeShapes Go.WideShapes Go.ChangeAt Go.RowKit
set_option maxRecDepth 100000
theorem setCells_ty {g T:Nat} {fr:Nat×Nat}:∀ (vs:List Value) (o:Nat) (cur:Array Value) (w:World),w.heap[g]?=some (.cells cur T fr)→∃ cur',(w.setCells g o vs).heap[g]?=some (.cells cur' T fr)∧cur'.size=cur.size
 | [],_,cur,_,h=>⟨cur,h,rfl⟩
 | v :: r,o,cur,w,h=>by
  obtain ⟨c2,h2,h3⟩:=setCells_ty r (o+1) _ (w.setCell ⟨g,o,none⟩ v) (set_ty h)
  exact ⟨c2,h2,by rw [h3];simp⟩
theorem setCells_size (g:Nat):∀ (vs:List Value) (o:Nat) (w:World),(w.setCells g o vs).heap.size=w.heap.size
 | [],_,_=>rfl
 | v :: r,o,w=>by
  show ((w.setCell ⟨g,o,none⟩ v).setCells g (o+1) r).heap.size=_
  rw [setCells_size g r];simp
theorem setCells_off (g:Nat) {b:Nat} (hb:b≠g):∀ (vs:List Value) (o:Nat) (w:World),(w.setCells g o vs).heap[b]?=w.heap[b]?
 | [],_,_=>rfl
 | v :: r,o,w=>by
  show ((w.setCell ⟨g,o,none⟩ v).setCells g (o+1) r).heap[b]?=_
  rw [setCells_off g hb r,setCell_off _ _ _ _ _ hb]
theorem setCells_os (g:Nat):∀ (vs:List Value) (o:Nat) (w:World),(w.setCells g o vs).os=w.os∧(w.setCells g o vs).tape=w.tape∧(w.setCells g o vs).output=w.output
 | [],_,_=>⟨rfl,rfl,rfl⟩
 | v :: r,o,w=>setCells_os g r (o+1) (w.setCell ⟨g,o,none⟩ v)
theorem grown_setCells {w w':World} {g:Nat} (h:w.grownBy w' (some g)) (vs:List Value) (o:Nat):w.grownBy (w'.setCells g o vs) (some g):=by
 obtain ⟨e1,e2,e3⟩:=setCells_os g vs o w'
 refine ⟨e1.trans h.os,e2.trans h.tape,e3.trans h.output,by rw [setCells_size];exact h.size,fun k hk hne=>?_⟩
 rw [setCells_off g (fun e=>hne (by rw [e]))]
 exact h.block k hk hne
def RdyV (w:World) (g:Nat) (A:Option Addr) (cap:Nat) (L:List Int):Prop:=L.length≤cap∧cap≤9223372036854775807∧∃ o,A=some ⟨g,o,none⟩∧(∃ cur,w.heap[g]?=some (.cells cur 3 (0,0))∧o+cap≤cur.size)∧∀ j,j<L.length→w.cell? ⟨g,o+j,none⟩=some (.int .i64 (L.getD j 0))
theorem RdyV.lt {w:World} {g cap:Nat} {A:Option Addr} {L:List Int} (h:RdyV w g A cap L):g<w.heap.size:=by
 obtain ⟨-,-,o,-,⟨cur,hc,-⟩,-⟩:=h
 exact (Array.getElem?_eq_some_iff.1 hc).1
theorem RdyV.same {w w':World} {g cap:Nat} {A:Option Addr} {L:List Int} (h:RdyV w g A cap L) (hb:w'.heap[g]?=w.heap[g]?):RdyV w' g A cap L:=by
 obtain ⟨h1,h2,o,h3,⟨cur,hc,h4⟩,h5⟩:=h
 exact ⟨h1,h2,o,h3,⟨cur,hb.trans hc,h4⟩,fun j hj=>(World.cell?_of_block (a:=⟨g,o+j,none⟩) hb).trans (h5 j hj)⟩
theorem RdyV.later {w w':World} {g cap:Nat} {A:Option Addr} {L:List Int} (h:RdyV w g A cap L) (hB:Below w.heap.size w w'):RdyV w' g A cap L:=h.same (hB.block g h.lt)
theorem RdyV.own {w:World} {base:Nat} {v:Value} {L:List Int} (h:w.ownsRow base 3 1 v L.length (mapI L)) (hl:0<L.length):∃ g c,v=.slice (some ⟨g,0,none⟩) L.length c∧base≤g∧RdyV w g (some ⟨g,0,none⟩) c L:=by
 rcases h.2 with ⟨rfl,h0⟩ | ⟨g,cap,cur,rfl,hb,hg,hc,hm,hs,_⟩
 ·omega
 ·refine ⟨g,cap,rfl,hb,hc,by unfold maxLen at hm;omega,0,rfl,⟨cur,hg,by omega⟩,fun j hj=>?_⟩
  have hx:=h.cells (g:=g) rfl j (.int .i64 (L.getD j 0)) (by simp [mapI,List.getD,List.getElem?_eq_getElem hj])
  have hadd:(⟨g,0,none⟩:Addr).add j=⟨g,j,none⟩:=by unfold Addr.add;split <;> simp_all
  rw [hadd] at hx
  rw [Nat.zero_add]
  exact hx
theorem mapI_at {L:List Int} {j:Nat} {v:Value} (h:(mapI L)[j]?=some v):j<L.length∧v=.int .i64 (L.getD j 0):=by
 unfold mapI at h
 rw [List.getElem?_map] at h
 have hj:j<L.length:=by
  refine Classical.byContradiction fun hn=>?_
  rw [List.getElem?_eq_none (by omega)] at h
  cases h
 rw [List.getElem?_eq_getElem hj] at h
 refine ⟨hj,?_⟩
 rw [List.getD_eq_getElem?_getD,List.getElem?_eq_getElem hj]
 simp at h ⊢
 exact h.symm
theorem mapI_one (L:List Int):∀ v∈mapI L,v.oneCell'=true:=by intro u hu;simp [mapI] at hu;obtain ⟨x,-,rfl⟩:=hu;rfl
theorem mapI_len (L:List Int):(mapI L).length=L.length:=by simp [mapI]
theorem RdyV.cells {w:World} {g cap o:Nat} {L:List Int} (h:RdyV w g (some ⟨g,o,none⟩) cap L):∀ j v,(mapI L)[j]?=some v→w.cell? ⟨g,o+j,none⟩=some v:=fun j v hj=>by
 obtain ⟨hj1,rfl⟩:=mapI_at hj
 obtain ⟨-,-,o',h3,-,h5⟩:=h
 cases h3
 exact h5 j hj1
theorem ins_at {L:List Int} {x:Int} {i:Nat} (hi:i≤L.length) (j:Nat):(j<i→(L.take i ++ x :: L.drop i).getD j 0=L.getD j 0)∧(j=i→(L.take i ++ x :: L.drop i).getD j 0=x)∧(i<j→(L.take i ++ x :: L.drop i).getD j 0=L.getD (j-1) 0):=by
 have hl:(L.take i).length=i:=by rw [List.length_take];omega
 refine ⟨fun h=>?_,fun h=>?_,fun h=>?_⟩
 ·rw [List.getD_eq_getElem?_getD,List.getElem?_append_left (by omega),List.getElem?_take_of_lt h,List.getD_eq_getElem?_getD]
 ·subst h
  rw [List.getD_eq_getElem?_getD,List.getElem?_append_right (by omega),hl,Nat.sub_self]
  rfl
 ·rw [List.getD_eq_getElem?_getD,List.getElem?_append_right (by omega),hl,show j-i=(j-i-1)+1 by omega,List.getElem?_cons_succ,List.getElem?_drop,List.getD_eq_getElem?_getD,show i+(j-i-1)=j-1 by omega]
theorem ins_len {L:List Int} {x:Int} {i:Nat} (hi:i≤L.length):(L.take i ++ x :: L.drop i).length=L.length+1:=by
 rw [List.length_append,List.length_cons,List.length_take,List.length_drop]
 omega
theorem findI_any (A:Option Addr) (cap g:Nat) (L:List Int) (x:Int) (w:World) (hl:L.length≤3000) (hR:RdyV w g A cap L) (hs:L.Pairwise (· < ·)):Calls Tryz.prog 48 #[.slice A L.length cap,.int .i64 x] w fun e w'=>(∃ b,e=.returned (.tuple #[.int .i64 (L.countP (· < x):Nat),.bool b]))∧Below w.heap.size w w':=by
 obtain ⟨-,-,o,rfl,-,h5⟩:=hR
 refine Calls.mono (Any.slices_BinarySearch_int Tryz.lays25 g o L.length cap L x w (Nat.le_refl _) (by omega) h5 (by rw [List.take_length];exact hs.imp fun h=>by omega)) ?_
 rintro e w' ⟨rfl,q,rfl⟩
 rw [List.take_length]
 exact ⟨⟨_,rfl⟩,below_drewN (Below.refl _ _) _⟩
def InsI (w:World) (g i:Nat) (L:List Int) (x:Int) (e:Ending) (w':World):Prop := ∃ g' A' c',e=.returned (.slice A' (L.length+1) c')∧RdyV w' g' A' c' (L.take i ++ x :: L.drop i)∧(g'=g∨w.heap.size≤g')∧w.grownBy w' (some g)
theorem insI_any (A:Option Addr) (cap g i vb:Nat) (L:List Int) (x:Int) (w:World) (hl:L.length≤3000) (hi:i≤L.length) (hR:RdyV w g A cap L) (hv:w.heap[vb]?=some (.cells #[.int .i64 x] 3 (0,0))) (hvb:vb≠g):Calls Tryz.prog 87 #[.slice A L.length cap,.int .i64 i,.slice (some ⟨vb,0,none⟩) 1 1] w fun e w'=>InsI w g i L x e w':=by
 obtain ⟨h1,h2,o,rfl,⟨cur,hc,h4⟩,h5⟩:=id hR
 have hgl:=hR.lt
 have hcs:=hR.cells
 have hvs:∀ j v,([Value.int .i64 x]:List Value)[j]?=some v→w.cell? ⟨vb,0+j,none⟩=some v:=fun j v hj=>by
  rw [Nat.zero_add,Lib.cell_of_heap hv]
  simpa using hj
 have hone:∀ v∈([Value.int .i64 x]:List Value),v.oneCell'=true:=fun v hv=>by simp at hv;subst hv;rfl
 have hsp:∀ j,j<cap→(w.cell? ⟨g,o+j,none⟩).isSome=true:=fun j hj=>by
  rw [Lib.cell_of_heap hc]
  simp [show o+j<cur.size by omega]
 have hfz:∀ j,w.frozen? ⟨g,j,none⟩=false:=fun j=>Lib.frozen_of_heap hc j
 have hfin:∀ w',w.grownBy w' (some g)→(∃ cur',w'.heap[g]?=some (.cells cur' 3 (0,0))∧cur'.size=cur.size)→L.length+1≤cap→(∀ j,j<i→w'.cell? ⟨g,o+j,none⟩=some (.int .i64 (L.getD j 0)))→w'.cell? ⟨g,o+i,none⟩=some (.int .i64 x)→(∀ j,i<j→j<L.length+1→w'.cell? ⟨g,o+j,none⟩=some (.int .i64 (L.getD (j-1) 0)))→InsI w g i L x (.returned (.slice (some ⟨g,o,none⟩) (L.length+1) cap)) w':=fun w' hG hty hroom a1 a2 a3=>by
  obtain ⟨cur',hc',hsz⟩:=hty
  refine ⟨g,_,_,rfl,⟨by rw [ins_len hi];exact hroom,h2,o,rfl,⟨cur',hc',by omega⟩,fun j hj=>?_⟩,Or.inl rfl,hG⟩
  rw [ins_len hi] at hj
  obtain ⟨b1,b2,b3⟩:=ins_at (x:=x) hi j
  by_cases e1:j<i
  ·rw [b1 e1];exact a1 j e1
  ·by_cases e2:j=i
   ·rw [b2 e2,e2];exact a2
   ·rw [b3 (by omega)];exact a3 j (by omega) hj
 by_cases hroom:L.length+1≤cap
 ·by_cases hin:i<L.length
  ·refine Calls.mono (Any2.slices_Insert_int_shift Tryz.lays21 g o L.length cap i vb 0 1 1 (mapI L) [.int .i64 x] w hin (by omega) hroom h2 hvb (mapI_len L) rfl hcs (fun j hj=>hsp j (by omega)) (fun j _=>hfz _) hvs (mapI_one L) hone 3 3 1 cur.size (by simp [World.shape?,hv]) (by simp [World.shape?,hc]) (by omega) (Lib.frozen_of_heap hv 0) (Lib.frozen_of_heap hv 1)) ?_
   rintro e w' ⟨rfl,rfl⟩
   have hdl:((mapI L).drop i).length=L.length-i:=by rw [List.length_drop,mapI_len]
   obtain ⟨c1,hc1,hs1⟩:=setCells_ty ((mapI L).drop i) (o+(i+1)) cur w.drew hc
   obtain ⟨c2,hc2,hs2⟩:=setCells_ty [.int .i64 x] (o+i) c1 _ hc1
   have hin1:∀ j,i<j→j<L.length+1→(w.drew.setCells g (o+(i+1)) ((mapI L).drop i)).cell? ⟨g,o+j,none⟩=some (.int .i64 (L.getD (j-1) 0)):=fun j e1 e2=>by
    have h:=World.cell?_setCells_in g ((mapI L).drop i) (o+(i+1)) w.drew (fun k hk=>by rw [hdl] at hk;have:=hsp (i+1+k) (by omega);rw [show o+(i+1)+k=o+(i+1+k) by omega];exact this) (j-(i+1)) (by rw [hdl];omega)
    rw [show o+(i+1)+(j-(i+1))=o+j by omega] at h
    rw [h,List.getElem_drop]
    simp only [mapI,List.getElem_map,Option.some.injEq,Value.int.injEq,true_and]
    rw [List.getD_eq_getElem?_getD,List.getElem?_eq_getElem (by omega)]
    simp only [Option.getD_some]
    congr 1
    omega
   refine hfin _ (grown_setCells (grown_setCells (grown_drew (grown_refl _ _)) _ _) _ _) ⟨c2,hc2,by omega⟩ hroom (fun j hj=>?_) ?_ fun j e1 e2=>?_
   ·rw [World.cell?_setCells_out g _ _ _ _ (fun _ _=>Or.inl (by show o+j<o+i;omega)),World.cell?_setCells_out g _ _ _ _ (fun _ _=>Or.inl (by show o+j<o+(i+1);omega))]
    exact h5 j (by omega)
   ·have h:=World.cell?_setCells_in g [.int .i64 x] (o+i) (w.drew.setCells g (o+(i+1)) ((mapI L).drop i)) (fun k hk=>by
     have hk0:k=0:=by simpa using hk
     subst hk0
     rw [World.cell?_setCells_out g _ _ _ _ (fun _ _=>Or.inl (by show o+i+0<o+(i+1);omega))]
     exact hsp i (by omega)) 0 (by simp)
    simpa using h
   ·rw [World.cell?_setCells_out g _ _ _ _ (fun _ _=>Or.inr (by show o+i+1≤o+j;omega))]
    exact hin1 j e1 e2
  ·have hie:i=L.length:=by omega
   subst hie
   refine Calls.mono (Any2.slices_Insert_int_end_room Tryz.lays21 g o L.length cap vb 0 1 1 [.int .i64 x] w (by omega) hroom h2 rfl (fun j hj=>by have:=hsp (L.length+j) (by omega);rw [show o+L.length+j=o+(L.length+j) by omega];exact this) (fun j _=>hfz _) hvs hone) ?_
   rintro e w' ⟨rfl,rfl⟩
   obtain ⟨c2,hc2,hs2⟩:=setCells_ty [.int .i64 x] (o+L.length) cur w hc
   refine hfin _ (grown_setCells (grown_refl _ _) _ _) ⟨c2,hc2,hs2⟩ hroom (fun j hj=>?_) ?_ fun j e1 e2=>by omega
   ·rw [World.cell?_setCells_out g _ _ _ _ (fun _ _=>Or.inl (by show o+j<o+L.length;omega))]
    exact h5 j hj
   ·have h:=World.cell?_setCells_in g [.int .i64 x] (o+L.length) w (fun k hk=>by
     have hk0:k=0:=by simpa using hk
     subst hk0
     exact hsp L.length (by omega)) 0 (by simp)
    simpa using h
 ·have hnew:∀ (G:Nat) (w':World),L.length+1≤G→G≤maxLen→Below w.heap.size w w'→(∃ cur',w'.heap[w.heap.size]?=some (.cells cur' 3 (0,0))∧cur'.size=G)→(∀ j,j<i→w'.cell? ⟨w.heap.size,j,none⟩=some (.int .i64 (L.getD j 0)))→w'.cell? ⟨w.heap.size,i,none⟩=some (.int .i64 x)→(∀ j,i<j→j<L.length+1→w'.cell? ⟨w.heap.size,j,none⟩=some (.int .i64 (L.getD (j-1) 0)))→InsI w g i L x (.returned (.slice (some ⟨w.heap.size,0,none⟩) (L.length+1) G)) w':=fun G w' hG hG2 hB hty a1 a2 a3=>by
   obtain ⟨cur',hc',hsz⟩:=hty
   refine ⟨w.heap.size,_,_,rfl,⟨by rw [ins_len hi];exact hG,by unfold maxLen at hG2;omega,0,rfl,⟨cur',hc',by omega⟩,fun j hj=>?_⟩,Or.inr (Nat.le_refl _),grown_below hB⟩
   rw [ins_len hi] at hj
   obtain ⟨b1,b2,b3⟩:=ins_at (x:=x) hi j
   rw [Nat.zero_add]
   by_cases e1:j<i
   ·rw [b1 e1];exact a1 j e1
   ·by_cases e2:j=i
    ·rw [b2 e2,e2];exact a2
    ·rw [b3 (by omega)];exact a3 j (by omega) hj
  have hG1:=grownCap_ge w (L.length+1) cap 3
  have hG2:=grownCap_le_maxLen w (L.length+1) cap 3 (by unfold maxLen;omega)
  by_cases hin:i<L.length
  ·refine Calls.mono (Any2.slices_Insert_int_grow Tryz.lays21 g o L.length cap i vb 0 1 1 (mapI L) [.int .i64 x] w hin (by omega) h1 (by omega) (by omega) (mapI_len L) rfl hcs hvs (mapI_one L) hone) ?_
   rintro e w' ⟨rfl,rfl⟩
   have hdl:((mapI L).drop i).length=L.length-i:=by rw [List.length_drop,mapI_len]
   have htl:((mapI L).take i).length=i:=by rw [List.length_take,mapI_len];omega
   obtain ⟨ROW,hROW⟩:∃ ROW:Array Value,((mapI L).take i).toArray ++ Builtin.zeroCells (Value.int .i64 0).cells (L.length+1-i) ++ Builtin.zeroCells (Value.int .i64 0).cells (grownCap w (L.length+1) cap 3-(L.length+1))=ROW:=⟨_,rfl⟩
   have hRs:ROW.size=grownCap w (L.length+1) cap 3:=by
    rw [←hROW,Array.size_append,Array.size_append,size_zeroCells,size_zeroCells,List.size_toArray,htl]
    simp only [Value.cells,List.size_toArray,List.length_cons,List.length_nil]
    omega
   have hRt:∀ j,j<i→ROW[j]?=some (.int .i64 (L.getD j 0)):=fun j hj=>by
    rw [←hROW,Array.append_assoc,Array.getElem?_append_left (by rw [List.size_toArray,htl];exact hj),List.getElem?_toArray,List.getElem?_take_of_lt hj]
    unfold mapI
    rw [List.getElem?_map,List.getElem?_eq_getElem (by omega),List.getD_eq_getElem?_getD,List.getElem?_eq_getElem (by omega)]
    rfl
   show InsI w g i L x (.returned (.slice (some ⟨w.heap.size,0,none⟩) (L.length+1) (grownCap w (L.length+1) cap 3))) ((((w.alloc (.cells (((mapI L).take i).toArray ++ Builtin.zeroCells (Value.int .i64 0).cells (L.length+1-i) ++ Builtin.zeroCells (Value.int .i64 0).cells (grownCap w (L.length+1) cap 3-(L.length+1))) 3)).drew.setCells w.heap.size i [.int .i64 x]).drew).setCells w.heap.size (i+1) ((mapI L).drop i))
   rw [hROW]
   have hb0:((w.alloc (.cells ROW 3)).drew).heap[w.heap.size]?=some (.cells ROW 3 (0,0)):=heap_alloc_new w _
   obtain ⟨c1,hc1,hs1⟩:=setCells_ty [.int .i64 x] i ROW _ hb0
   obtain ⟨c2,hc2,hs2⟩:=setCells_ty ((mapI L).drop i) (i+1) c1 ((w.alloc (.cells ROW 3)).drew.setCells w.heap.size i [.int .i64 x]).drew hc1
   have hB0:Below w.heap.size w (w.alloc (.cells ROW 3)).drew:=by go_grown
   have hBs:∀ (w1:World) (vs:List Value) (k:Nat),Below w.heap.size w w1→Below w.heap.size w (w1.setCells w.heap.size k vs):=fun w1 vs k h=>by
    obtain ⟨e1,e2,e3⟩:=setCells_os w.heap.size vs k w1
    exact ⟨e1.trans h.os,e2.trans h.tape,e3.trans h.output,by rw [setCells_size];exact h.size,fun b hb=>by rw [setCells_off _ (Nat.ne_of_lt hb)];exact h.block b hb⟩
   have hB1:=hBs _ [.int .i64 x] i hB0
   have hsome:∀ (k:Nat),k<grownCap w (L.length+1) cap 3→((w.alloc (.cells ROW 3)).drew.cell? ⟨w.heap.size,k,none⟩).isSome=true:=fun k hk=>by
    rw [Lib.cell_of_heap hb0]
    simp [show k<ROW.size by omega]
   refine hnew _ _ hG1 hG2 (hBs _ _ _ (by exact below_drewN hB1 1)) ⟨c2,hc2,by omega⟩ (fun j hj=>?_) ?_ fun j e1 e2=>?_
   ·rw [World.cell?_setCells_out _ _ _ _ _ (fun _ _=>Or.inl (by show j<i+1;omega))]
    show ((w.alloc (.cells ROW 3)).drew.setCells w.heap.size i [.int .i64 x]).cell? _=_
    rw [World.cell?_setCells_out _ _ _ _ _ (fun _ _=>Or.inl (by show j<i;omega)),Lib.cell_of_heap hb0]
    exact hRt j hj
   ·rw [World.cell?_setCells_out _ _ _ _ _ (fun _ _=>Or.inl (by show i<i+1;omega))]
    show ((w.alloc (.cells ROW 3)).drew.setCells w.heap.size i [.int .i64 x]).cell? _=_
    have h:=World.cell?_setCells_in w.heap.size [.int .i64 x] i (w.alloc (.cells ROW 3)).drew (fun k hk=>by
     have hk0:k=0:=by simpa using hk
     subst hk0
     exact hsome _ (by omega)) 0 (by simp)
    simpa using h
   ·have h:=World.cell?_setCells_in w.heap.size ((mapI L).drop i) (i+1) ((w.alloc (.cells ROW 3)).drew.setCells w.heap.size i [.int .i64 x]).drew (fun k hk=>by
     rw [hdl] at hk
     show (((w.alloc (.cells ROW 3)).drew.setCells w.heap.size i [.int .i64 x]).cell? _).isSome=true
     rw [World.cell?_setCells_out _ _ _ _ _ (fun _ _=>Or.inr (by show i+1≤i+1+k;omega))]
     exact hsome _ (by omega)) (j-(i+1)) (by rw [hdl];omega)
    rw [show i+1+(j-(i+1))=j by omega] at h
    rw [h,List.getElem_drop]
    simp only [mapI,List.getElem_map,Option.some.injEq,Value.int.injEq,true_and]
    rw [List.getD_eq_getElem?_getD,List.getElem?_eq_getElem (by omega)]
    simp only [Option.getD_some]
    congr 1
    omega
  ·have hie:i=L.length:=by omega
   subst hie
   have hadd:∀ j,(⟨g,o,none⟩:Addr).add j=⟨g,o+j,none⟩:=fun j=>by unfold Addr.add;split <;> simp_all
   refine Calls.mono (Any2.slices_Insert_int_end_grow Tryz.lays21 (some ⟨g,o,none⟩) L.length cap vb 0 1 1 (mapI L) [.int .i64 x] w (by omega) h1 (by omega) (by omega) (mapI_len L) rfl (fun h=>by cases h) (fun a ha j v hj=>by
    cases ha
    rw [hadd]
    exact hcs j v hj) hvs hone) ?_
   rintro e w' ⟨rfl,rfl⟩
   obtain ⟨ROW,hROW⟩:∃ ROW:Array Value,(mapI L ++ [Value.int .i64 x]).toArray ++ Builtin.zeroCells (Value.int .i64 0).cells (grownCap w (L.length+1) cap 3-(L.length+1))=ROW:=⟨_,rfl⟩
   have hRs:ROW.size=grownCap w (L.length+1) cap 3:=by
    rw [←hROW,Array.size_append,size_zeroCells,List.size_toArray,List.length_append,mapI_len]
    simp only [Value.cells,List.size_toArray,List.length_cons,List.length_nil]
    omega
   show InsI w g L.length L x (.returned (.slice (some ⟨w.heap.size,0,none⟩) (L.length+1) (grownCap w (L.length+1) cap 3))) (w.drew.alloc (.cells ((mapI L ++ [Value.int .i64 x]).toArray ++ Builtin.zeroCells (Value.int .i64 0).cells (grownCap w (L.length+1) cap 3-(L.length+1))) 3))
   rw [hROW]
   have hb0:(w.drew.alloc (.cells ROW 3)).heap[w.heap.size]?=some (.cells ROW 3 (0,0)):=heap_alloc_new w.drew _
   have hat:∀ j,j<L.length+1→ROW[j]?=(mapI L ++ [Value.int .i64 x])[j]?:=fun j hj=>by
    rw [←hROW,Array.getElem?_append_left (by rw [List.size_toArray,List.length_append,mapI_len];simpa using hj),List.getElem?_toArray]
   refine hnew _ _ hG1 hG2 (by go_grown) ⟨ROW,hb0,hRs⟩ (fun j hj=>?_) ?_ fun j e1 e2=>by omega
   ·rw [Lib.cell_of_heap hb0,hat j (by omega),List.getElem?_append_left (by rw [mapI_len];exact hj)]
    unfold mapI
    rw [List.getElem?_map,List.getElem?_eq_getElem hj,List.getD_eq_getElem?_getD,List.getElem?_eq_getElem hj]
    rfl
   ·rw [Lib.cell_of_heap hb0,hat _ (by omega),List.getElem?_append_right (by rw [mapI_len];exact Nat.le_refl _),mapI_len,Nat.sub_self]
    rfl
end Go.Proofs.YtfgegmpoejilnaaGreatDoor
