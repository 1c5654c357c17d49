/-
  Rows of entries with one put in, one put anew, one taken out: cell by cell.
-/
import Derived.Lib.SliceRun
import Derived.Shelf.Spec.SlicesInsertGrow
import Derived.Laws.OwnMore
import Derived.Test.YtglekooldbeklaaGreatDoorJGAL
namespace Go.Proofs.YtglekooldbeklaaGreatDoor
open Go Go.ChangeShapes Go.WideShapes Go.ChangeAt Go.RowKit
set_option maxRecDepth 20000
theorem take_join {α:Type} {a b:List α} {k:Nat} (h:a.length=k):(a ++ b).take k=a:=by subst h;simp
theorem lE_append (a b:List EnL):lE (a ++ b)=lE a ++ lE b:=by simp [lE]
theorem lE_set (xs:List EnL) (i:Nat) (y:EnL):lE (xs.set i y)=(lE xs).set i y.e:=by simp [lE,List.map_set]
end Go.Proofs.YtglekooldbeklaaGreatDoor
namespace Go.Proofs.YtglekooldbeklaaGreatDoor
open Go.ChangeShapes Go.WideShapes Go.ChangeAt Go.RowKit
set_option maxRecDepth 20000
theorem plty_new {w:World} {base:Nat} {v:Value} {L:List Int} (h:w.ownsRow base 3 1 v L.length (L.map (Value.int .i64))):∃ A c,v=.slice A L.length c∧PlTy w A c L∧NewA base A:=by
 obtain ⟨A,c,rfl,hP⟩:=plty_own h
 refine ⟨A,c,rfl,hP,fun b o e=>?_⟩
 subst e
 rcases h.2 with ⟨h1,-⟩ | ⟨g,cap,cur,h1,hb,-⟩
 ·cases h1
 ·cases h1;exact hb
set_option maxHeartbeats 2000000 in
theorem clone_own (A:Option Addr) (c:Nat) (L:List Int) (w:World) (hL:L.length≤4) (hP:PlAt w A c L):Calls Tryz.prog 35 #[.slice A L.length c] w fun e w'=>(∃ v,e=.returned v∧w'.ownsRow w.heap.size 3 1 v L.length (L.map (Value.int .i64)))∧Below w.heap.size w w':=by
 have hq:∀ (w:World) (a:Option Addr) (n c n' c':Nat),(binOp .eql 42 (.slice a n c) (.slice none n' c')).run Tryz.prog w=.ok (.bool a.isNone) w:=fun w a n c n' c'=>Lib.run_eql_slice_nil w _ _ a n c n' c' Tryz.underlying42
 cases A with
 | none =>
  obtain ⟨-,h0 | ⟨b,o,h0,-⟩⟩:=hP
  ·subst h0
   simp only [List.length_nil]
   go_enter Tryz.func35,Tryz.ntmps35
   go_wp2_with fail
   go_ret
   exact ⟨⟨_,rfl,World.ownsRow_nil _ _ _ _⟩,Below.refl _ _⟩
  ·cases h0
 | some a =>
  obtain ⟨i0,hi0,hz0,hz1,hz2⟩:=info_parts Tryz.infoIntP
  have HC:Hid (∀ j u,(L.map (Value.int .i64))[j]?=some u→w.cell? (a.add j)=some u):=by
   intro j u hj
   obtain ⟨-,h0 | ⟨b,o,h0,-,hcell⟩⟩:=hP
   ·subst h0;simp at hj
   ·cases h0
    have hlt:j<L.length:=by have:=(List.getElem?_eq_some_iff.1 hj).1;simpa using this
    rw [plain_add,hcell j hlt]
    simp only [List.getElem?_map,List.getElem?_eq_getElem hlt,Option.map_some,Option.some.injEq] at hj
    rw [←hj,List.getD_eq_getElem?_getD,List.getElem?_eq_getElem hlt]
    rfl
  have hl:(L.map (Value.int .i64)).length=L.length*1:=by simp
  have h1:∀ u∈L.map (Value.int .i64),u.oneCell'=true:=by intro u hu;simp at hu;obtain ⟨x,-,rfl⟩:=hu;rfl
  have hm:L.length≤4:=hL
  clear hP hL
  go_enter Tryz.func35,Tryz.ntmps35
  go_wp2_with (at_builtin;refine wpList_append_own _ rfl _ _ 42 rfl w.heap.size 3 i0 (.int .i64 0) 1 8 Tryz.underlying42 hi0 hz0 hz1 hz2 rfl (by decide) _ _ _ rfl (World.ownsRow_made w #[] 0 (Nat.le_refl _) (Nat.zero_le _) (by simp)) a L.length c (L.map (Value.int .i64)) rfl ?qc1 ?qc2 ?qc3 ?qc4 ?qc5 ?qc6 ?_)
  case qc1=>exact hl
  case qc2=>exact fun j u hj=>Lib.cell?_alloc_some _ (HC.out j u hj)
  case qc3=>exact h1
  case qc4=>simp only [maxLen];omega
  case qc5=>omega
  case qc6=>simp
  intro v' w1 hown hgrow hnil
  have HT:Hid (w1.ownsRow w.heap.size 3 1 v' L.length (L.map (Value.int .i64))):=hown
  have HB:Hid (Below w.heap.size w w1):=((Below.refl _ w).alloc (Nat.le_refl _) _).grown hgrow (by simp) (by intro k hk;simp [Value.ownBlock] at hk;omega)
  clear hown hgrow hnil
  go_wp2_with fail
  go_ret
  exact ⟨⟨_,rfl,HT.out⟩,HB.out⟩
end Go.Proofs.YtglekooldbeklaaGreatDoor
namespace Go.Proofs.YtglekooldbeklaaGreatDoor
open Go.ChangeShapes Go.WideShapes Go.ChangeAt Go.RowKit Go.Lib
set_option maxRecDepth 100000
theorem Tryz.infoEnt:(Tryz.prog.info? 77).map (fun i=>(i.zero,i.size,i.bytes))=some (some (.agg #[.slice none 0 0,.int .i64 0]),2,32):=by kernel_rfl
end Go.Proofs.YtglekooldbeklaaGreatDoor
namespace Go.Proofs.YtglekooldbeklaaGreatDoor
open Go.ChangeShapes Go.WideShapes Go.ChangeAt Go.RowKit Go.Lib
set_option maxRecDepth 20000
theorem RowE.put {w:World} {g cap:Nat} {zs:List EnL} (h:RowE w g cap zs) (hk:zs.length<cap) {x:EnL} (hx:PlTy w x.A x.c x.e.pl):RowE ((w.setCell ⟨g,zs.length*2,none⟩ (.slice x.A x.e.pl.length x.c)).setCell ⟨g,zs.length*2+1,none⟩ (.int .i64 x.e.n)) g cap (zs ++ [x])∧w.grownBy ((w.setCell ⟨g,zs.length*2,none⟩ (.slice x.A x.e.pl.length x.c)).setCell ⟨g,zs.length*2+1,none⟩ (.int .i64 x.e.n)) (some g):=by
 obtain ⟨⟨cur,h1,h2,h3⟩,h4,h5,h6⟩:=id h
 have e:(w.setCell ⟨g,zs.length*2,none⟩ (.slice x.A x.e.pl.length x.c)).setCell ⟨g,zs.length*2+1,none⟩ (.int .i64 x.e.n)=w.setCells g (zs.length*2) (cellsE [x]):=rfl
 have hx2:(cellsE [x]).length=2:=by rw [cellsE_len];rfl
 have hl:cur.toList.length=cap*2:=by simpa using h2
 rw [e,setCells_row g 77 (cellsE [x]) (zs.length*2) cur w h1 (by rw [hx2];omega)]
 refine ⟨h.lay ?_ ?_ (by simp;omega) fun y hy=>?_,grown_setRow ..⟩
 ·simp only [List.length_append,List.length_take,List.length_drop,hx2,hl]
  omega
 ·rw [cellsE_append,h3]
  exact take_join (by simp only [List.length_append,cellsE_len,List.length_cons,List.length_nil];omega)
 ·rcases List.mem_append.1 hy with hy | hy
  ·exact h6 y hy
  ·rw [List.mem_singleton.1 hy];exact hx
theorem grown_set {w w':World} {g:Nat} (h:w.grownBy w' (some g)) (o:Nat) (v:Value):w.grownBy (w'.setCell ⟨g,o,none⟩ v) (some g) :=
 ⟨h.os,h.tape,h.output,by simpa using h.size,fun i hi hr=>(Below.heap_setCell w' ⟨g,o,none⟩ v i fun e=>hr (by rw [e])).trans (h.block i hi hr)⟩
theorem keepG {W w':World} {g q:Nat} {u v:Value} (h:q<W.heap.size∧q≠g∧W.cell? ⟨q,0,none⟩=some u∧W.cell? ⟨q,1,none⟩=some v) (hG:W.grownBy w' (some g)):W.grownBy w' (some g)∧w'.cell? ⟨q,0,none⟩=some u∧w'.cell? ⟨q,1,none⟩=some v:=by
 have hb:w'.heap[q]?=W.heap[q]?:=hG.block q h.1 fun e=>h.2.1 (by simpa using e)
 exact ⟨hG,(World.cell?_of_block (a:=⟨q,0,none⟩) hb).trans h.2.2.1,(World.cell?_of_block (a:=⟨q,1,none⟩) hb).trans h.2.2.2⟩
end Go.Proofs.YtglekooldbeklaaGreatDoor
namespace Go.Proofs.YtglekooldbeklaaGreatDoor
open Go.ChangeShapes Go.WideShapes Go.ChangeAt Go.RowKit
set_option maxRecDepth 20000
set_option maxHeartbeats 2000000 in
theorem iclone_pl (A:Option Addr) (c:Nat) (L:List Int) (w:World) (hL:L.length≤1048576) (hP:PlAt w A c L):Calls Tryz.prog 130 #[.slice A L.length c] w fun e w'=>(∃ v,e=.returned v∧w'.ownsRow w.heap.size 3 1 v L.length (mapI L))∧Below w.heap.size w w':=by
 have hq:∀ (w:World) (a:Option Addr) (n c n' c':Nat),(binOp .eql 41 (.slice a n c) (.slice none n' c')).run Tryz.prog w=.ok (.bool a.isNone) w:=fun w a n c n' c'=>Lib.run_eql_slice_nil w _ _ a n c n' c' Tryz.underlying41
 cases A with
 | none =>
  obtain ⟨-,h0 | ⟨b,o,h0,-⟩⟩:=hP
  ·subst h0
   simp only [List.length_nil]
   go_enter Tryz.func130,Tryz.ntmps130
   go_wp2_with fail
   go_ret
   exact ⟨⟨_,rfl,World.ownsRow_nil _ _ _ _⟩,Below.refl _ _⟩
  ·cases h0
 | some a =>
  obtain ⟨i0,hi0,hz0,hz1,hz2⟩:=info_parts Tryz.infoInt
  have HC:Hid (∀ j u,(mapI L)[j]?=some u→w.cell? (a.add j)=some u):=by
   intro j u hj
   obtain ⟨-,h0 | ⟨b,o,h0,-,hcell⟩⟩:=hP
   ·subst h0;simp [mapI] at hj
   ·cases h0
    have hlt:j<L.length:=by have:=(List.getElem?_eq_some_iff.1 hj).1;simpa [mapI] using this
    rw [plain_add,hcell j hlt]
    simp only [mapI,List.getElem?_map,List.getElem?_eq_getElem hlt,Option.map_some,Option.some.injEq] at hj
    rw [←hj,List.getD_eq_getElem?_getD,List.getElem?_eq_getElem hlt]
    rfl
  have hl:(mapI L).length=L.length*1:=by simp [mapI]
  have h1:∀ u∈mapI L,u.oneCell'=true:=by intro u hu;simp [mapI] at hu;obtain ⟨x,-,rfl⟩:=hu;rfl
  clear hP
  go_enter Tryz.func130,Tryz.ntmps130
  go_wp2_with (at_builtin;refine wpList_append_own _ rfl _ _ 41 rfl w.heap.size 3 i0 (.int .i64 0) 1 8 Tryz.underlying41 hi0 hz0 hz1 hz2 rfl (by decide) _ _ _ rfl (World.ownsRow_made w #[] 0 (Nat.le_refl _) (Nat.zero_le _) (by simp)) a L.length c (mapI L) rfl ?qc1 ?qc2 ?qc3 ?qc4 ?qc5 ?qc6 ?_)
  case qc1=>exact hl
  case qc2=>exact fun j u hj=>Lib.cell?_alloc_some _ (HC.out j u hj)
  case qc3=>exact h1
  case qc4=>simp only [maxLen];omega
  case qc5=>omega
  case qc6=>simp
  intro v' w1 hown hgrow hnil
  have HO:Hid (w1.ownsRow w.heap.size 3 1 v' L.length (mapI L)):=hown
  have HB:Hid (Below w.heap.size w w1):=((Below.refl _ w).alloc (Nat.le_refl _) _).grown hgrow (by simp) (by intro k hk;simp [Value.ownBlock] at hk;omega)
  clear hown hgrow hnil
  go_wp2_with fail
  go_ret
  exact ⟨⟨_,rfl,HO.out⟩,HB.out⟩
def IntT (w:World) (A:Option Addr) (c:Nat) (L:List Int):Prop:=L.length≤c∧c≤9223372036854775807∧(L=[]∨∃ b cs fr,A=some ⟨b,0,none⟩∧w.heap[b]?=some (.cells cs 3 fr)∧∀ j,j<L.length→w.cell? ⟨b,j,none⟩=some (.int .i64 (L.getD j 0)))
theorem IntT.at {w:World} {A:Option Addr} {c:Nat} {L:List Int} (h:IntT w A c L):IntsAt w A c L:=by
 obtain ⟨h1,-,h2 | ⟨b,cs,fr,h2,h3,h4⟩⟩:=h
 ·exact ⟨h1,Or.inl h2⟩
 ·exact ⟨h1,Or.inr ⟨b,h2,(Array.getElem?_eq_some_iff.1 h3).1,h4⟩⟩
theorem IntT.nil (w:World) (A:Option Addr) (c:Nat) (h:c≤9223372036854775807):IntT w A c []:=⟨Nat.zero_le _,h,Or.inl rfl⟩
theorem IntT.keep {w w':World} {A:Option Addr} {c:Nat} {L:List Int} (h:IntT w A c L) (hB:∀ (b:Nat) (cs:Array Value) (fr:Nat×Nat),w.heap[b]?=some (Obj.cells cs 3 fr)→w'.heap[b]?=w.heap[b]?):IntT w' A c L:=by
 obtain ⟨h1,h0,h2 | ⟨b,cs,fr,h2,h3,h4⟩⟩:=h
 ·exact ⟨h1,h0,Or.inl h2⟩
 ·have hb:=hB b cs fr h3
  exact ⟨h1,h0,Or.inr ⟨b,cs,fr,h2,hb.trans h3,fun j hj=>(World.cell?_of_block (a:=⟨b,j,none⟩) hb).trans (h4 j hj)⟩⟩
theorem IntT.later {w w':World} {A:Option Addr} {c:Nat} {L:List Int} (h:IntT w A c L) (hB:Below w.heap.size w w'):IntT w' A c L :=
 h.keep fun b _ _ hb=>hB.block b (Array.getElem?_eq_some_iff.1 hb).1
theorem intT_own {w:World} {base:Nat} {v:Value} {L:List Int} (h:w.ownsRow base 3 1 v L.length (mapI L)):∃ A c,v=.slice A L.length c∧IntT w A c L:=by
 rcases h.2 with ⟨rfl,h0⟩ | ⟨g,cap,cur,rfl,hb,hg,hc,hm,_,_⟩
 ·have:L=[]:=List.eq_nil_of_length_eq_zero h0
  subst this
  exact ⟨none,0,rfl,IntT.nil _ _ _ (by omega)⟩
 ·refine ⟨_,cap,rfl,hc,by unfold maxLen at hm;omega,Or.inr ⟨g,cur,_,rfl,hg,fun j hj=>?_⟩⟩
  have hx:=h.cells (g:=g) rfl j (.int .i64 (L.getD j 0)) (by simp [mapI,List.getD,List.getElem?_eq_getElem hj])
  have hadd:(⟨g,0,none⟩:Addr).add j=⟨g,j,none⟩:=by unfold Addr.add;split <;> simp_all
  rw [hadd] at hx
  exact hx
theorem row_ne_int:(3:Nat)≠41:=by decide
theorem IntT.row {w w':World} {base:Nat} {v:Value} {n:Nat} {zs:List Value} {A:Option Addr} {c:Nat} {L:List Int} (h:IntT w A c L) (hown:w.ownsRow base 41 1 v n zs) (hG:w.grownBy w' v.ownBlock):IntT w' A c L:=by
 refine h.keep fun b cs fr hb=>hG.block b (Array.getElem?_eq_some_iff.1 hb).1 fun e=>?_
 rcases hown.2 with ⟨rfl,-⟩ | ⟨g,cap,cur,rfl,-,hg,-⟩
 ·cases e
 ·simp only [Value.ownBlock,Option.some.injEq] at e
  rw [e,hg] at hb
  simp only [Option.some.injEq,Obj.cells.injEq] at hb
  exact row_ne_int hb.2.1.symm
structure RL where
 p:List Int
 A:Option Addr
 c:Nat
def noR:RL:=⟨[],none,0⟩
def lR (xs:List RL):List (List Int):=xs.map RL.p
theorem lR_len (xs:List RL):(lR xs).length=xs.length:=by simp [lR]
theorem lR_append (a b:List RL):lR (a ++ b)=lR a ++ lR b:=by simp [lR]
def cellsR (xs:List RL):List Value:=xs.map fun x=>.slice x.A x.p.length x.c
theorem cellsR_append (a b:List RL):cellsR (a ++ b)=cellsR a ++ cellsR b:=by simp [cellsR]
theorem rl_mem {xs:List RL} {k:Nat} (h:k<xs.length):xs.getD k noR∈xs:=by
 rw [List.getD_eq_getElem?_getD,List.getElem?_eq_getElem h]
 exact List.getElem_mem h
theorem lR_at (xs:List RL) (k:Nat):(lR xs).getD k []=(xs.getD k noR).p:=by
 rw [List.getD_eq_getElem?_getD,List.getD_eq_getElem?_getD,lR,List.getElem?_map]
 cases xs[k]? <;> rfl
theorem cellsR_at {xs:List RL} {k:Nat} (h:k<xs.length):(cellsR xs)[k]?=some (.slice (xs.getD k noR).A (xs.getD k noR).p.length (xs.getD k noR).c):=by
 simp [cellsR,List.getD,h]
def RowsV (w:World) (A:Option Addr) (cap:Nat) (xs:List RL):Prop:=xs.length≤cap∧(xs=[]∨∃ b,A=some ⟨b,0,none⟩∧b<w.heap.size∧∀ k,k<xs.length→w.cell? ⟨b,k,none⟩=some (.slice (xs.getD k noR).A (xs.getD k noR).p.length (xs.getD k noR).c))∧∀ x∈xs,IntT w x.A x.c x.p
theorem RowsV.later {w w':World} {A:Option Addr} {cap:Nat} {xs:List RL} (h:RowsV w A cap xs) (hB:Below w.heap.size w w'):RowsV w' A cap xs:=by
 obtain ⟨h1,h2,h3⟩:=h
 refine ⟨h1,?_,fun x hx=>(h3 x hx).later hB⟩
 rcases h2 with h2 | ⟨b,h2,h4,h5⟩
 ·exact Or.inl h2
 ·exact Or.inr ⟨b,h2,Nat.lt_of_lt_of_le h4 hB.size,fun k hk=>(hB.cell (p:=⟨b,k,none⟩) h4).trans (h5 k hk)⟩
theorem RowsV.nil (w:World) (A:Option Addr) (cap:Nat):RowsV w A cap []:=⟨Nat.zero_le _,Or.inl rfl,fun x hx=>by cases hx⟩
theorem rows_own {w:World} {base:Nat} {v:Value} {xs:List RL} (h:w.ownsRow base 41 1 v xs.length (cellsR xs)) (hp:∀ x∈xs,IntT w x.A x.c x.p):∃ A c,v=.slice A xs.length c∧RowsV w A c xs:=by
 rcases h.2 with ⟨rfl,h0⟩ | ⟨g,cap,cur,rfl,hb,hg,hc,_,_,_⟩
 ·have:xs=[]:=List.eq_nil_of_length_eq_zero h0
  subst this
  exact ⟨none,0,rfl,RowsV.nil _ _ _⟩
 ·refine ⟨_,cap,rfl,hc,Or.inr ⟨g,rfl,(Array.getElem?_eq_some_iff.1 hg).1,fun k hk=>?_⟩,hp⟩
  have y:=h.cells (g:=g) rfl k _ (cellsR_at hk)
  have hadd:(⟨g,0,none⟩:Addr).add k=⟨g,k,none⟩:=by unfold Addr.add;split <;> simp_all
  rw [hadd] at y
  exact y
theorem Tryz.infoRow:(Tryz.prog.info? 41).map (fun i=>(i.zero,i.size,i.bytes))=some (some (.slice none 0 0),1,24):=by kernel_rfl
theorem iclone_any (A:Option Addr) (c:Nat) (L:List Int) (w:World) (hL:L.length≤12) (hP:IntT w A c L):Calls Tryz.prog 130 #[.slice A L.length c] w fun e w'=>(∃ v,e=.returned v∧w'.ownsRow w.heap.size 3 1 v L.length (mapI L))∧Below w.heap.size w w' :=
 iclone_pl A c L w (by omega) (pl_ints hP.at)
def twoO (w:World) (u v:Value):World:=(w.alloc (.cells #[u] 24)).alloc (.cells #[v] 24)
theorem twoO_at (w:World) (u v:Value):(twoO w u v).heap[w.heap.size]?=some (.cells #[u] 24 (0,0))∧(twoO w u v).heap[w.heap.size+1]?=some (.cells #[v] 24 (0,0)):=by
 have h1:(w.alloc (.cells #[u] 24)).heap[w.heap.size]?=some (.cells #[u] 24 (0,0)):=heap_alloc_new ..
 have hs:(w.alloc (.cells #[u] 24)).heap.size=w.heap.size+1:=by simp
 refine ⟨(Below.heap_alloc _ _ _ (by omega)).trans h1,?_⟩
 rw [←hs]
 exact heap_alloc_new ..
theorem twoO_below (w:World) (u v:Value):Below w.heap.size w (twoO w u v):=by unfold twoO;go_grown
def twoDs (w:World) (u0 u1 u2 v0 v1 v2:Value):World:=(w.alloc (.cells #[u0,u1,u2] 32)).alloc (.cells #[v0,v1,v2] 32)
theorem twoD_at (w:World) (u0 u1 u2 v0 v1 v2:Value):(twoDs w u0 u1 u2 v0 v1 v2).heap[w.heap.size]?=some (.cells #[u0,u1,u2] 32 (0,0))∧(twoDs w u0 u1 u2 v0 v1 v2).heap[w.heap.size+1]?=some (.cells #[v0,v1,v2] 32 (0,0)):=by
 have h1:(w.alloc (.cells #[u0,u1,u2] 32)).heap[w.heap.size]?=some (.cells #[u0,u1,u2] 32 (0,0)):=heap_alloc_new ..
 have hs:(w.alloc (.cells #[u0,u1,u2] 32)).heap.size=w.heap.size+1:=by simp
 refine ⟨(Below.heap_alloc _ _ _ (by omega)).trans h1,?_⟩
 rw [←hs]
 exact heap_alloc_new ..
theorem twoD_below (w:World) (u0 u1 u2 v0 v1 v2:Value):Below w.heap.size w (twoDs w u0 u1 u2 v0 v1 v2):=by unfold twoDs;go_grown
set_option maxHeartbeats 16000000 in
theorem sameout_any (A0 B0:Option Addr) (ca cb n:Nat) (D:Nat→Dm) (A:Nat→Option Addr) (C:Nat→Nat) (A':Nat→Option Addr) (C':Nat→Nat) (w:World) (hn:n≤4) (hd:∀ i,i<n→(D i).n≤12) (hA:DimsV w A0 ca n D A C) (hB:DimsV w B0 cb n D A' C') :
  Calls Tryz.prog 11 #[.agg #[.slice A0 n ca],.agg #[.slice B0 n cb]] w fun e w'=>e=.returned (.bool true)∧Below w.heap.size w w':=by
 have hB0:=twoO_below w (.slice A0 n ca) (.slice B0 n cb)
 obtain ⟨b1,b2⟩:=twoO_at w (.slice A0 n ca) (.slice B0 n cb)
 obtain ⟨W,hW⟩:∃ W,twoO w (.slice A0 n ca) (.slice B0 n cb)=W:=⟨_,rfl⟩
 rw [hW] at hB0 b1 b2
 unfold twoO at hW
 have l2:=(Array.getElem?_eq_some_iff.1 b2).1
 have HK:Hid (∀ w',Below W.heap.size W w'→w'.cell? ⟨w.heap.size,0,none⟩=some (.slice A0 n ca)∧w'.cell? ⟨w.heap.size+1,0,none⟩=some (.slice B0 n cb)∧w.heap.size+1<w'.heap.size):=fun w' h =>
  ⟨(Lib.cell_of_heap ((h.block _ (by omega)).trans b1) 0).trans rfl,(Lib.cell_of_heap ((h.block _ l2).trans b2) 0).trans rfl,Nat.lt_of_lt_of_le l2 h.size⟩
 have HA:=hid_of (hA.later hB0)
 have HB:=hid_of (hB.later hB0)
 have HD:=hid_of hd
 have HB0:=hid_of hB0
 obtain ⟨k0,k1,k2⟩:=HK.out W (Below.refl _ _)
 have hn4:(n:Int)≤4:=by omega
 have hnn:((n:Int) != (n:Int))=false:=by simp
 have hs0:w.heap.size<W.heap.size:=by omega
 clear hA hB hd hB0 b1 b2
 go_enter Tryz.func11,Tryz.ntmps11
 go_wp2_with fail
 go_loopg [5] n (fun g s5 wr => ∃ k:Nat,k≤n∧g=n-k∧s5=.int .i64 k∧Hid (Below W.heap.size W wr))
 case atStart=>exact ⟨0,Nat.zero_le _,rfl,rfl,hid_of (Below.refl _ _)⟩
 case round =>
  obtain ⟨k,hk,rfl,rfl,HBw⟩:=hrel
  obtain ⟨wo,rfl⟩:∃ wo:World,wo=wr:=⟨_,rfl⟩
  obtain ⟨k0,k1,k2⟩:=HK.out wo HBw.out
  have hs0:w.heap.size<wo.heap.size:=by omega
  by_cases hlt:k<n
  ·have hki:(k:Int)<(n:Int):=by omega
   obtain ⟨-,h0 | ⟨ba,oa,rfl,hDa⟩⟩:=HA.out.later HBw.out
   ·omega
   obtain ⟨-,h0 | ⟨bb,ob,rfl,hDb⟩⟩:=HB.out.later HBw.out
   ·omega
   have hba:=hDa.1
   have hbb:=hDb.1
   obtain ⟨a0,a1,a2,hMa⟩:=hDa.2 k hlt
   obtain ⟨c0,c1,c2,hMb⟩:=hDb.2 k hlt
   have hm12:=HD.out k hlt
   have HMa:=hid_of hMa
   have HMb:=hid_of hMb
   obtain ⟨M,hM⟩:∃ M,(D k).mem=M:=⟨_,rfl⟩
   rw [hM] at HMa HMb
   have hB1:=twoD_below wo (.string (D k).name) (.int .i64 (D k).solve) (.slice (A k) (D k).n (C k)) (.string (D k).name) (.int .i64 (D k).solve) (.slice (A' k) (D k).n (C' k))
   obtain ⟨e1,e2⟩:=twoD_at wo (.string (D k).name) (.int .i64 (D k).solve) (.slice (A k) (D k).n (C k)) (.string (D k).name) (.int .i64 (D k).solve) (.slice (A' k) (D k).n (C' k))
   generalize (D k).name=nm at a0 c0 hB1 e1 e2
   generalize (D k).solve=sv at a1 c1 hB1 e1 e2
   generalize (D k).n=m at a2 c2 hm12 HMa HMb hB1 e1 e2
   generalize A k=Ak at a2 HMa hB1 e1 e2
   generalize C k=Ck at a2 HMa hB1 e1 e2
   generalize A' k=Al at c2 HMb hB1 e1 e2
   generalize C' k=Cl at c2 HMb hB1 e1 e2
   obtain ⟨V,hV⟩:∃ V,twoDs wo (.string nm) (.int .i64 sv) (.slice Ak m Ck) (.string nm) (.int .i64 sv) (.slice Al m Cl)=V:=⟨_,rfl⟩
   rw [hV] at hB1 e1 e2
   unfold twoDs at hV
   have HBV:=hid_of (onB HBw.out hB1)
   have l3:=(Array.getElem?_eq_some_iff.1 e2).1
   have HKV:Hid (∀ w',Below V.heap.size V w'→w'.cell? ⟨wo.heap.size,0,none⟩=some (.string nm)∧w'.cell? ⟨wo.heap.size,1,none⟩=some (.int .i64 sv)∧w'.cell? ⟨wo.heap.size,2,none⟩=some (.slice Ak m Ck)∧w'.cell? ⟨wo.heap.size+1,0,none⟩=some (.string nm)∧w'.cell? ⟨wo.heap.size+1,1,none⟩=some (.int .i64 sv)∧w'.cell? ⟨wo.heap.size+1,2,none⟩=some (.slice Al m Cl)∧wo.heap.size+1<w'.heap.size):=fun w' h=>by
    have f1:=(h.block _ (by omega)).trans e1
    have f2:=(h.block _ l3).trans e2
    exact ⟨(Lib.cell_of_heap f1 0).trans rfl,(Lib.cell_of_heap f1 1).trans rfl,(Lib.cell_of_heap f1 2).trans rfl,(Lib.cell_of_heap f2 0).trans rfl,(Lib.cell_of_heap f2 1).trans rfl,(Lib.cell_of_heap f2 2).trans rfl,Nat.lt_of_lt_of_le l3 h.size⟩
   have HMa':=hid_of (HMa.out.later hB1)
   have HMb':=hid_of (HMb.out.later hB1)
   obtain ⟨v0,v1,v2,v3,v4,v5,v6⟩:=HKV.out V (Below.refl _ _)
   have hsv:(sv != sv)=false:=by simp
   have hmm:((m:Int) != (m:Int))=false:=by simp
   have hmi:(m:Int)≤12:=by omega
   have hv7:wo.heap.size<V.heap.size:=by omega
   clear hM hMa hMb hDa hDb hB1 e1 e2 HMa HMb
   go_wp2_with fail
   go_loopg [8] m (fun g s8 wr => ∃ j:Nat,j≤m∧g=m-j∧s8=.int .i64 j∧Hid (Below V.heap.size V wr))
   case atStart=>exact ⟨0,Nat.zero_le _,rfl,rfl,hid_of (Below.refl _ _)⟩
   case round =>
    obtain ⟨j,hj,rfl,rfl,HBi⟩:=hrel
    obtain ⟨v0,v1,v2,v3,v4,v5,v6⟩:=HKV.out wr HBi.out
    have hv7:wo.heap.size<wr.heap.size:=by omega
    by_cases hjl:j<m
    ·have hji:(j:Int)<(m:Int):=by omega
     obtain ⟨-,h0 | ⟨bm,om,rfl,hMa⟩⟩:=HMa'.out.later HBi.out
     ·omega
     obtain ⟨-,h0 | ⟨bn,on_,rfl,hMb⟩⟩:=HMb'.out.later HBi.out
     ·omega
     obtain ⟨x0,x1,x2,x3⟩:=hMa.2 j hjl
     obtain ⟨y0,y1,y2,y3⟩:=hMb.2 j hjl
     clear hMa hMb
     go_wp2_with fail
     first | (go_quiet (fail);go_wp2_with fail) | skip
     go_roundg (m-(j+1))
     case measure=>omega
     case rel=>exact ⟨j+1,by omega,rfl,by go_num,hid_of (below_drewN HBi.out _)⟩
    ·have hje:j=m:=by omega
     subst hje
     go_wp2_with fail
     go_roundg (n-(k+1))
     case measure=>omega
     case rel=>exact ⟨k+1,by omega,rfl,by go_num,hid_of (onB HBV.out HBi.out)⟩
  ·have hke:k=n:=by omega
   subst hke
   go_wp2_with fail
   go_ret
   exact ⟨rfl,onB HB0.out HBw.out⟩
end Go.Proofs.YtglekooldbeklaaGreatDoor
