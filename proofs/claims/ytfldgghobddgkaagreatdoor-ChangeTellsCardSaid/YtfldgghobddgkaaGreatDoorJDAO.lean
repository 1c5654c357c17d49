/-
  What is written into a draft: a member's cell, another row of members, other entries, a place's number.
-/
import Derived.Test.YtfldgghobddgkaaGreatDoorJDAN
namespace Go.Proofs.YtfldgghobddgkaaGreatDoor
open Go.ChangeShapes Go.WideShapes Go.ChangeAt Go.RowKit Go.Lib
set_option maxRecDepth 100000
theorem cellsDo_cg2 {D D':Nat→Dm} {A A':Nat→Option Addr} {C C':Nat→Nat}:∀ k,(∀ i,i<k→(D i).name=(D' i).name∧(D i).solve=(D' i).solve∧(D i).n=(D' i).n∧A i=A' i∧C i=C' i)→cellsDo D A C k=cellsDo D' A' C' k
 | 0,_=>rfl
 | k+1,h=>by
  obtain ⟨h1,h2,h3,h4,h5⟩:=h k (by omega)
  rw [cellsDo,cellsDo,cellsDo_cg2 k fun i hi=>h i (by omega),h1,h2,h3,h4,h5]
theorem blk_ty {w:World} {a b e e':Nat} {c c':Array Value} {f f':Nat×Nat} (h:w.heap[a]?=some (.cells c e f)) (h':w.heap[b]?=some (.cells c' e' f')) (hne:e≠e'):a≠b:=fun x=>by
 rw [x,h'] at h
 simp only [Option.some.injEq,Obj.cells.injEq] at h
 exact hne h.2.1.symm
def KeepO (w w':World):Prop := ∀ (b:Nat) (c:Array Value) (f:Nat×Nat),w.heap[b]?=some (Obj.cells c 24 f)→w'.heap[b]?=some (Obj.cells c 24 f)
theorem KeepO.trans {w w1 w2:World} (h:KeepO w w1) (h':KeepO w1 w2):KeepO w w2:=fun b c f hb=>h' b c f (h b c f hb)
theorem KeepO.set {w:World} {g x e:Nat} {c:Array Value} {f:Nat×Nat} {v:Value} (hg:w.heap[g]?=some (.cells c e f)) (he:e≠24):KeepO w (w.setCell ⟨g,x,none⟩ v):=fun _ _ _ hb=>(setCell_off _ _ _ _ _ (blk_ty hb hg fun e'=>he e'.symm)).trans hb
theorem KeepO.grown {w w':World} {g e:Nat} {c:Array Value} {f:Nat×Nat} (h:w.grownBy w' (some g)) (hg:w.heap[g]?=some (.cells c e f)) (he:e≠24):KeepO w w':=fun b _ _ hb=>(h.block b (Array.getElem?_eq_some_iff.1 hb).1 fun e2=>blk_ty hb hg (fun e'=>he e'.symm) (Option.some.inj e2)).trans hb
def Lw (B:Nat) (w w':World):Prop:=(∀ w0,Below B w0 w→Below B w0 w')∧KeepO w w'
theorem Lw.trans {B:Nat} {w w1 w2:World} (h:Lw B w w1) (h':Lw B w1 w2):Lw B w w2:=⟨fun w0 h0=>h'.1 w0 (h.1 w0 h0),h.2.trans h'.2⟩
theorem Lw.of {B:Nat} {w w':World} (hB:B≤w.heap.size) (hb:Below w.heap.size w w'):Lw B w w':=⟨fun _ h0=>h0.trans (hb.mono hB),fun b _ _ hg=>(hb.block b (Array.getElem?_eq_some_iff.1 hg).1).trans hg⟩
section
variable {w w1:World} {B q g cd n k ge ce:Nat} {D:Nat→Dm} {G C:Nat→Nat} {ys:List EnL}
theorem DrA.setM (h:DrA w B q g cd n k ge ce D G C ys) {x:Nat} {v:Value} {M':Nat→Mem} (hM:(cellsMb (D k).mem (D k).n).set x v=cellsMb M' (D k).n) :
  DrA (w.setCell ⟨G k,x,none⟩ v) B q g cd n k ge ce (putD D k ⟨(D k).name,(D k).solve,(D k).n,M'⟩) G C ys∧Lw B w (w.setCell ⟨G k,x,none⟩ v):=by
 have hk:=h.kn
 obtain ⟨b1,b2,-,-,cm,hm⟩:=ow_blk h.row
 obtain ⟨-,-,-,-,cd',hd⟩:=ow_blk h.own.dims
 have hoff:∀ (b:Nat) (c:Array Value) (e:Nat) (f:Nat×Nat),w.heap[b]?=some (Obj.cells c e f)→e≠43→(w.setCell ⟨G k,x,none⟩ v).heap[b]?=w.heap[b]?:=fun b c e f hb he=>setCell_off _ _ _ _ _ (blk_ty hb hm he)
 refine ⟨⟨(hoff _ _ _ _ h.box (by decide)).trans h.box,h.low,⟨?_,fun i hi=>?_,h.own.apart⟩,h.ents.keep fun b cs e _ hg he=>hoff _ _ _ _ hg (by rcases he with rfl | rfl <;> decide),hk,h.n4,h.few,h.len⟩,fun w0 hb=>hb.setCell b1 _,KeepO.set hm (by decide)⟩
 ·have h1:=ow_off (j:=x) (u:=v) h.own.dims (own_ne h.own.dims hm (by decide))
  rwa [cellsDo_cg2 (D':=putD D k ⟨(D k).name,(D k).solve,(D k).n,M'⟩) (A':=fun i=>some ⟨G i,0,none⟩) (C':=C) n fun i _=>by
   by_cases e:i=k
   ·subst e;rw [putD_at];exact ⟨rfl,rfl,rfl,rfl,rfl⟩
   ·rw [putD_off D _ e];exact ⟨rfl,rfl,rfl,rfl,rfl⟩] at h1
 ·by_cases e:i=k
  ·subst e
   rw [putD_at]
   have h1:=(h.row.stored x v).1
   rwa [hM] at h1
  ·rw [putD_off D _ e]
   exact ow_off (h.own.mems i hi) fun e2=>h.own.apart i k hi hk e (Option.some.inj e2)
theorem DrA.newM (h:DrA w B q g cd n k ge ce D G C ys) {gm cm m':Nat} {M':Nat→Mem} (hB:B≤w.heap.size) (hg:w.grownBy w1 (some (G k))) (hrow:w1.ownsRow B 43 4 (.slice (some ⟨gm,0,none⟩) m' cm) m' (cellsMb M' m')) (hgm:gm=G k∨w.heap.size≤gm) :
  DrA (w1.setCell ⟨g,k*3+2,none⟩ (.slice (some ⟨gm,0,none⟩) m' cm)) B q g cd n k ge ce (putD D k ⟨(D k).name,(D k).solve,m',M'⟩) (fun i=>if i=k then gm else G i) (fun i=>if i=k then cm else C i) ys∧Lw B w (w1.setCell ⟨g,k*3+2,none⟩ (.slice (some ⟨gm,0,none⟩) m' cm)):=by
 have hk:=h.kn
 obtain ⟨bk1,bk2,-,-,cmk,hmk⟩:=ow_blk h.row
 obtain ⟨bd1,bd2,-,-,cd',hd⟩:=ow_blk h.own.dims
 obtain ⟨bm1,bm2,-,-,cm',hm'⟩:=ow_blk hrow
 have hoff:∀ (b:Nat) (c:Array Value) (e:Nat) (f:Nat×Nat),w.heap[b]?=some (Obj.cells c e f)→e≠43→w1.heap[b]?=w.heap[b]?:=fun b c e f hb he=>hg.block b (Array.getElem?_eq_some_iff.1 hb).1 fun e2=>blk_ty hb hmk he (Option.some.inj e2)
 have hd1:=(hoff _ _ _ _ hd (by decide)).trans hd
 have hoff2:∀ (b:Nat) (c:Array Value) (e:Nat) (f:Nat×Nat),w.heap[b]?=some (Obj.cells c e f)→e≠43→e≠41→(w1.setCell ⟨g,k*3+2,none⟩ (.slice (some ⟨gm,0,none⟩) m' cm)).heap[b]?=w.heap[b]?:=fun b c e f hb he he2=>(setCell_off _ _ _ _ _ (blk_ty ((hoff _ _ _ _ hb he).trans hb) hd1 he2)).trans (hoff _ _ _ _ hb he)
 refine ⟨⟨(hoff2 _ _ _ _ h.box (by decide) (by decide)).trans h.box,h.low,⟨?_,fun i hi=>?_,fun i j hi hj hne=>?_⟩,h.ents.keep fun b cs e _ hg he=>hoff2 _ _ _ _ hg (by rcases he with rfl | rfl <;> decide) (by rcases he with rfl | rfl <;> decide),hk,h.n4,h.few,h.len⟩,fun w0 hb=>(hb.grown hg hB fun j hj=>by cases hj;exact bk1).setCell bd1 _,(KeepO.grown hg hmk (by decide)).trans (KeepO.set hd1 (by decide))⟩
 ·have h1:=(ow_keep h.own.dims fun b cs _ hg2=>hoff _ _ _ _ hg2 (by decide))
  have h2:=(h1.stored (k*3+2) (.slice (some ⟨gm,0,none⟩) m' cm)).1
  rwa [show (cellsDo D (fun i=>some ⟨G i,0,none⟩) C n).set (k*3+2) (.slice (some ⟨gm,0,none⟩) m' cm)=cellsDo (putD D k ⟨(D k).name,(D k).solve,m',M'⟩) (fun i=>some ⟨if i=k then gm else G i,0,none⟩) (fun i=>if i=k then cm else C i) n from by
   refine List.ext_getElem? fun j=>?_
   rw [List.getElem?_set]
   by_cases hj:j<n*3
   ·obtain ⟨x0,x1,x2⟩:=cellsDo_at D (fun i=>some ⟨G i,0,none⟩) C n (j / 3) (by omega)
    obtain ⟨y0,y1,y2⟩:=cellsDo_at (putD D k ⟨(D k).name,(D k).solve,m',M'⟩) (fun i=>some ⟨if i=k then gm else G i,0,none⟩) (fun i=>if i=k then cm else C i) n (j / 3) (by omega)
    have hp:(putD D k ⟨(D k).name,(D k).solve,m',M'⟩ (j / 3)).name=(D (j / 3)).name∧(putD D k ⟨(D k).name,(D k).solve,m',M'⟩ (j / 3)).solve=(D (j / 3)).solve:=by
     by_cases e:j / 3=k
     ·rw [e,putD_at];exact ⟨rfl,rfl⟩
     ·rw [putD_off D _ e];exact ⟨rfl,rfl⟩
    rcases (by omega:j % 3=0∨j % 3=1∨j % 3=2) with e | e | e
    ·rw [if_neg (by omega),show j=j / 3*3 by omega,x0,y0,hp.1]
    ·rw [if_neg (by omega),show j=j / 3*3+1 by omega,x1,y1,hp.2]
    ·rw [show j=j / 3*3+2 by omega,x2,y2]
     by_cases e2:j / 3=k
     ·rw [if_pos (by omega),if_pos (by rw [cellsDo_len];omega),if_pos e2,if_pos e2,e2,putD_at]
     ·rw [if_neg (by omega),if_neg e2,if_neg e2,putD_off D _ e2]
   ·rw [if_neg (by omega),List.getElem?_eq_none (by rw [cellsDo_len];omega),List.getElem?_eq_none (by rw [cellsDo_len];omega)]] at h2
 ·by_cases e:i=k
  ·subst e
   rw [if_pos rfl,if_pos rfl,putD_at]
   exact ow_off hrow (own_ne hrow hd1 (by decide))
  ·rw [if_neg e,if_neg e,putD_off D _ e]
   have h1:w1.ownsRow B 43 4 (.slice (some ⟨G i,0,none⟩) (D i).n (C i)) (D i).n (cellsMb (D i).mem (D i).n):=(h.own.mems i hi).kept hg (Or.inr fun e2=>h.own.apart i k hi hk e (Option.some.inj e2))
   exact ow_off h1 (own_ne h1 hd1 (by decide))
 ·have hlt:∀ i,i<n→G i<w.heap.size:=fun i hi=>(ow_blk (h.own.mems i hi)).2.1
  by_cases e1:i=k
  ·rw [if_pos e1,if_neg (by omega)]
   have h1:=hlt j hj
   have h2:=h.own.apart k j hk hj (by omega)
   rcases hgm with e | e
   ·rw [e];exact h2
   ·omega
  ·rw [if_neg e1]
   by_cases e2:j=k
   ·rw [if_pos e2]
    have h1:=hlt i hi
    have h2:=h.own.apart i k hi hk e1
    rcases hgm with e | e
    ·rw [e];exact h2
    ·omega
   ·rw [if_neg e2]
    exact h.own.apart i j hi hj hne
theorem DrA.newE (h:DrA w B q g cd n k ge ce D G C ys) {ys':List EnL} (hB:B≤w.heap.size) (hg:w.grownBy w1 (some ge)) (he:OwE w1 B ge ce ys') (hf:ys'.length≤3000) (hl:∀ y∈ys',y.e.pl.length=n) :
  DrA (w1.setCell ⟨q,2,none⟩ (.slice (some ⟨ge,0,none⟩) ys'.length ce)) B q g cd n k ge ce D G C ys'∧Lw B w (w1.setCell ⟨q,2,none⟩ (.slice (some ⟨ge,0,none⟩) ys'.length ce)):=by
 obtain ⟨⟨cur,hc,-⟩,-⟩:=h.ents.row
 have hoff:∀ (b:Nat) (c:Array Value) (e:Nat) (f:Nat×Nat),w.heap[b]?=some (Obj.cells c e f)→e≠51→w1.heap[b]?=w.heap[b]?:=fun b c e f hb he=>hg.block b (Array.getElem?_eq_some_iff.1 hb).1 fun e2=>blk_ty hb hc he (Option.some.inj e2)
 have hq1:=(hoff _ _ _ _ h.box (by decide)).trans h.box
 have hoff2:∀ (b:Nat) (c:Array Value) (e:Nat) (f:Nat×Nat),w1.heap[b]?=some (Obj.cells c e f)→e≠74→(w1.setCell ⟨q,2,none⟩ (.slice (some ⟨ge,0,none⟩) ys'.length ce)).heap[b]?=w1.heap[b]?:=fun b c e f hb he=>setCell_off _ _ _ _ _ (blk_ty hb hq1 he)
 refine ⟨⟨?_,h.low,h.own.keep fun b cs e _ hg2 he2=>?_,he.keep fun b cs e _ hg2 he2=>hoff2 _ _ _ _ hg2 (by rcases he2 with rfl | rfl <;> decide),h.kn,h.n4,hf,hl⟩,fun w0 hb=>(hb.grown hg hB fun j hj=>by cases hj;exact h.ents.low).setCell h.low _,(KeepO.grown hg hc (by decide)).trans (KeepO.set hq1 (by decide))⟩
 ·rw [set_tyD hq1]
  rfl
 ·have h1:=hoff _ _ _ _ hg2 (by rcases he2 with rfl | rfl <;> decide)
  exact (hoff2 _ _ _ _ (h1.trans hg2) (by rcases he2 with rfl | rfl <;> decide)).trans h1
def setPl (ys:List EnL) (j k:Nat) (v:Int):List EnL:=ys.set j ⟨⟨(ys.getD j noL).e.pl.set k v,(ys.getD j noL).e.n⟩,(ys.getD j noL).A,(ys.getD j noL).c⟩
theorem cellsE_same {xs:List EnL} {x:EnL}:∀ {j:Nat},j<xs.length→x.A=(xs.getD j noL).A→x.c=(xs.getD j noL).c→x.e.pl.length=(xs.getD j noL).e.pl.length→x.e.n=(xs.getD j noL).e.n→cellsE (xs.set j x)=cellsE xs:=by
 induction xs with
 | nil=>intro j h;cases h
 | cons y r ih =>
  intro j hj h1 h2 h3 h4
  cases j with
  | zero=>simp only [List.set_cons_zero,cellsE,List.getD_cons_zero] at h1 h2 h3 h4 ⊢;rw [h1,h2,h3,h4]
  | succ j =>
   simp only [List.set_cons_succ,cellsE,List.getD_cons_succ] at h1 h2 h3 h4 ⊢
   rw [ih (by simpa using hj) h1 h2 h3 h4]
theorem pair_setA {ys:List EnL} {j:Nat} {x:EnL} (h:ys.Pairwise fun a b=>a.A≠b.A) (hx:x.A=(ys.getD j noL).A) (hj:j<ys.length):(ys.set j x).Pairwise fun a b=>a.A≠b.A:=by
 have h1:((ys.map EnL.A).Pairwise fun a b=>a≠b):=List.pairwise_map.2 h
 have h2:(ys.set j x).map EnL.A=ys.map EnL.A:=by
  rw [List.map_set]
  refine List.ext_getElem? fun i=>?_
  rw [List.getElem?_set]
  split
  ·rename_i e
   subst e
   rw [if_pos (by simpa using hj),hx,List.getD_eq_getElem?_getD,List.getElem?_eq_getElem hj]
   simp [hj]
  ·rfl
 rw [←h2] at h1
 exact List.pairwise_map.1 h1
theorem DrA.setE (h:DrA w B q g cd n k ge ce D G C ys) {j gp:Nat} {v:Int} (hj:j<ys.length) (hA:(ys.getD j noL).A=some ⟨gp,0,none⟩) :
  DrA (w.setCell ⟨gp,k,none⟩ (.int .i64 v)) B q g cd n k ge ce D G C (setPl ys j k v)∧Lw B w (w.setCell ⟨gp,k,none⟩ (.int .i64 v)):=by
 obtain ⟨g1,e1,o1⟩:=h.ents.each _ (enl_mem hj)
 obtain ⟨bp,-,-,-,cp,hp⟩:=ow_blk o1
 rw [hA] at e1
 obtain rfl:gp=g1:=by cases e1;rfl
 have hoff:∀ (b:Nat) (c:Array Value) (e:Nat) (f:Nat×Nat),w.heap[b]?=some (Obj.cells c e f)→e≠3→(w.setCell ⟨gp,k,none⟩ (.int .i64 v)).heap[b]?=w.heap[b]?:=fun b c e f hb he=>setCell_off _ _ _ _ _ (blk_ty hb hp he)
 have hlen:(setPl ys j k v).length=ys.length:=by unfold setPl;simp
 have hgd:∀ i,i<ys.length→(ys.getD i noL).A=some ⟨gp,0,none⟩→i=j:=fun i hi e=>by
  have hpw:=List.pairwise_iff_getElem.1 h.ents.apart
  rcases Nat.lt_trichotomy i j with h1 | h1 | h1
  ·have:=hpw i j hi hj h1
   simp only [List.getD_eq_getElem?_getD,List.getElem?_eq_getElem hi,List.getElem?_eq_getElem hj,Option.getD_some] at e hA
   exact absurd (e.trans hA.symm) this
  ·exact h1
  ·have:=hpw j i hj hi h1
   simp only [List.getD_eq_getElem?_getD,List.getElem?_eq_getElem hi,List.getElem?_eq_getElem hj,Option.getD_some] at e hA
   exact absurd (hA.trans e.symm) this
 have hx:PlO (w.setCell ⟨gp,k,none⟩ (.int .i64 v)) B (ys.getD j noL).A (ys.getD j noL).c ((ys.getD j noL).e.pl.set k v):=by
  refine ⟨gp,hA,?_⟩
  have h1:=(o1.stored k (.int .i64 v)).1
  rw [List.length_set]
  rwa [show (mapI (ys.getD j noL).e.pl).set k (.int .i64 v)=mapI ((ys.getD j noL).e.pl.set k v) by simp [mapI,List.map_set]] at h1
 have hea:∀ y∈setPl ys j k v,PlO (w.setCell ⟨gp,k,none⟩ (.int .i64 v)) B y.A y.c y.e.pl:=fun y hy=>by
  obtain ⟨i,hi,rfl⟩:=List.getElem_of_mem hy
  have hge:(setPl ys j k v)[i]=if j=i then ⟨⟨(ys.getD j noL).e.pl.set k v,(ys.getD j noL).e.n⟩,(ys.getD j noL).A,(ys.getD j noL).c⟩ else ys[i]'(by rw [←hlen];exact hi):=List.getElem_set ..
  rw [hge]
  rw [hlen] at hi
  split
  ·exact hx
  ·rename_i hne
   refine (h.ents.each _ (List.getElem_mem hi)).off fun b hb e=>hne ?_
   rw [e] at hb
   exact (hgd i hi (by rw [List.getD_eq_getElem?_getD,List.getElem?_eq_getElem hi];exact hb)).symm
 refine ⟨⟨?_,h.low,h.own.keep fun b cs e _ hg2 he2=>hoff _ _ _ _ hg2 (by rcases he2 with rfl | rfl <;> decide),⟨?_,h.ents.low,hea,?_⟩,h.kn,h.n4,by rw [hlen];exact h.few,fun y hy=>?_⟩,fun w0 hb=>hb.setCell bp _,KeepO.set hp (by decide)⟩
 ·rw [hlen]
  exact (hoff _ _ _ _ h.box (by decide)).trans h.box
 ·obtain ⟨⟨cur,hc,h2,h3⟩,h4,h5,h6⟩:=h.ents.row
  refine ⟨⟨cur,(hoff _ _ _ _ hc (by decide)).trans hc,h2,?_⟩,by rw [hlen];exact h4,h5,fun y hy=>(hea y hy).ty⟩
  rw [hlen,h3]
  exact (cellsE_same (x:=⟨⟨(ys.getD j noL).e.pl.set k v,(ys.getD j noL).e.n⟩,(ys.getD j noL).A,(ys.getD j noL).c⟩) hj rfl rfl (by simp) rfl).symm
 ·exact pair_setA h.ents.apart rfl hj
 ·rcases List.mem_or_eq_of_mem_set hy with hy | rfl
  ·exact h.len y hy
  ·rw [List.length_set]
   exact h.len _ (enl_mem hj)
end
end Go.Proofs.YtfldgghobddgkaaGreatDoor
namespace Go.Proofs.YtfldgghobddgkaaGreatDoor
open Go Go.ChangeShapes Go.WideShapes Go.ChangeAt Go.RowKit
set_option maxRecDepth 20000
theorem grown_transR {w w1 w2:World} {r:Option Nat} (h:w.grownBy w1 r) (k:w1.grownBy w2 r):w.grownBy w2 r :=
 ⟨k.os.trans h.os,k.tape.trans h.tape,k.output.trans h.output,Nat.le_trans h.size k.size,fun i hi hr=>(k.block i (Nat.lt_of_lt_of_le hi h.size) hr).trans (h.block i hi hr)⟩
theorem grown_belowR {w w':World} {r:Option Nat} (h:Below w.heap.size w w'):w.grownBy w' r:=⟨h.os,h.tape,h.output,h.size,fun i hi _=>h.block i hi⟩
theorem grown_setRowR (w:World) (g:Nat) (cs:Array Value):w.grownBy (w.setRow g cs) (some g) :=
 ⟨rfl,rfl,rfl,by rw [setRow_size];exact Nat.le_refl _,fun i _ hr=>setRow_other w g i cs fun e=>hr (by rw [e])⟩
theorem setCells_rowR (g:Nat) (t:TypeId):∀ (vs:List Value) (o:Nat) (cur:Array Value) (w:World),w.heap[g]?=some (.cells cur t (0,0))→o+vs.length≤cur.size→w.setCells g o vs=w.setRow g (cur.toList.take o ++ vs ++ cur.toList.drop (o+vs.length)).toArray
 | [],o,cur,w,hg,_=>by
  simp only [World.setCells,List.append_nil,List.length_nil,Nat.add_zero,List.take_append_drop,Array.toArray_toList]
  rw [setRow_self w g cur t (0,0) hg]
 | v :: r,o,cur,w,hg,hl=>by
  simp only [List.length_cons] at hl
  rw [World.setCells,setCell_eq_setRow w g o cur t (0,0) v hg,setCells_rowR g t r (o+1) (cur.setIfInBounds o v) _ (setRow_heap w g cur _ t _ hg) (by simp;omega),setRow_setRow]
  have e:=list_seg_step cur.toList o v r (by simp;omega)
  congr 2
  simpa [Array.toList_setIfInBounds,Nat.add_assoc] using e
set_option maxHeartbeats 1000000 in
theorem indexm_any (F:Nat) (cap:Array Value) (p:Int→Bool) (hent:∀ (args:Array Value) (w:World),(callFunc F args).run Tryz.prog w=.ok (.enter F args) w) (A:Option Addr) (c:Nat) (L:List Int) (w:World) (hn:L.length≤3000) (hL:IntsAt w A c L)
  (hF:∀ (x:Int) (w':World),x∈L→Below w.heap.size w w'→Calls Tryz.prog F (#[.int .i64 x] ++ cap) w' fun e w''=>e=.returned (.bool (p x))∧Below w'.heap.size w' w'') :
  Calls Tryz.prog 134 #[.slice A L.length c,.func (.func F) #[] cap] w fun e w'=>e=.returned (.int .i64 (findFrom (fun j=>p (L.getD j 0)) L.length 0))∧Below w.heap.size w w' :=
 indexm_pl F cap p hent A c L w (by omega) (pl_ints hL) hF
def DInv (L:List Int) (p:Int→Bool) (i j:Nat) (cur:Array Value):Prop:=i<j∧((L.take j).filter fun x => !p x).length=i∧(∀ m,m<i→cur[m]?=some (.int .i64 (((L.take j).filter fun x => !p x).getD m 0)))∧∀ m,j≤m→m<L.length→cur[m]?=some (.int .i64 (L.getD m 0))
theorem take_one {L:List Int} {j:Nat} (h:j<L.length):L.take (j+1)=L.take j ++ [L.getD j 0]:=by
 rw [List.take_succ_eq_append_getElem h,List.getD_eq_getElem?_getD,List.getElem?_eq_getElem h]
 rfl
theorem dinv_start {L:List Int} {p:Int→Bool} {k:Nat} {cur:Array Value} (hk:k<L.length) (hp:p (L.getD k 0)=true) (hn:∀ j,j<k→p (L.getD j 0)=false) (hc:∀ m,m<L.length→cur[m]?=some (.int .i64 (L.getD m 0))):DInv L p k (k+1) cur:=by
 have hf:(L.take k).filter (fun x => !p x)=L.take k:=by
  rw [List.filter_eq_self]
  intro x hx
  obtain ⟨j,hj,rfl⟩:=List.getElem_of_mem hx
  have hj2:j<k:=by rw [List.length_take] at hj;omega
  have h:=hn j hj2
  rw [List.getD_eq_getElem?_getD,List.getElem?_eq_getElem (by omega)] at h
  simpa using h
 have e:(L.take (k+1)).filter (fun x => !p x)=L.take k:=by
  rw [take_one hk,List.filter_append,hf]
  generalize L.getD k 0=x at hp ⊢
  simp [hp]
 refine ⟨by omega,by rw [e,List.length_take];omega,fun m hm=>?_,fun m h1 h2=>hc m h2⟩
 rw [e,hc m (by omega),List.getD_eq_getElem?_getD,List.getD_eq_getElem?_getD,List.getElem?_take_of_lt hm]
theorem dinv_skip {L:List Int} {p:Int→Bool} {i j:Nat} {cur:Array Value} (h:DInv L p i j cur) (hj:j<L.length) (hp:p (L.getD j 0)=true):DInv L p i (j+1) cur:=by
 have e:(L.take (j+1)).filter (fun x => !p x)=(L.take j).filter (fun x => !p x):=by
  rw [take_one hj,List.filter_append]
  generalize L.getD j 0=x at hp ⊢
  simp [hp]
 obtain ⟨h1,h2,h3,h4⟩:=h
 refine ⟨by omega,by rw [e];exact h2,fun m hm=>by rw [e];exact h3 m hm,fun m a b=>h4 m (by omega) b⟩
theorem dinv_keep {L:List Int} {p:Int→Bool} {i j:Nat} {cur:Array Value} (h:DInv L p i j cur) (hj:j<L.length) (hs:L.length≤cur.size) (hp:p (L.getD j 0)=false):DInv L p (i+1) (j+1) (cur.setIfInBounds i (.int .i64 (L.getD j 0))):=by
 have e:(L.take (j+1)).filter (fun x => !p x)=(L.take j).filter (fun x => !p x) ++ [L.getD j 0]:=by
  rw [take_one hj,List.filter_append]
  generalize L.getD j 0=x at hp ⊢
  simp [hp]
 obtain ⟨h1,h2,h3,h4⟩:=h
 generalize L.getD j 0=x at e ⊢
 refine ⟨by omega,by rw [e,List.length_append,h2];rfl,fun m hm=>?_,fun m a b=>?_⟩
 ·rw [e,Array.getElem?_setIfInBounds]
  by_cases he:i=m
  ·rw [if_pos he,if_pos (by omega),List.getD_eq_getElem?_getD,List.getElem?_append_right (by omega),h2,he]
   simp
  ·rw [if_neg he,h3 m (by omega),List.getD_eq_getElem?_getD,List.getD_eq_getElem?_getD,List.getElem?_append_left (by omega)]
 ·rw [Array.getElem?_setIfInBounds,if_neg (by omega)]
  exact h4 m (by omega) b
theorem grown_setRu {w wr:World} {g k:Nat} {v:Value} (h:w.grownBy wr (some g)):w.grownBy (wr.setCell ⟨g,k,none⟩ v) (some g):=by
 refine ⟨h.os,h.tape,h.output,by simpa [World.setCell] using h.size,fun i hi hr=>?_⟩
 rw [←h.block i hi hr]
 simp only [World.setCell,Array.getElem?_modify]
 rw [if_neg fun e=>hr (by rw [e])]
set_option maxHeartbeats 4000000 in
theorem delf_any (F:Nat) (cp:Array Value) (p:Int→Bool) (hent:∀ (args:Array Value) (w:World),(callFunc F args).run Tryz.prog w=.ok (.enter F args) w) (base:Nat) (v:Value) (L:List Int) (w:World) (hn:L.length≤3000) (hown:w.ownsRow base 3 1 v L.length (mapI L))
  (hF:∀ (x:Int) (w':World),x∈L→w.grownBy w' v.ownBlock→Calls Tryz.prog F (#[.int .i64 x] ++ cp) w' fun e w''=>e=.returned (.bool (p x))∧Below w'.heap.size w' w'') :
  Calls Tryz.prog 110 #[v,.func (.func F) #[] cp] w fun e w'=>(∃ A' c',e=.returned (.slice A' (L.filter fun x => !p x).length c')∧IntT w' A' c' (L.filter fun x => !p x))∧w.grownBy w' v.ownBlock:=by
 obtain ⟨A,c,rfl,hI⟩:=intT_own hown
 have hix:=indexm_any F cp p hent A c L w (by omega) hI.at fun x w' hx hB=>hF x w' hx (grown_belowR hB)
 rcases findFrom_cases (fun j=>p (L.getD j 0)) L.length 0 with ⟨h1,h2⟩ | ⟨k,h1,_,h3,h4,h5⟩
 ·have hf:(L.filter fun x => !p x)=L:=by
   rw [List.filter_eq_self]
   intro x hx
   obtain ⟨j,hj,rfl⟩:=List.getElem_of_mem hx
   have h:=h2 j (Nat.zero_le _) (by omega)
   simp only [List.getD_eq_getElem?_getD,List.getElem?_eq_getElem hj] at h
   simpa using h
  have HF:Hid ((L.filter fun x => !p x)=L):=hf
  have HI:Hid (IntT w A c L):=hI
  rw [h1] at hix
  rw [hf]
  generalize L.length=n at hix
  clear hF hown hI h1 h2 hf hent
  go_enter Tryz.func110,Tryz.ntmps110
  go_wp2_with fail
  refine hix.mono ?_
  rintro e w1 ⟨rfl,hb1⟩
  go_wp2_with fail
  go_ret
  exact ⟨⟨A,c,rfl,HI.out.later hb1⟩,grown_belowR hb1⟩
 ·have hk:k<L.length:=by omega
  obtain ⟨hLc,hc63,hI0 | ⟨g,cs0,fr0,rfl,hg0,-⟩⟩:=hI
  ·rw [hI0] at hk;simp at hk
  obtain ⟨cur,hg,hcs,hcur⟩:∃ cur:Array Value,w.heap[g]?=some (.cells cur 3 (0,0))∧cur.size=c∧∀ m,m<L.length→cur[m]?=some (.int .i64 (L.getD m 0)):=by
   rcases hown.2 with ⟨e,_⟩ | ⟨g',cap,cur,e,hb,hg,hc,hm,hs,ht⟩
   ·cases e
   ·cases e
    refine ⟨cur,hg,by omega,fun m hm=>?_⟩
    have h:(mapI L)[m]?=some (.int .i64 (L.getD m 0)):=by simp [mapI,List.getD,List.getElem?_eq_getElem hm]
    rw [←ht,Nat.mul_one,List.getElem?_take_of_lt hm] at h
    rw [←h]
    simp
  have HSt:Hid (DInv L p k (k+1) cur):=dinv_start hk h4 (fun j hj=>h5 j (Nat.zero_le _) hj) hcur
  have HF:Hid (∀ (x:Int) (w':World),x∈L→w.grownBy w' (some g)→Calls Tryz.prog F (#[.int .i64 x] ++ cp) w' fun e w''=>e=.returned (.bool (p x))∧Below w'.heap.size w' w''):=hF
  have HCs:Hid (cur.size=c):=hcs
  rw [h1] at hix
  obtain ⟨n,hnn⟩:∃ n,L.length=n:=⟨_,rfl⟩
  have HN:Hid (L.length=n):=hnn
  have HG0:Hid (w.heap[g]?=some (.cells cur 3 (0,0))):=hg
  rw [hnn] at hix hk hn hLc ⊢
  have hki:(k:Int)<(n:Int):=by omega
  have hnI:(n:Int)≤3000:=by omega
  have hne:((k:Int) == -1)=false:=by
   have:(k:Int)≠-1:=by omega
   simp only [beq_eq_false_iff_ne];exact this
  show Calls Tryz.prog 110 #[.slice (some ⟨g,0,none⟩) n c,.func (.func F) #[] cp] w fun e w'=>(∃ A' c',e=.returned (.slice A' (L.filter fun x => !p x).length c')∧IntT w' A' c' (L.filter fun x => !p x))∧w.grownBy w' (some g)
  clear hF hown hg0 hcur hcs h1 h3 h4 h5 hg hnn
  go_enter Tryz.func110,Tryz.ntmps110
  go_wp2_with fail
  refine hix.mono ?_
  rintro e w1 ⟨rfl,hb1⟩
  have HG1:Hid (w1.heap[g]?=some (.cells cur 3 (0,0))∧w.grownBy w1 (some g)):=⟨(hb1.block g (Array.getElem?_eq_some_iff.1 HG0.out).1).trans HG0.out,grown_belowR hb1⟩
  clear hb1 hix
  go_wp2_with fail
  go_loopg [5,6] (n-(k+1)) (fun gg s5 s6 wr => ∃ (i j:Nat) (cu:Array Value),j≤n∧gg=n-j∧s5=.int .i64 i∧s6=.int .i64 j∧Hid (DInv L p i j cu∧cu.size=c)∧wr.heap[g]?=some (.cells cu 3 (0,0))∧w.grownBy wr (some g))
  case atStart=>exact ⟨k,k+1,cur,by omega,rfl,rfl,by go_num,(⟨HSt.out,HCs.out⟩:_∧_),HG1.out.1,HG1.out.2⟩
  case round =>
   obtain ⟨i,j,cu,hj,rfl,rfl,rfl,HD,hg,hG⟩:=hrel
   have HG:Hid (wr.heap[g]?=some (.cells cu 3 (0,0))):=hg
   have HGr:Hid (w.grownBy wr (some g)):=hG
   have hij:=HD.out.1.1
   have hgl:g<wr.heap.size:=(Array.getElem?_eq_some_iff.1 hg).1
   have hcc:=HD.out.2
   by_cases hlt:j<n
   ·have hji:(j:Int)<(n:Int):=by omega
    have hii:(i:Int)<(n:Int):=by omega
    have cj:wr.cell? ⟨g,j,none⟩=some (.int .i64 (L.getD j 0)):=by
     rw [Lib.cell_of_heap hg]
     exact HD.out.1.2.2.2 j (Nat.le_refl _) (by rw [HN.out];exact hlt)
    have hcl:=HF.out (L.getD j 0) wr (by rw [List.getD_eq_getElem?_getD,List.getElem?_eq_getElem (by rw [HN.out];exact hlt)];exact List.getElem_mem _) hG
    cases hp:p (L.getD j 0)
    ·rw [hp] at hcl
     have HD2:Hid (DInv L p (i+1) (j+1) (cu.setIfInBounds i (.int .i64 (L.getD j 0)))∧(cu.setIfInBounds i (.int .i64 (L.getD j 0))).size=c):=⟨dinv_keep HD.out.1 (by rw [HN.out];exact hlt) (by rw [HN.out,hcc];exact hLc) hp,by simpa using hcc⟩
     generalize L.getD j 0=x at cj hcl HD2
     clear hg hG hp
     go_wp2_with fail
     refine hcl.mono ?_
     rintro e w2 ⟨rfl,hb2⟩
     have hg2:=(hb2.block g hgl).trans HG.out
     have ci:(w2.cell? ⟨g,i,none⟩).isSome=true:=by
      rw [Lib.cell_of_heap hg2,Array.getElem?_eq_getElem (by omega)]
      rfl
     obtain ⟨old,hold⟩:∃ old,w2.cell? ⟨g,i,none⟩=some old:=Option.isSome_iff_exists.1 ci
     have hfr:w2.frozen? ⟨g,i,none⟩=false:=Lib.frozen_of_heap hg2 i
     have HG2:Hid ((w2.setCell ⟨g,i,none⟩ (.int .i64 x)).heap[g]?=some (.cells (cu.setIfInBounds i (.int .i64 x)) 3 (0,0))):=by
      show _=_
      simp [World.setCell,Array.getElem?_modify,hg2]
     have HGr2:Hid (w.grownBy (w2.setCell ⟨g,i,none⟩ (.int .i64 x)) (some g)):=grown_setRu (grown_transR HGr.out (grown_belowR hb2))
     clear hb2 hg2 hcl ci
     go_wp2_with fail
     go_roundg (n-(j+1))
     case measure=>omega
     case rel=>exact ⟨i+1,j+1,_,by omega,rfl,by go_num,by go_num,HD2,HG2.out,HGr2.out⟩
    ·rw [hp] at hcl
     have HD2:Hid (DInv L p i (j+1) cu∧cu.size=c):=⟨dinv_skip HD.out.1 (by rw [HN.out];exact hlt) hp,hcc⟩
     generalize L.getD j 0=x at cj hcl
     clear hg hG hp
     go_wp2_with fail
     refine hcl.mono ?_
     rintro e w2 ⟨rfl,hb2⟩
     have HG2:Hid (w2.heap[g]?=some (.cells cu 3 (0,0))):=(hb2.block g hgl).trans HG.out
     have HGr2:Hid (w.grownBy w2 (some g)):=grown_transR HGr.out (grown_belowR hb2)
     clear hb2 hcl
     go_wp2_with fail
     go_roundg (n-(j+1))
     case measure=>omega
     case rel=>exact ⟨i,j+1,_,by omega,rfl,rfl,by go_num,HD2,HG2.out,HGr2.out⟩
   ·have hje:j=n:=by omega
    subst hje
    have hii:(i:Int)<(j:Int):=by omega
    have hcl:∀ ty,(Builtin.clear_ #[47] ty #[.slice (some ⟨g,0+i,none⟩) (j-i) (c-i)]).run Tryz.prog wr=.ok (.tuple #[]) (wr.setCells g (0+i) (List.replicate (j-i) (.int .i64 0))) :=
     fun ty=>Lib.run_clear_slice wr _ _ ty _ Tryz.underlying47 Tryz.zeroValue3 rfl rfl g (0+i) _ _ (by omega) (fun t ht=>by rw [Lib.cell_of_heap hg,Array.getElem?_eq_getElem (by omega)];rfl) (fun t _=>Lib.frozen_of_heap hg _)
    have HDn:Hid (DInv L p i j cu∧cu.size=c):=HD
    have hseg:=setCells_rowR g 3 (List.replicate (j-i) (.int .i64 0)) (0+i) cu wr hg (by simp;omega)
    obtain ⟨W,hW⟩:∃ W,wr.setCells g (0+i) (List.replicate (j-i) (Value.int .i64 0))=W:=⟨_,rfl⟩
    have HGW:Hid (w.grownBy W (some g)):=by rw [←hW,hseg];exact grown_transR hG (grown_setRowR wr g _)
    have HTW:Hid (IntT W (some ⟨g,0,none⟩) c (L.filter fun x => !p x)):=by
     have hf:(L.filter fun x => !p x)=(L.take j).filter fun x => !p x:=by rw [List.take_of_length_le (by rw [HN.out];exact Nat.le_refl _)]
     have hWg:W.heap[g]?=some (.cells (cu.toList.take (0+i) ++ List.replicate (j-i) (Value.int .i64 0) ++ cu.toList.drop (0+i+(List.replicate (j-i) (Value.int .i64 0)).length)).toArray 3 (0,0)):=by rw [←hW,hseg];exact setRow_heap wr g cu _ _ _ hg
     refine ⟨by rw [hf,HD.out.1.2.1];omega,hc63,Or.inr ⟨g,_,_,rfl,hWg,fun m hm=>?_⟩⟩
     rw [hf] at hm ⊢
     rw [HD.out.1.2.1] at hm
     rw [Lib.cell_of_heap hWg,←HD.out.1.2.2.1 m hm]
     simp only [List.getElem?_toArray]
     rw [List.append_assoc,List.getElem?_append_left (by simp;omega),List.getElem?_take_of_lt (by omega)]
     simp
    have HFl:Hid ((L.filter fun x => !p x).length=i):=by
     show _=_
     rw [←HD.out.1.2.1,List.take_of_length_le (by rw [HN.out];exact Nat.le_refl _)]
    rw [hW,Nat.zero_add] at hcl
    have hcI:(j:Int)≤(c:Int):=by omega
    clear hg hG hseg hW
    go_wp2
    go_ret
    exact ⟨⟨some ⟨g,0,none⟩,c,by rw [HFl.out];rfl,HTW.out⟩,HGW.out⟩
end Go.Proofs.YtfldgghobddgkaaGreatDoor
