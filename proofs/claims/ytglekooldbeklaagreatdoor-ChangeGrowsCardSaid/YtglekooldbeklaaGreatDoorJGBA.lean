/-
  What is written into a draft: a member's cell, another row of members, other entries, a place's number.
-/
import Derived.Test.YtglekooldbeklaaGreatDoorJGAZ
namespace Go.Proofs.YtglekooldbeklaaGreatDoor
open Go.ChangeShapes Go.WideShapes Go.ChangeAt Go.RowKit Go.Lib
set_option maxRecDepth 100000
theorem cellsDo_cg2 {D D':Nat→Dm} {A A':Nat→Option Addr} {C C':Nat→Nat}:∀ k,(∀ i,i<k→(D i).name=(D' i).name∧(D i).solve=(D' i).solve∧(D i).n=(D' i).n∧A i=A' i∧C i=C' i)→cellsDo D A C k=cellsDo D' A' C' k
 | 0,_=>rfl
 | k+1,h=>by
  obtain ⟨h1,h2,h3,h4,h5⟩:=h k (by omega)
  rw [cellsDo,cellsDo,cellsDo_cg2 k fun i hi=>h i (by omega),h1,h2,h3,h4,h5]
theorem blk_ty {w:World} {a b e e':Nat} {c c':Array Value} {f f':Nat×Nat} (h:w.heap[a]?=some (.cells c e f)) (h':w.heap[b]?=some (.cells c' e' f')) (hne:e≠e'):a≠b:=fun x=>by
 rw [x,h'] at h
 simp only [Option.some.injEq,Obj.cells.injEq] at h
 exact hne h.2.1.symm
def KeepO (w w':World):Prop := ∀ (b:Nat) (c:Array Value) (f:Nat×Nat),w.heap[b]?=some (Obj.cells c 24 f)→w'.heap[b]?=some (Obj.cells c 24 f)
theorem KeepO.trans {w w1 w2:World} (h:KeepO w w1) (h':KeepO w1 w2):KeepO w w2:=fun b c f hb=>h' b c f (h b c f hb)
theorem KeepO.set {w:World} {g x e:Nat} {c:Array Value} {f:Nat×Nat} {v:Value} (hg:w.heap[g]?=some (.cells c e f)) (he:e≠24):KeepO w (w.setCell ⟨g,x,none⟩ v):=fun _ _ _ hb=>(setCell_off _ _ _ _ _ (blk_ty hb hg fun e'=>he e'.symm)).trans hb
theorem KeepO.grown {w w':World} {g e:Nat} {c:Array Value} {f:Nat×Nat} (h:w.grownBy w' (some g)) (hg:w.heap[g]?=some (.cells c e f)) (he:e≠24):KeepO w w':=fun b _ _ hb=>(h.block b (Array.getElem?_eq_some_iff.1 hb).1 fun e2=>blk_ty hb hg (fun e'=>he e'.symm) (Option.some.inj e2)).trans hb
def Lw (B:Nat) (w w':World):Prop:=(∀ w0,Below B w0 w→Below B w0 w')∧KeepO w w'
theorem Lw.trans {B:Nat} {w w1 w2:World} (h:Lw B w w1) (h':Lw B w1 w2):Lw B w w2:=⟨fun w0 h0=>h'.1 w0 (h.1 w0 h0),h.2.trans h'.2⟩
theorem Lw.of {B:Nat} {w w':World} (hB:B≤w.heap.size) (hb:Below w.heap.size w w'):Lw B w w':=⟨fun _ h0=>h0.trans (hb.mono hB),fun b _ _ hg=>(hb.block b (Array.getElem?_eq_some_iff.1 hg).1).trans hg⟩
section
variable {w w1:World} {B q g cd n k ge ce:Nat} {D:Nat→Dm} {G C:Nat→Nat} {ys:List EnL}
theorem DrA.setM (h:DrA w B q g cd n k ge ce D G C ys) {x:Nat} {v:Value} {M':Nat→Mem} (hM:(cellsMb (D k).mem (D k).n).set x v=cellsMb M' (D k).n) :
  DrA (w.setCell ⟨G k,x,none⟩ v) B q g cd n k ge ce (putD D k ⟨(D k).name,(D k).solve,(D k).n,M'⟩) G C ys∧Lw B w (w.setCell ⟨G k,x,none⟩ v):=by
 have hk:=h.kn
 obtain ⟨b1,b2,-,-,cm,hm⟩:=ow_blk h.row
 obtain ⟨-,-,-,-,cd',hd⟩:=ow_blk h.own.dims
 have hoff:∀ (b:Nat) (c:Array Value) (e:Nat) (f:Nat×Nat),w.heap[b]?=some (Obj.cells c e f)→e≠29→(w.setCell ⟨G k,x,none⟩ v).heap[b]?=w.heap[b]?:=fun b c e f hb he=>setCell_off _ _ _ _ _ (blk_ty hb hm he)
 refine ⟨⟨(hoff _ _ _ _ h.box (by decide)).trans h.box,h.low,⟨?_,fun i hi=>?_,h.own.apart⟩,h.ents.keep fun b cs e _ hg he=>hoff _ _ _ _ hg (by rcases he with rfl | rfl <;> decide),hk,h.n4,h.few,h.len⟩,fun w0 hb=>hb.setCell b1 _,KeepO.set hm (by decide)⟩
 ·have h1:=ow_off (j:=x) (u:=v) h.own.dims (own_ne h.own.dims hm (by decide))
  rwa [cellsDo_cg2 (D':=putD D k ⟨(D k).name,(D k).solve,(D k).n,M'⟩) (A':=fun i=>some ⟨G i,0,none⟩) (C':=C) n fun i _=>by
   by_cases e:i=k
   ·subst e;rw [putD_at];exact ⟨rfl,rfl,rfl,rfl,rfl⟩
   ·rw [putD_off D _ e];exact ⟨rfl,rfl,rfl,rfl,rfl⟩] at h1
 ·by_cases e:i=k
  ·subst e
   rw [putD_at]
   have h1:=(h.row.stored x v).1
   rwa [hM] at h1
  ·rw [putD_off D _ e]
   exact ow_off (h.own.mems i hi) fun e2=>h.own.apart i k hi hk e (Option.some.inj e2)
theorem DrA.newM (h:DrA w B q g cd n k ge ce D G C ys) {gm cm m':Nat} {M':Nat→Mem} (hB:B≤w.heap.size) (hg:w.grownBy w1 (some (G k))) (hrow:w1.ownsRow B 29 4 (.slice (some ⟨gm,0,none⟩) m' cm) m' (cellsMb M' m')) (hgm:gm=G k∨w.heap.size≤gm) :
  DrA (w1.setCell ⟨g,k*3+2,none⟩ (.slice (some ⟨gm,0,none⟩) m' cm)) B q g cd n k ge ce (putD D k ⟨(D k).name,(D k).solve,m',M'⟩) (fun i=>if i=k then gm else G i) (fun i=>if i=k then cm else C i) ys∧Lw B w (w1.setCell ⟨g,k*3+2,none⟩ (.slice (some ⟨gm,0,none⟩) m' cm)):=by
 have hk:=h.kn
 obtain ⟨bk1,bk2,-,-,cmk,hmk⟩:=ow_blk h.row
 obtain ⟨bd1,bd2,-,-,cd',hd⟩:=ow_blk h.own.dims
 obtain ⟨bm1,bm2,-,-,cm',hm'⟩:=ow_blk hrow
 have hoff:∀ (b:Nat) (c:Array Value) (e:Nat) (f:Nat×Nat),w.heap[b]?=some (Obj.cells c e f)→e≠29→w1.heap[b]?=w.heap[b]?:=fun b c e f hb he=>hg.block b (Array.getElem?_eq_some_iff.1 hb).1 fun e2=>blk_ty hb hmk he (Option.some.inj e2)
 have hd1:=(hoff _ _ _ _ hd (by decide)).trans hd
 have hoff2:∀ (b:Nat) (c:Array Value) (e:Nat) (f:Nat×Nat),w.heap[b]?=some (Obj.cells c e f)→e≠29→e≠32→(w1.setCell ⟨g,k*3+2,none⟩ (.slice (some ⟨gm,0,none⟩) m' cm)).heap[b]?=w.heap[b]?:=fun b c e f hb he he2=>(setCell_off _ _ _ _ _ (blk_ty ((hoff _ _ _ _ hb he).trans hb) hd1 he2)).trans (hoff _ _ _ _ hb he)
 refine ⟨⟨(hoff2 _ _ _ _ h.box (by decide) (by decide)).trans h.box,h.low,⟨?_,fun i hi=>?_,fun i j hi hj hne=>?_⟩,h.ents.keep fun b cs e _ hg he=>hoff2 _ _ _ _ hg (by rcases he with rfl | rfl <;> decide) (by rcases he with rfl | rfl <;> decide),hk,h.n4,h.few,h.len⟩,fun w0 hb=>(hb.grown hg hB fun j hj=>by cases hj;exact bk1).setCell bd1 _,(KeepO.grown hg hmk (by decide)).trans (KeepO.set hd1 (by decide))⟩
 ·have h1:=(ow_keep h.own.dims fun b cs _ hg2=>hoff _ _ _ _ hg2 (by decide))
  have h2:=(h1.stored (k*3+2) (.slice (some ⟨gm,0,none⟩) m' cm)).1
  rwa [show (cellsDo D (fun i=>some ⟨G i,0,none⟩) C n).set (k*3+2) (.slice (some ⟨gm,0,none⟩) m' cm)=cellsDo (putD D k ⟨(D k).name,(D k).solve,m',M'⟩) (fun i=>some ⟨if i=k then gm else G i,0,none⟩) (fun i=>if i=k then cm else C i) n from by
   refine List.ext_getElem? fun j=>?_
   rw [List.getElem?_set]
   by_cases hj:j<n*3
   ·obtain ⟨x0,x1,x2⟩:=cellsDo_at D (fun i=>some ⟨G i,0,none⟩) C n (j / 3) (by omega)
    obtain ⟨y0,y1,y2⟩:=cellsDo_at (putD D k ⟨(D k).name,(D k).solve,m',M'⟩) (fun i=>some ⟨if i=k then gm else G i,0,none⟩) (fun i=>if i=k then cm else C i) n (j / 3) (by omega)
    have hp:(putD D k ⟨(D k).name,(D k).solve,m',M'⟩ (j / 3)).name=(D (j / 3)).name∧(putD D k ⟨(D k).name,(D k).solve,m',M'⟩ (j / 3)).solve=(D (j / 3)).solve:=by
     by_cases e:j / 3=k
     ·rw [e,putD_at];exact ⟨rfl,rfl⟩
     ·rw [putD_off D _ e];exact ⟨rfl,rfl⟩
    rcases (by omega:j % 3=0∨j % 3=1∨j % 3=2) with e | e | e
    ·rw [if_neg (by omega),show j=j / 3*3 by omega,x0,y0,hp.1]
    ·rw [if_neg (by omega),show j=j / 3*3+1 by omega,x1,y1,hp.2]
    ·rw [show j=j / 3*3+2 by omega,x2,y2]
     by_cases e2:j / 3=k
     ·rw [if_pos (by omega),if_pos (by rw [cellsDo_len];omega),if_pos e2,if_pos e2,e2,putD_at]
     ·rw [if_neg (by omega),if_neg e2,if_neg e2,putD_off D _ e2]
   ·rw [if_neg (by omega),List.getElem?_eq_none (by rw [cellsDo_len];omega),List.getElem?_eq_none (by rw [cellsDo_len];omega)]] at h2
 ·by_cases e:i=k
  ·subst e
   rw [if_pos rfl,if_pos rfl,putD_at]
   exact ow_off hrow (own_ne hrow hd1 (by decide))
  ·rw [if_neg e,if_neg e,putD_off D _ e]
   have h1:w1.ownsRow B 29 4 (.slice (some ⟨G i,0,none⟩) (D i).n (C i)) (D i).n (cellsMb (D i).mem (D i).n):=(h.own.mems i hi).kept hg (Or.inr fun e2=>h.own.apart i k hi hk e (Option.some.inj e2))
   exact ow_off h1 (own_ne h1 hd1 (by decide))
 ·have hlt:∀ i,i<n→G i<w.heap.size:=fun i hi=>(ow_blk (h.own.mems i hi)).2.1
  by_cases e1:i=k
  ·rw [if_pos e1,if_neg (by omega)]
   have h1:=hlt j hj
   have h2:=h.own.apart k j hk hj (by omega)
   rcases hgm with e | e
   ·rw [e];exact h2
   ·omega
  ·rw [if_neg e1]
   by_cases e2:j=k
   ·rw [if_pos e2]
    have h1:=hlt i hi
    have h2:=h.own.apart i k hi hk e1
    rcases hgm with e | e
    ·rw [e];exact h2
    ·omega
   ·rw [if_neg e2]
    exact h.own.apart i j hi hj hne
theorem DrA.newE (h:DrA w B q g cd n k ge ce D G C ys) {ys':List EnL} (hB:B≤w.heap.size) (hg:w.grownBy w1 (some ge)) (he:OwE w1 B ge ce ys') (hf:ys'.length≤3000) (hl:∀ y∈ys',y.e.pl.length=n) :
  DrA (w1.setCell ⟨q,2,none⟩ (.slice (some ⟨ge,0,none⟩) ys'.length ce)) B q g cd n k ge ce D G C ys'∧Lw B w (w1.setCell ⟨q,2,none⟩ (.slice (some ⟨ge,0,none⟩) ys'.length ce)):=by
 obtain ⟨⟨cur,hc,-⟩,-⟩:=h.ents.row
 have hoff:∀ (b:Nat) (c:Array Value) (e:Nat) (f:Nat×Nat),w.heap[b]?=some (Obj.cells c e f)→e≠77→w1.heap[b]?=w.heap[b]?:=fun b c e f hb he=>hg.block b (Array.getElem?_eq_some_iff.1 hb).1 fun e2=>blk_ty hb hc he (Option.some.inj e2)
 have hq1:=(hoff _ _ _ _ h.box (by decide)).trans h.box
 have hoff2:∀ (b:Nat) (c:Array Value) (e:Nat) (f:Nat×Nat),w1.heap[b]?=some (Obj.cells c e f)→e≠63→(w1.setCell ⟨q,2,none⟩ (.slice (some ⟨ge,0,none⟩) ys'.length ce)).heap[b]?=w1.heap[b]?:=fun b c e f hb he=>setCell_off _ _ _ _ _ (blk_ty hb hq1 he)
 refine ⟨⟨?_,h.low,h.own.keep fun b cs e _ hg2 he2=>?_,he.keep fun b cs e _ hg2 he2=>hoff2 _ _ _ _ hg2 (by rcases he2 with rfl | rfl <;> decide),h.kn,h.n4,hf,hl⟩,fun w0 hb=>(hb.grown hg hB fun j hj=>by cases hj;exact h.ents.low).setCell h.low _,(KeepO.grown hg hc (by decide)).trans (KeepO.set hq1 (by decide))⟩
 ·rw [set_tyD hq1]
  rfl
 ·have h1:=hoff _ _ _ _ hg2 (by rcases he2 with rfl | rfl <;> decide)
  exact (hoff2 _ _ _ _ (h1.trans hg2) (by rcases he2 with rfl | rfl <;> decide)).trans h1
def setPl (ys:List EnL) (j k:Nat) (v:Int):List EnL:=ys.set j ⟨⟨(ys.getD j noL).e.pl.set k v,(ys.getD j noL).e.n⟩,(ys.getD j noL).A,(ys.getD j noL).c⟩
theorem cellsE_same {xs:List EnL} {x:EnL}:∀ {j:Nat},j<xs.length→x.A=(xs.getD j noL).A→x.c=(xs.getD j noL).c→x.e.pl.length=(xs.getD j noL).e.pl.length→x.e.n=(xs.getD j noL).e.n→cellsE (xs.set j x)=cellsE xs:=by
 induction xs with
 | nil=>intro j h;cases h
 | cons y r ih =>
  intro j hj h1 h2 h3 h4
  cases j with
  | zero=>simp only [List.set_cons_zero,cellsE,List.getD_cons_zero] at h1 h2 h3 h4 ⊢;rw [h1,h2,h3,h4]
  | succ j =>
   simp only [List.set_cons_succ,cellsE,List.getD_cons_succ] at h1 h2 h3 h4 ⊢
   rw [ih (by simpa using hj) h1 h2 h3 h4]
theorem pair_setA {ys:List EnL} {j:Nat} {x:EnL} (h:ys.Pairwise fun a b=>a.A≠b.A) (hx:x.A=(ys.getD j noL).A) (hj:j<ys.length):(ys.set j x).Pairwise fun a b=>a.A≠b.A:=by
 have h1:((ys.map EnL.A).Pairwise fun a b=>a≠b):=List.pairwise_map.2 h
 have h2:(ys.set j x).map EnL.A=ys.map EnL.A:=by
  rw [List.map_set]
  refine List.ext_getElem? fun i=>?_
  rw [List.getElem?_set]
  split
  ·rename_i e
   subst e
   rw [if_pos (by simpa using hj),hx,List.getD_eq_getElem?_getD,List.getElem?_eq_getElem hj]
   simp [hj]
  ·rfl
 rw [←h2] at h1
 exact List.pairwise_map.1 h1
theorem DrA.setE (h:DrA w B q g cd n k ge ce D G C ys) {j gp:Nat} {v:Int} (hj:j<ys.length) (hA:(ys.getD j noL).A=some ⟨gp,0,none⟩) :
  DrA (w.setCell ⟨gp,k,none⟩ (.int .i64 v)) B q g cd n k ge ce D G C (setPl ys j k v)∧Lw B w (w.setCell ⟨gp,k,none⟩ (.int .i64 v)):=by
 obtain ⟨g1,e1,o1⟩:=h.ents.each _ (enl_mem hj)
 obtain ⟨bp,-,-,-,cp,hp⟩:=ow_blk o1
 rw [hA] at e1
 obtain rfl:gp=g1:=by cases e1;rfl
 have hoff:∀ (b:Nat) (c:Array Value) (e:Nat) (f:Nat×Nat),w.heap[b]?=some (Obj.cells c e f)→e≠3→(w.setCell ⟨gp,k,none⟩ (.int .i64 v)).heap[b]?=w.heap[b]?:=fun b c e f hb he=>setCell_off _ _ _ _ _ (blk_ty hb hp he)
 have hlen:(setPl ys j k v).length=ys.length:=by unfold setPl;simp
 have hgd:∀ i,i<ys.length→(ys.getD i noL).A=some ⟨gp,0,none⟩→i=j:=fun i hi e=>by
  have hpw:=List.pairwise_iff_getElem.1 h.ents.apart
  rcases Nat.lt_trichotomy i j with h1 | h1 | h1
  ·have:=hpw i j hi hj h1
   simp only [List.getD_eq_getElem?_getD,List.getElem?_eq_getElem hi,List.getElem?_eq_getElem hj,Option.getD_some] at e hA
   exact absurd (e.trans hA.symm) this
  ·exact h1
  ·have:=hpw j i hj hi h1
   simp only [List.getD_eq_getElem?_getD,List.getElem?_eq_getElem hi,List.getElem?_eq_getElem hj,Option.getD_some] at e hA
   exact absurd (hA.trans e.symm) this
 have hx:PlO (w.setCell ⟨gp,k,none⟩ (.int .i64 v)) B (ys.getD j noL).A (ys.getD j noL).c ((ys.getD j noL).e.pl.set k v):=by
  refine ⟨gp,hA,?_⟩
  have h1:=(o1.stored k (.int .i64 v)).1
  rw [List.length_set]
  rwa [show (mapI (ys.getD j noL).e.pl).set k (.int .i64 v)=mapI ((ys.getD j noL).e.pl.set k v) by simp [mapI,List.map_set]] at h1
 have hea:∀ y∈setPl ys j k v,PlO (w.setCell ⟨gp,k,none⟩ (.int .i64 v)) B y.A y.c y.e.pl:=fun y hy=>by
  obtain ⟨i,hi,rfl⟩:=List.getElem_of_mem hy
  have hge:(setPl ys j k v)[i]=if j=i then ⟨⟨(ys.getD j noL).e.pl.set k v,(ys.getD j noL).e.n⟩,(ys.getD j noL).A,(ys.getD j noL).c⟩ else ys[i]'(by rw [←hlen];exact hi):=List.getElem_set ..
  rw [hge]
  rw [hlen] at hi
  split
  ·exact hx
  ·rename_i hne
   refine (h.ents.each _ (List.getElem_mem hi)).off fun b hb e=>hne ?_
   rw [e] at hb
   exact (hgd i hi (by rw [List.getD_eq_getElem?_getD,List.getElem?_eq_getElem hi];exact hb)).symm
 refine ⟨⟨?_,h.low,h.own.keep fun b cs e _ hg2 he2=>hoff _ _ _ _ hg2 (by rcases he2 with rfl | rfl <;> decide),⟨?_,h.ents.low,hea,?_⟩,h.kn,h.n4,by rw [hlen];exact h.few,fun y hy=>?_⟩,fun w0 hb=>hb.setCell bp _,KeepO.set hp (by decide)⟩
 ·rw [hlen]
  exact (hoff _ _ _ _ h.box (by decide)).trans h.box
 ·obtain ⟨⟨cur,hc,h2,h3⟩,h4,h5,h6⟩:=h.ents.row
  refine ⟨⟨cur,(hoff _ _ _ _ hc (by decide)).trans hc,h2,?_⟩,by rw [hlen];exact h4,h5,fun y hy=>(hea y hy).ty⟩
  rw [hlen,h3]
  exact (cellsE_same (x:=⟨⟨(ys.getD j noL).e.pl.set k v,(ys.getD j noL).e.n⟩,(ys.getD j noL).A,(ys.getD j noL).c⟩) hj rfl rfl (by simp) rfl).symm
 ·exact pair_setA h.ents.apart rfl hj
 ·rcases List.mem_or_eq_of_mem_set hy with hy | rfl
  ·exact h.len y hy
  ·rw [List.length_set]
   exact h.len _ (enl_mem hj)
end
end Go.Proofs.YtglekooldbeklaaGreatDoor
