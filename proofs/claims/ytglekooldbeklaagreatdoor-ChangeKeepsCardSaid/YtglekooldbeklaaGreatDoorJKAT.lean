/-
  What is written into a draft: a member's cell, another row of members, other entries, a place's number.
-/
import Derived.Test.YtglekooldbeklaaGreatDoorJKAS
namespace Go.Proofs.YtglekooldbeklaaGreatDoor
open Go.ChangeShapes Go.WideShapes Go.ChangeAt Go.RowKit Go.Lib
set_option maxRecDepth 100000
theorem cellsDo_cg2 {D D':Nat→Dm} {A A':Nat→Option Addr} {C C':Nat→Nat}:∀ k,(∀ i,i<k→(D i).name=(D' i).name∧(D i).solve=(D' i).solve∧(D i).n=(D' i).n∧A i=A' i∧C i=C' i)→cellsDo D A C k=cellsDo D' A' C' k
 | 0,_=>rfl
 | k+1,h=>by
  obtain ⟨h1,h2,h3,h4,h5⟩:=h k (by omega)
  rw [cellsDo,cellsDo,cellsDo_cg2 k fun i hi=>h i (by omega),h1,h2,h3,h4,h5]
theorem blk_ty {w:World} {a b e e':Nat} {c c':Array Value} {f f':Nat×Nat} (h:w.heap[a]?=some (.cells c e f)) (h':w.heap[b]?=some (.cells c' e' f')) (hne:e≠e'):a≠b:=fun x=>by
 rw [x,h'] at h
 simp only [Option.some.injEq,Obj.cells.injEq] at h
 exact hne h.2.1.symm
def KeepO (w w':World):Prop := ∀ (b:Nat) (c:Array Value) (f:Nat×Nat),w.heap[b]?=some (Obj.cells c 24 f)→w'.heap[b]?=some (Obj.cells c 24 f)
theorem KeepO.trans {w w1 w2:World} (h:KeepO w w1) (h':KeepO w1 w2):KeepO w w2:=fun b c f hb=>h' b c f (h b c f hb)
theorem KeepO.set {w:World} {g x e:Nat} {c:Array Value} {f:Nat×Nat} {v:Value} (hg:w.heap[g]?=some (.cells c e f)) (he:e≠24):KeepO w (w.setCell ⟨g,x,none⟩ v):=fun _ _ _ hb=>(setCell_off _ _ _ _ _ (blk_ty hb hg fun e'=>he e'.symm)).trans hb
theorem KeepO.grown {w w':World} {g e:Nat} {c:Array Value} {f:Nat×Nat} (h:w.grownBy w' (some g)) (hg:w.heap[g]?=some (.cells c e f)) (he:e≠24):KeepO w w':=fun b _ _ hb=>(h.block b (Array.getElem?_eq_some_iff.1 hb).1 fun e2=>blk_ty hb hg (fun e'=>he e'.symm) (Option.some.inj e2)).trans hb
def Lw (B:Nat) (w w':World):Prop:=(∀ w0,Below B w0 w→Below B w0 w')∧KeepO w w'
theorem Lw.trans {B:Nat} {w w1 w2:World} (h:Lw B w w1) (h':Lw B w1 w2):Lw B w w2:=⟨fun w0 h0=>h'.1 w0 (h.1 w0 h0),h.2.trans h'.2⟩
theorem Lw.of {B:Nat} {w w':World} (hB:B≤w.heap.size) (hb:Below w.heap.size w w'):Lw B w w':=⟨fun _ h0=>h0.trans (hb.mono hB),fun b _ _ hg=>(hb.block b (Array.getElem?_eq_some_iff.1 hg).1).trans hg⟩
section
variable {w w1:World} {B q g cd n k ge ce:Nat} {D:Nat→Dm} {G C:Nat→Nat} {ys:List EnL}
theorem DrA.setM (h:DrA w B q g cd n k ge ce D G C ys) {x:Nat} {v:Value} {M':Nat→Mem} (hM:(cellsMb (D k).mem (D k).n).set x v=cellsMb M' (D k).n) :
  DrA (w.setCell ⟨G k,x,none⟩ v) B q g cd n k ge ce (putD D k ⟨(D k).name,(D k).solve,(D k).n,M'⟩) G C ys∧Lw B w (w.setCell ⟨G k,x,none⟩ v):=by
 have hk:=h.kn
 obtain ⟨b1,b2,-,-,cm,hm⟩:=ow_blk h.row
 obtain ⟨-,-,-,-,cd',hd⟩:=ow_blk h.own.dims
 have hoff:∀ (b:Nat) (c:Array Value) (e:Nat) (f:Nat×Nat),w.heap[b]?=some (Obj.cells c e f)→e≠29→(w.setCell ⟨G k,x,none⟩ v).heap[b]?=w.heap[b]?:=fun b c e f hb he=>setCell_off _ _ _ _ _ (blk_ty hb hm he)
 refine ⟨⟨(hoff _ _ _ _ h.box (by decide)).trans h.box,h.low,⟨?_,fun i hi=>?_,h.own.apart⟩,h.ents.keep fun b cs e _ hg he=>hoff _ _ _ _ hg (by rcases he with rfl | rfl <;> decide),hk,h.n4,h.few,h.len⟩,fun w0 hb=>hb.setCell b1 _,KeepO.set hm (by decide)⟩
 ·have h1:=ow_off (j:=x) (u:=v) h.own.dims (own_ne h.own.dims hm (by decide))
  rwa [cellsDo_cg2 (D':=putD D k ⟨(D k).name,(D k).solve,(D k).n,M'⟩) (A':=fun i=>some ⟨G i,0,none⟩) (C':=C) n fun i _=>by
   by_cases e:i=k
   ·subst e;rw [putD_at];exact ⟨rfl,rfl,rfl,rfl,rfl⟩
   ·rw [putD_off D _ e];exact ⟨rfl,rfl,rfl,rfl,rfl⟩] at h1
 ·by_cases e:i=k
  ·subst e
   rw [putD_at]
   have h1:=(h.row.stored x v).1
   rwa [hM] at h1
  ·rw [putD_off D _ e]
   exact ow_off (h.own.mems i hi) fun e2=>h.own.apart i k hi hk e (Option.some.inj e2)
theorem DrA.newM (h:DrA w B q g cd n k ge ce D G C ys) {gm cm m':Nat} {M':Nat→Mem} (hB:B≤w.heap.size) (hg:w.grownBy w1 (some (G k))) (hrow:w1.ownsRow B 29 4 (.slice (some ⟨gm,0,none⟩) m' cm) m' (cellsMb M' m')) (hgm:gm=G k∨w.heap.size≤gm) :
  DrA (w1.setCell ⟨g,k*3+2,none⟩ (.slice (some ⟨gm,0,none⟩) m' cm)) B q g cd n k ge ce (putD D k ⟨(D k).name,(D k).solve,m',M'⟩) (fun i=>if i=k then gm else G i) (fun i=>if i=k then cm else C i) ys∧Lw B w (w1.setCell ⟨g,k*3+2,none⟩ (.slice (some ⟨gm,0,none⟩) m' cm)):=by
 have hk:=h.kn
 obtain ⟨bk1,bk2,-,-,cmk,hmk⟩:=ow_blk h.row
 obtain ⟨bd1,bd2,-,-,cd',hd⟩:=ow_blk h.own.dims
 obtain ⟨bm1,bm2,-,-,cm',hm'⟩:=ow_blk hrow
 have hoff:∀ (b:Nat) (c:Array Value) (e:Nat) (f:Nat×Nat),w.heap[b]?=some (Obj.cells c e f)→e≠29→w1.heap[b]?=w.heap[b]?:=fun b c e f hb he=>hg.block b (Array.getElem?_eq_some_iff.1 hb).1 fun e2=>blk_ty hb hmk he (Option.some.inj e2)
 have hd1:=(hoff _ _ _ _ hd (by decide)).trans hd
 have hoff2:∀ (b:Nat) (c:Array Value) (e:Nat) (f:Nat×Nat),w.heap[b]?=some (Obj.cells c e f)→e≠29→e≠32→(w1.setCell ⟨g,k*3+2,none⟩ (.slice (some ⟨gm,0,none⟩) m' cm)).heap[b]?=w.heap[b]?:=fun b c e f hb he he2=>(setCell_off _ _ _ _ _ (blk_ty ((hoff _ _ _ _ hb he).trans hb) hd1 he2)).trans (hoff _ _ _ _ hb he)
 refine ⟨⟨(hoff2 _ _ _ _ h.box (by decide) (by decide)).trans h.box,h.low,⟨?_,fun i hi=>?_,fun i j hi hj hne=>?_⟩,h.ents.keep fun b cs e _ hg he=>hoff2 _ _ _ _ hg (by rcases he with rfl | rfl <;> decide) (by rcases he with rfl | rfl <;> decide),hk,h.n4,h.few,h.len⟩,fun w0 hb=>(hb.grown hg hB fun j hj=>by cases hj;exact bk1).setCell bd1 _,(KeepO.grown hg hmk (by decide)).trans (KeepO.set hd1 (by decide))⟩
 ·have h1:=(ow_keep h.own.dims fun b cs _ hg2=>hoff _ _ _ _ hg2 (by decide))
  have h2:=(h1.stored (k*3+2) (.slice (some ⟨gm,0,none⟩) m' cm)).1
  rwa [show (cellsDo D (fun i=>some ⟨G i,0,none⟩) C n).set (k*3+2) (.slice (some ⟨gm,0,none⟩) m' cm)=cellsDo (putD D k ⟨(D k).name,(D k).solve,m',M'⟩) (fun i=>some ⟨if i=k then gm else G i,0,none⟩) (fun i=>if i=k then cm else C i) n from by
   refine List.ext_getElem? fun j=>?_
   rw [List.getElem?_set]
   by_cases hj:j<n*3
   ·obtain ⟨x0,x1,x2⟩:=cellsDo_at D (fun i=>some ⟨G i,0,none⟩) C n (j / 3) (by omega)
    obtain ⟨y0,y1,y2⟩:=cellsDo_at (putD D k ⟨(D k).name,(D k).solve,m',M'⟩) (fun i=>some ⟨if i=k then gm else G i,0,none⟩) (fun i=>if i=k then cm else C i) n (j / 3) (by omega)
    have hp:(putD D k ⟨(D k).name,(D k).solve,m',M'⟩ (j / 3)).name=(D (j / 3)).name∧(putD D k ⟨(D k).name,(D k).solve,m',M'⟩ (j / 3)).solve=(D (j / 3)).solve:=by
     by_cases e:j / 3=k
     ·rw [e,putD_at];exact ⟨rfl,rfl⟩
     ·rw [putD_off D _ e];exact ⟨rfl,rfl⟩
    rcases (by omega:j % 3=0∨j % 3=1∨j % 3=2) with e | e | e
    ·rw [if_neg (by omega),show j=j / 3*3 by omega,x0,y0,hp.1]
    ·rw [if_neg (by omega),show j=j / 3*3+1 by omega,x1,y1,hp.2]
    ·rw [show j=j / 3*3+2 by omega,x2,y2]
     by_cases e2:j / 3=k
     ·rw [if_pos (by omega),if_pos (by rw [cellsDo_len];omega),if_pos e2,if_pos e2,e2,putD_at]
     ·rw [if_neg (by omega),if_neg e2,if_neg e2,putD_off D _ e2]
   ·rw [if_neg (by omega),List.getElem?_eq_none (by rw [cellsDo_len];omega),List.getElem?_eq_none (by rw [cellsDo_len];omega)]] at h2
 ·by_cases e:i=k
  ·subst e
   rw [if_pos rfl,if_pos rfl,putD_at]
   exact ow_off hrow (own_ne hrow hd1 (by decide))
  ·rw [if_neg e,if_neg e,putD_off D _ e]
   have h1:w1.ownsRow B 29 4 (.slice (some ⟨G i,0,none⟩) (D i).n (C i)) (D i).n (cellsMb (D i).mem (D i).n):=(h.own.mems i hi).kept hg (Or.inr fun e2=>h.own.apart i k hi hk e (Option.some.inj e2))
   exact ow_off h1 (own_ne h1 hd1 (by decide))
 ·have hlt:∀ i,i<n→G i<w.heap.size:=fun i hi=>(ow_blk (h.own.mems i hi)).2.1
  by_cases e1:i=k
  ·rw [if_pos e1,if_neg (by omega)]
   have h1:=hlt j hj
   have h2:=h.own.apart k j hk hj (by omega)
   rcases hgm with e | e
   ·rw [e];exact h2
   ·omega
  ·rw [if_neg e1]
   by_cases e2:j=k
   ·rw [if_pos e2]
    have h1:=hlt i hi
    have h2:=h.own.apart i k hi hk e1
    rcases hgm with e | e
    ·rw [e];exact h2
    ·omega
   ·rw [if_neg e2]
    exact h.own.apart i j hi hj hne
theorem DrA.newE (h:DrA w B q g cd n k ge ce D G C ys) {ys':List EnL} (hB:B≤w.heap.size) (hg:w.grownBy w1 (some ge)) (he:OwE w1 B ge ce ys') (hf:ys'.length≤3000) (hl:∀ y∈ys',y.e.pl.length=n) :
  DrA (w1.setCell ⟨q,2,none⟩ (.slice (some ⟨ge,0,none⟩) ys'.length ce)) B q g cd n k ge ce D G C ys'∧Lw B w (w1.setCell ⟨q,2,none⟩ (.slice (some ⟨ge,0,none⟩) ys'.length ce)):=by
 obtain ⟨⟨cur,hc,-⟩,-⟩:=h.ents.row
 have hoff:∀ (b:Nat) (c:Array Value) (e:Nat) (f:Nat×Nat),w.heap[b]?=some (Obj.cells c e f)→e≠77→w1.heap[b]?=w.heap[b]?:=fun b c e f hb he=>hg.block b (Array.getElem?_eq_some_iff.1 hb).1 fun e2=>blk_ty hb hc he (Option.some.inj e2)
 have hq1:=(hoff _ _ _ _ h.box (by decide)).trans h.box
 have hoff2:∀ (b:Nat) (c:Array Value) (e:Nat) (f:Nat×Nat),w1.heap[b]?=some (Obj.cells c e f)→e≠63→(w1.setCell ⟨q,2,none⟩ (.slice (some ⟨ge,0,none⟩) ys'.length ce)).heap[b]?=w1.heap[b]?:=fun b c e f hb he=>setCell_off _ _ _ _ _ (blk_ty hb hq1 he)
 refine ⟨⟨?_,h.low,h.own.keep fun b cs e _ hg2 he2=>?_,he.keep fun b cs e _ hg2 he2=>hoff2 _ _ _ _ hg2 (by rcases he2 with rfl | rfl <;> decide),h.kn,h.n4,hf,hl⟩,fun w0 hb=>(hb.grown hg hB fun j hj=>by cases hj;exact h.ents.low).setCell h.low _,(KeepO.grown hg hc (by decide)).trans (KeepO.set hq1 (by decide))⟩
 ·rw [set_tyD hq1]
  rfl
 ·have h1:=hoff _ _ _ _ hg2 (by rcases he2 with rfl | rfl <;> decide)
  exact (hoff2 _ _ _ _ (h1.trans hg2) (by rcases he2 with rfl | rfl <;> decide)).trans h1
def setPl (ys:List EnL) (j k:Nat) (v:Int):List EnL:=ys.set j ⟨⟨(ys.getD j noL).e.pl.set k v,(ys.getD j noL).e.n⟩,(ys.getD j noL).A,(ys.getD j noL).c⟩
theorem cellsE_same {xs:List EnL} {x:EnL}:∀ {j:Nat},j<xs.length→x.A=(xs.getD j noL).A→x.c=(xs.getD j noL).c→x.e.pl.length=(xs.getD j noL).e.pl.length→x.e.n=(xs.getD j noL).e.n→cellsE (xs.set j x)=cellsE xs:=by
 induction xs with
 | nil=>intro j h;cases h
 | cons y r ih =>
  intro j hj h1 h2 h3 h4
  cases j with
  | zero=>simp only [List.set_cons_zero,cellsE,List.getD_cons_zero] at h1 h2 h3 h4 ⊢;rw [h1,h2,h3,h4]
  | succ j =>
   simp only [List.set_cons_succ,cellsE,List.getD_cons_succ] at h1 h2 h3 h4 ⊢
   rw [ih (by simpa using hj) h1 h2 h3 h4]
theorem pair_setA {ys:List EnL} {j:Nat} {x:EnL} (h:ys.Pairwise fun a b=>a.A≠b.A) (hx:x.A=(ys.getD j noL).A) (hj:j<ys.length):(ys.set j x).Pairwise fun a b=>a.A≠b.A:=by
 have h1:((ys.map EnL.A).Pairwise fun a b=>a≠b):=List.pairwise_map.2 h
 have h2:(ys.set j x).map EnL.A=ys.map EnL.A:=by
  rw [List.map_set]
  refine List.ext_getElem? fun i=>?_
  rw [List.getElem?_set]
  split
  ·rename_i e
   subst e
   rw [if_pos (by simpa using hj),hx,List.getD_eq_getElem?_getD,List.getElem?_eq_getElem hj]
   simp [hj]
  ·rfl
 rw [←h2] at h1
 exact List.pairwise_map.1 h1
theorem DrA.setE (h:DrA w B q g cd n k ge ce D G C ys) {j gp:Nat} {v:Int} (hj:j<ys.length) (hA:(ys.getD j noL).A=some ⟨gp,0,none⟩) :
  DrA (w.setCell ⟨gp,k,none⟩ (.int .i64 v)) B q g cd n k ge ce D G C (setPl ys j k v)∧Lw B w (w.setCell ⟨gp,k,none⟩ (.int .i64 v)):=by
 obtain ⟨g1,e1,o1⟩:=h.ents.each _ (enl_mem hj)
 obtain ⟨bp,-,-,-,cp,hp⟩:=ow_blk o1
 rw [hA] at e1
 obtain rfl:gp=g1:=by cases e1;rfl
 have hoff:∀ (b:Nat) (c:Array Value) (e:Nat) (f:Nat×Nat),w.heap[b]?=some (Obj.cells c e f)→e≠3→(w.setCell ⟨gp,k,none⟩ (.int .i64 v)).heap[b]?=w.heap[b]?:=fun b c e f hb he=>setCell_off _ _ _ _ _ (blk_ty hb hp he)
 have hlen:(setPl ys j k v).length=ys.length:=by unfold setPl;simp
 have hgd:∀ i,i<ys.length→(ys.getD i noL).A=some ⟨gp,0,none⟩→i=j:=fun i hi e=>by
  have hpw:=List.pairwise_iff_getElem.1 h.ents.apart
  rcases Nat.lt_trichotomy i j with h1 | h1 | h1
  ·have:=hpw i j hi hj h1
   simp only [List.getD_eq_getElem?_getD,List.getElem?_eq_getElem hi,List.getElem?_eq_getElem hj,Option.getD_some] at e hA
   exact absurd (e.trans hA.symm) this
  ·exact h1
  ·have:=hpw j i hj hi h1
   simp only [List.getD_eq_getElem?_getD,List.getElem?_eq_getElem hi,List.getElem?_eq_getElem hj,Option.getD_some] at e hA
   exact absurd (hA.trans e.symm) this
 have hx:PlO (w.setCell ⟨gp,k,none⟩ (.int .i64 v)) B (ys.getD j noL).A (ys.getD j noL).c ((ys.getD j noL).e.pl.set k v):=by
  refine ⟨gp,hA,?_⟩
  have h1:=(o1.stored k (.int .i64 v)).1
  rw [List.length_set]
  rwa [show (mapI (ys.getD j noL).e.pl).set k (.int .i64 v)=mapI ((ys.getD j noL).e.pl.set k v) by simp [mapI,List.map_set]] at h1
 have hea:∀ y∈setPl ys j k v,PlO (w.setCell ⟨gp,k,none⟩ (.int .i64 v)) B y.A y.c y.e.pl:=fun y hy=>by
  obtain ⟨i,hi,rfl⟩:=List.getElem_of_mem hy
  have hge:(setPl ys j k v)[i]=if j=i then ⟨⟨(ys.getD j noL).e.pl.set k v,(ys.getD j noL).e.n⟩,(ys.getD j noL).A,(ys.getD j noL).c⟩ else ys[i]'(by rw [←hlen];exact hi):=List.getElem_set ..
  rw [hge]
  rw [hlen] at hi
  split
  ·exact hx
  ·rename_i hne
   refine (h.ents.each _ (List.getElem_mem hi)).off fun b hb e=>hne ?_
   rw [e] at hb
   exact (hgd i hi (by rw [List.getD_eq_getElem?_getD,List.getElem?_eq_getElem hi];exact hb)).symm
 refine ⟨⟨?_,h.low,h.own.keep fun b cs e _ hg2 he2=>hoff _ _ _ _ hg2 (by rcases he2 with rfl | rfl <;> decide),⟨?_,h.ents.low,hea,?_⟩,h.kn,h.n4,by rw [hlen];exact h.few,fun y hy=>?_⟩,fun w0 hb=>hb.setCell bp _,KeepO.set hp (by decide)⟩
 ·rw [hlen]
  exact (hoff _ _ _ _ h.box (by decide)).trans h.box
 ·obtain ⟨⟨cur,hc,h2,h3⟩,h4,h5,h6⟩:=h.ents.row
  refine ⟨⟨cur,(hoff _ _ _ _ hc (by decide)).trans hc,h2,?_⟩,by rw [hlen];exact h4,h5,fun y hy=>(hea y hy).ty⟩
  rw [hlen,h3]
  exact (cellsE_same (x:=⟨⟨(ys.getD j noL).e.pl.set k v,(ys.getD j noL).e.n⟩,(ys.getD j noL).A,(ys.getD j noL).c⟩) hj rfl rfl (by simp) rfl).symm
 ·exact pair_setA h.ents.apart rfl hj
 ·rcases List.mem_or_eq_of_mem_set hy with hy | rfl
  ·exact h.len y hy
  ·rw [List.length_set]
   exact h.len _ (enl_mem hj)
end
def addD (d:Dm) (m:Mem):Dm:=⟨d.name,d.solve,d.n+1,fun j=>if j=d.n then m else d.mem j⟩
def putM (M:Nat→Mem) (i:Nat) (m:Mem):Nat→Mem:=fun j=>if j=i then m else M j
def setMb (d:Dm) (i:Nat) (m:Mem):Dm:=⟨d.name,d.solve,d.n,putM d.mem i m⟩
theorem cellsMb_set {M:Nat→Mem} {n i f:Nat} {v:Value} {m:Mem} (hi:i<n) (hf:f<4) (hv:mcV (fun _=>m) f=v) (hm:∀ f',f'<4→f'≠f→mcV (fun _=>m) f'=mcV (fun _=>M i) f'):(cellsMb M n).set (i*4+f) v=cellsMb (putM M i m) n:=by
 rw [←rowF_mc,←rowF_mc]
 refine List.ext_getElem? fun j=>?_
 rw [List.getElem?_set]
 by_cases hj:j<n*4
 ·rw [rowF_get _ hj,rowF_get _ hj]
  have e1:∀ (M:Nat→Mem),mcV M j=mcV (fun _=>M (j / 4)) (j % 4):=fun M=>by
   unfold mcV
   rw [Nat.mod_mod]
  rw [e1 M,e1 (putM M i m)]
  by_cases e:j / 4=i
  ·rw [show putM M i m (j / 4)=m from if_pos e]
   by_cases e2:j % 4=f
   ·rw [if_pos (by omega),if_pos (by rw [rowF_len];omega),e2,hv]
   ·rw [if_neg (by omega),hm _ (by omega) e2,e]
  ·rw [show putM M i m (j / 4)=M (j / 4) from if_neg e,if_neg (by omega)]
 ·rw [if_neg (by omega),List.getElem?_eq_none (by rw [rowF_len];omega),List.getElem?_eq_none (by rw [rowF_len];omega)]
def Drawn (w:World) (B q g cd n k ge ce:Nat) (D:Nat→Dm) (l:List En):Prop := ∃ G C ys,DrA w B q g cd n k ge ce D G C ys∧lE ys=l
def MPost (w:World) (B q g cd n k ge ce:Nat) (D:Nat→Dm) (E:Int) (d':Dm) (l':List En) (e:Ending) (w':World):Prop:=e=.returned (errV E)∧(E=0→Drawn w' B q g cd n k ge ce (putD D k d') l')∧Lw B w w'
theorem MPost.bad {w w':World} {B q g cd n k ge ce:Nat} {D:Nat→Dm} {E:Int} {d':Dm} {l':List En} (hE:E≠0) (hB:B≤w.heap.size) (hb:Below w.heap.size w w'):MPost w B q g cd n k ge ce D E d' l' (.returned (errV E)) w' :=
 ⟨rfl,fun h=>absurd h hE,Lw.of hB hb⟩
def resE (s:Int):Int:=if s < -1∨1<s then 1 else 0
def resD (d:Dm) (i:Nat) (s:Int):Dm:=setMb d i ⟨(d.mem i).name,(d.mem i).parent,s,(d.mem i).formula⟩
set_option maxHeartbeats 1000000 in
theorem resign_any (B q g cd n k ge ce:Nat) (D:Nat→Dm) (G C:Nat→Nat) (ys:List EnL) (i:Nat) (s:Int) (w:World) (hB:B≤w.heap.size) (hi:i<(D k).n) (hn:(D k).n≤12) (h:DrA w B q g cd n k ge ce D G C ys) :
  Calls Tryz.prog 40 #[.pointer (some ⟨q,0,none⟩),.int .i64 i,.int .i64 s] w (MPost w B q g cd n k ge ce D (resE s) (resD (D k) i s) (lE ys)):=by
 by_cases h1:s < -1
 ·rw [show resE s=1 from if_pos (Or.inl h1)]
  have hF:=hid_of (MPost.bad (q:=q) (g:=g) (cd:=cd) (n:=n) (k:=k) (ge:=ge) (ce:=ce) (D:=D) (d':=resD (D k) i s) (l':=lE ys) (show (1:Int)≠0 by decide) hB (Below.refl _ w))
  clear h
  go_enter Tryz.func40,Tryz.ntmps40
  go_wp2_with fail
  go_ret
  exact hF.out
 by_cases h2:1<s
 ·rw [show resE s=1 from if_pos (Or.inr h2)]
  have hF:=hid_of (MPost.bad (q:=q) (g:=g) (cd:=cd) (n:=n) (k:=k) (ge:=ge) (ce:=ce) (D:=D) (d':=resD (D k) i s) (l':=lE ys) (show (1:Int)≠0 by decide) hB (Below.refl _ w))
  have h1' : -1≤s:=by omega
  clear h h1
  go_enter Tryz.func40,Tryz.ntmps40
  go_wp2_with fail
  go_ret
  exact hF.out
 rw [show resE s=0 from if_neg (by omega)]
 obtain ⟨c0,c1,c2,-⟩:=h.cells
 obtain ⟨-,-,d2,-⟩:=h.dim
 have hx:=(h.row.cellAt (i*4+2) (by omega)).trans (cellsMb_at (D k).mem (D k).n i hi).2.2.1
 have hfz:=h.row.frozenAt (i*4+2)
 have hF:Hid (MPost w B q g cd n k ge ce D 0 (resD (D k) i s) (lE ys) (.returned (errV 0)) (w.setCell ⟨G k,i*4+2,none⟩ (.int .i64 s))):=by
  obtain ⟨r1,r2⟩:=h.setM (x:=i*4+2) (v:=.int .i64 s) (M':=(resD (D k) i s).mem) (cellsMb_set hi (by omega) rfl fun f hf hne=>by
   have:f=0∨f=1∨f=3:=by omega
   rcases this with rfl | rfl | rfl <;> rfl)
  exact ⟨rfl,fun _=>⟨G,C,ys,r1,rfl⟩,r2⟩
 have hiI:(i:Int)<((D k).n:Int):=by omega
 have hnI:((D k).n:Int)≤12:=by omega
 have hcI:((D k).n:Int)≤(C k:Int):=by have:=(ow_blk h.row).2.2.1;omega
 have h1' : -1≤s:=by omega
 have h2':s≤1:=by omega
 generalize G k=gk at d2 hx hfz hF
 generalize C k=ck at d2 hcI
 generalize (D k).n=m at d2 hiI hnI hcI
 clear h h1 h2 hn hi
 go_enter Tryz.func40,Tryz.ntmps40
 go_wp2_with fail
 go_ret
 exact hF.out
def moveE (d:Dm) (l:List En) (k i:Nat) (tt:Int):Int:=if tt < -1∨(i:Int)≤tt then 1 else if tt=(d.mem i).parent∨wrAt l k tt=true∨(tt≠-1∧(d.mem tt.toNat).formula.size≠0) then 6 else 0
def movD (d:Dm) (i:Nat) (tt:Int):Dm:=setMb d i ⟨(d.mem i).name,tt,(d.mem i).sign,(d.mem i).formula⟩
set_option maxHeartbeats 2000000 in
theorem move_any (B q g cd n k ge ce:Nat) (D:Nat→Dm) (G C:Nat→Nat) (ys:List EnL) (i:Nat) (tt:Int) (w:World) (hB:B≤w.heap.size) (hi:i<(D k).n) (hn:(D k).n≤12) (h:DrA w B q g cd n k ge ce D G C ys) :
  Calls Tryz.prog 39 #[.pointer (some ⟨q,0,none⟩),.int .i64 i,.int .i64 tt] w (MPost w B q g cd n k ge ce D (moveE (D k) (lE ys) k i tt) (movD (D k) i tt) (lE ys)):=by
 have hBad:∀ (E:Int) w',E≠0→Below w.heap.size w w'→MPost w B q g cd n k ge ce D E (movD (D k) i tt) (lE ys) (.returned (errV E)) w':=fun E w' hE hb=>MPost.bad hE hB hb
 by_cases h1:tt < -1
 ·rw [show moveE (D k) (lE ys) k i tt=1 from if_pos (Or.inl h1)]
  have hF:=hid_of (hBad 1 w (by decide) (Below.refl _ w))
  clear h hBad
  go_enter Tryz.func39,Tryz.ntmps39
  go_wp2_with fail
  go_ret
  exact hF.out
 by_cases h2:(i:Int)≤tt
 ·rw [show moveE (D k) (lE ys) k i tt=1 from if_pos (Or.inr h2)]
  have hF:=hid_of (hBad 1 w (by decide) (Below.refl _ w))
  have h1' : -1≤tt:=by omega
  clear h h1 hBad
  go_enter Tryz.func39,Tryz.ntmps39
  go_wp2_with fail
  go_ret
  exact hF.out
 obtain ⟨c0,c1,c2,-⟩:=h.cells
 obtain ⟨-,-,d2,-⟩:=h.dim
 have hx:=(h.row.cellAt (i*4+1) (by omega)).trans (cellsMb_at (D k).mem (D k).n i hi).2.1
 have hfz:=h.row.frozenAt (i*4+1)
 have hiI:(i:Int)<((D k).n:Int):=by omega
 have hnI:((D k).n:Int)≤12:=by omega
 have hcI:((D k).n:Int)≤(C k:Int):=by have:=(ow_blk h.row).2.2.1;omega
 have h1' : -1≤tt:=by omega
 have h2':tt<(i:Int):=by omega
 have hwr:=written_any B q g cd n k ge ce D G C ys tt w h
 have HLt:=hid_of h.lt
 have hE0:moveE (D k) (lE ys) k i tt=if tt=((D k).mem i).parent∨wrAt (lE ys) k tt=true∨(tt≠-1∧((D k).mem tt.toNat).formula.size≠0) then 6 else 0:=if_neg (by omega)
 rw [hE0]
 by_cases h3:tt=((D k).mem i).parent
 ·rw [if_pos (Or.inl h3)]
  have hF:=hid_of (hBad 6 w (by decide) (Below.refl _ w))
  have h3b:(tt == ((D k).mem i).parent)=true:=by simpa using h3
  generalize ((D k).mem i).parent=pa at hx h3b
  generalize G k=gk at d2 hx hfz
  generalize C k=ck at d2 hcI
  generalize (D k).n=m at d2 hiI hnI hcI
  clear h h1 h2 hn hi hBad h3 hwr hE0
  go_enter Tryz.func39,Tryz.ntmps39
  go_wp2_with fail
  go_ret
  exact hF.out
 have h3b:(tt == ((D k).mem i).parent)=false:=by simpa using h3
 cases h4:wrAt (lE ys) k tt
 case true =>
  rw [if_pos (Or.inr (Or.inl rfl))]
  have hF:=hid_of (fun w'=>hBad 6 w' (by decide))
  rw [h4] at hwr
  generalize ((D k).mem i).parent=pa at hx h3b
  generalize G k=gk at d2 hx hfz
  generalize C k=ck at d2 hcI
  generalize (D k).n=m at d2 hiI hnI hcI
  clear h h1 h2 hn hi hBad h3 h4 hE0
  go_enter Tryz.func39,Tryz.ntmps39
  go_wp2_with fail
  refine hwr.mono ?_
  rintro e w1 ⟨rfl,hb1⟩
  have hG:=hid_of (hF.out w1 hb1)
  go_wp2_with fail
  go_ret
  exact hG.out
 rw [h4] at hwr
 have hSet:Hid (∀ w1,Below w.heap.size w w1→MPost w B q g cd n k ge ce D 0 (movD (D k) i tt) (lE ys) (.returned (errV 0)) (w1.setCell ⟨G k,i*4+1,none⟩ (.int .i64 tt))∧(∃ u,w1.cell? ⟨G k,i*4+1,none⟩=some u)∧w1.frozen? ⟨G k,i*4+1,none⟩=false):=fun w1 hb1=>by
  have h':=h.later hb1
  obtain ⟨r1,r2⟩:=h'.setM (x:=i*4+1) (v:=.int .i64 tt) (M':=(movD (D k) i tt).mem) (cellsMb_set hi (by omega) rfl fun f hf hne=>by
   have:f=0∨f=2∨f=3:=by omega
   rcases this with rfl | rfl | rfl <;> rfl)
  exact ⟨⟨rfl,fun _=>⟨G,C,ys,r1,rfl⟩,(Lw.of hB hb1).trans r2⟩,⟨_,(h'.row.cellAt (i*4+1) (by omega)).trans (cellsMb_at (D k).mem (D k).n i hi).2.1⟩,h'.row.frozenAt _⟩
 by_cases h5:tt = -1
 ·subst h5
  rw [if_neg (by rintro (e | e | e);exact h3 e;cases e;exact e.1 rfl)]
  generalize ((D k).mem i).parent=pa at hx h3b
  generalize G k=gk at d2 hx hfz hSet
  generalize C k=ck at d2 hcI
  generalize (D k).n=m at d2 hiI hnI hcI
  clear h h1 h2 hn hi hBad h3 h4 hE0
  go_enter Tryz.func39,Tryz.ntmps39
  go_wp2_with fail
  refine hwr.mono ?_
  rintro e w1 ⟨rfl,hb1⟩
  obtain ⟨p1,⟨u,p2⟩,p3⟩:=hSet.out w1 hb1
  have hG:=hid_of p1
  clear p1
  go_wp2_with fail
  go_ret
  exact hG.out
 obtain ⟨p,rfl⟩:∃ p:Nat,tt=p:=⟨tt.toNat,by omega⟩
 have hpn:p<(D k).n:=by omega
 rw [Int.toNat_natCast]
 have HFo:Hid (∀ w1,Below w.heap.size w w1→w1.cell? ⟨G k,p*4+3,none⟩=some (.string ((D k).mem p).formula)):=fun w1 hb1=>((h.later hb1).row.cellAt (p*4+3) (by omega)).trans (cellsMb_at (D k).mem (D k).n p hpn).2.2.2
 have hne1:((p:Int) != -1)=true:=by simp
 have hpI:(p:Int)<((D k).n:Int):=by omega
 by_cases h6:((D k).mem p).formula.size=0
 ·rw [if_neg (by rintro (e | e | e);exact h3 e;cases e;exact e.2 h6)]
  have hem:((D k).mem p).formula.toList.isEmpty=true:=by rw [empty_same];simpa using h6
  generalize ((D k).mem p).formula=fo at HFo hem
  generalize ((D k).mem i).parent=pa at hx h3b
  generalize G k=gk at d2 hx hfz hSet HFo
  generalize C k=ck at d2 hcI
  generalize (D k).n=m at d2 hiI hnI hcI hpI
  clear h h1 h2 hn hi hBad h3 h4 hE0 h5 hpn h6
  go_enter Tryz.func39,Tryz.ntmps39
  go_wp2_with fail
  refine hwr.mono ?_
  rintro e w1 ⟨rfl,hb1⟩
  obtain ⟨p1,⟨u,p2⟩,p3⟩:=hSet.out w1 hb1
  have p4:=HFo.out w1 hb1
  have hG:=hid_of p1
  clear p1
  go_wp2_with fail
  go_ret
  exact hG.out
 ·rw [if_pos (Or.inr (Or.inr ⟨by omega,h6⟩))]
  have hF:=hid_of (fun w'=>hBad 6 w' (by decide))
  have hem:((D k).mem p).formula.toList.isEmpty=false:=by rw [empty_same];simpa using h6
  generalize ((D k).mem p).formula=fo at HFo hem
  generalize ((D k).mem i).parent=pa at hx h3b
  generalize G k=gk at d2 hx hfz hSet HFo
  generalize C k=ck at d2 hcI
  generalize (D k).n=m at d2 hiI hnI hcI hpI
  clear h h1 h2 hn hi hBad h3 h4 hE0 h5 hpn h6
  go_enter Tryz.func39,Tryz.ntmps39
  go_wp2_with fail
  refine hwr.mono ?_
  rintro e w1 ⟨rfl,hb1⟩
  have p4:=HFo.out w1 hb1
  have hG:=hid_of (hF.out w1 hb1)
  go_wp2_with fail
  go_ret
  exact hG.out
theorem putD_twice (D:Nat→Dm) (k:Nat) (d d':Dm):putD (putD D k d) k d'=putD D k d':=by
 funext i
 unfold putD
 by_cases e:i=k
 ·rw [if_pos e,if_pos e]
 ·rw [if_neg e,if_neg e,if_neg e]
theorem cellsMb_add (d:Dm) (m:Mem):cellsMb d.mem d.n ++ [.string m.name,.int .i64 m.parent,.int .i64 m.sign,.string m.formula]=cellsMb (addD d m).mem (d.n+1):=by
 rw [cellsMb]
 have e:(addD d m).mem d.n=m:=if_pos rfl
 rw [e]
 congr 1
 exact cellsMb_cgr _ fun i hi=>(if_neg (by omega):(if i=d.n then m else d.mem i)=d.mem i).symm
theorem own_mb {w:World} {B:Nat} {v:Value} {n:Nat} {xs:List Value} {s e:Nat} (h:w.ownsRow B e s v n xs) (hn:0<n):∃ g c,v=.slice (some ⟨g,0,none⟩) n c:=by
 rcases h.2 with ⟨rfl,h0⟩ | ⟨g,cap,cur,rfl,_⟩
 ·omega
 ·exact ⟨g,cap,rfl⟩
theorem list_set_same {xs:List Value} {j:Nat} {u:Value} (hu:xs[j]?=some u):xs.set j u=xs:=by
 refine List.ext_getElem? fun k=>?_
 rw [List.getElem?_set]
 split
 ·rename_i e;subst e;rw [hu];simp [(List.getElem?_eq_some_iff.1 hu).1]
 ·rfl
theorem nm_small {d d':Dm} {m:Mem} {dn:Nat} (h:addD d m=d') (hn:d.n=dn) (hE:(dimErr d').2=0):m.name.size≤281474976710656:=by
 have hm:=(dimErr_right hE).2.2.2 dn (by rw [←h];show dn<d.n+1;omega)
 have h1:d'.mem dn=m:=by rw [←h,←hn];exact if_pos rfl
 unfold memErr at hm
 split at hm
 ·cases hm
 ·rename_i h0
  rw [h1] at h0
  unfold nameErr at h0
  split at h0
  ·exact absurd h0 (by decide)
  ·omega
def AdR (W wx:World) (B q g cd n k ge ce:Nat) (D:Nat→Dm) (ys:List EnL) (m:Mem) (bx:Nat):Prop:=(∃ G' C',DrA wx B q g cd n k ge ce (putD D k (addD (D k) m)) G' C' ys∧bx≠G' k)∧wx.heap[bx]?=some (.cells #[.string m.name,.int .i64 m.parent,.int .i64 m.sign,.string m.formula] 29 (0,0))∧Lw B W wx∧W.heap.size≤wx.heap.size
def addE (d:Dm) (l:List En) (k:Nat) (m:Mem):Int:=if (dimErr (addD d m)).2≠0 then (dimErr (addD d m)).2 else if wrAt l k m.parent=true then 6 else 0
theorem keepAd {W w':World} {q g gm bx k:Nat} {u1 u2 u3:Value} (h:bx<W.heap.size∧q<W.heap.size∧g<W.heap.size∧bx≠gm∧q≠gm∧g≠gm∧W.cell? ⟨bx,0,none⟩=some u1∧W.cell? ⟨q,0,none⟩=some u2∧W.cell? ⟨g,k,none⟩=some u3) (hG:W.grownBy w' (some gm)):W.grownBy w' (some gm)∧w'.cell? ⟨bx,0,none⟩=some u1∧w'.cell? ⟨q,0,none⟩=some u2∧w'.cell? ⟨g,k,none⟩=some u3 :=
 ⟨hG,hG.cell h.2.2.2.2.2.2.1 (by simpa using h.2.2.2.1),hG.cell h.2.2.2.2.2.2.2.1 (by simpa using h.2.2.2.2.1),hG.cell h.2.2.2.2.2.2.2.2 (by simpa using h.2.2.2.2.2.1)⟩
set_option maxHeartbeats 8000000 in
theorem cadd_any (B q g cd n k ge ce:Nat) (D:Nat→Dm) (G C:Nat→Nat) (ys:List EnL) (m:Mem) (w:World) (hB:B≤w.heap.size) (hn:(D k).n≤12) (h:DrA w B q g cd n k ge ce D G C ys) :
  Calls Tryz.prog 36 #[.pointer (some ⟨q,0,none⟩),memV m] w (MPost w B q g cd n k ge ce D (addE (D k) (lE ys) k m) (addD (D k) m) (lE ys)):=by
 obtain ⟨i0,hi0,hz0,hz1,hz2⟩:=info_parts Tryz.infoMemH
 obtain ⟨W,hW⟩:∃ W,w.alloc (.cells #[.string m.name,.int .i64 m.parent,.int .i64 m.sign,.string m.formula] 29)=W:=⟨_,rfl⟩
 have hBW:Below w.heap.size w W:=by rw [←hW];go_grown
 have hWs:W.heap.size=w.heap.size+1:=by rw [←hW];simp
 have kb:W.heap[w.heap.size]?=some (.cells #[.string m.name,.int .i64 m.parent,.int .i64 m.sign,.string m.formula] 29 (0,0)):=by rw [←hW];exact heap_alloc_new ..
 have hd:=h.later hBW
 obtain ⟨c0,c1,c2,-⟩:=hd.cells
 obtain ⟨-,-,d2,dfz⟩:=hd.dim
 have x0:W.cell? ⟨w.heap.size,0,none⟩=some (.string m.name):=(Lib.cell_of_heap kb 0).trans rfl
 have x1:W.cell? ⟨w.heap.size,1,none⟩=some (.int .i64 m.parent):=(Lib.cell_of_heap kb 1).trans rfl
 have x2:W.cell? ⟨w.heap.size,2,none⟩=some (.int .i64 m.sign):=(Lib.cell_of_heap kb 2).trans rfl
 have x3:W.cell? ⟨w.heap.size,3,none⟩=some (.string m.formula):=(Lib.cell_of_heap kb 3).trans rfl
 have HD:=hid_of hd
 have HBW:=hid_of hBW
 have HO:=hid_of hd.row
 have HKB:=hid_of kb
 have hnI:((D k).n:Int)≤12:=by omega
 have HNN:Hid ((D k).n≤12):=hn
 have HCC:Hid (∀ w',Below W.heap.size W w'→w'.cell? ⟨g,k*3+2,none⟩=some (.slice (some ⟨G k,0,none⟩) (D k).n (C k))∧w'.frozen? ⟨g,k*3+2,none⟩=false):=fun w' hb=>⟨(hd.later hb).dim.2.2.1,(hd.later hb).dim.2.2.2 _⟩
 have HCQ:Hid (∀ w',Below W.heap.size W w'→w'.cell? ⟨q,0,none⟩=some (.pointer (some ⟨g,k*3,none⟩))):=fun w' hb=>(hd.later hb).cells.1
 have HNQ:Hid (some q≠(Value.slice (some ⟨G k,0,none⟩) (D k).n (C k)).ownBlock):=fun e=>by
  obtain ⟨-,-,-,-,cm,hcm⟩:=ow_blk hd.row
  exact blk_ty hd.box hcm (by decide) (Option.some.inj e)
 have HNE:Hid (some g≠(Value.slice (some ⟨G k,0,none⟩) (D k).n (C k)).ownBlock):=fun e=>by
  obtain ⟨-,-,-,-,cg,hcg⟩:=ow_blk hd.own.dims
  obtain ⟨-,-,-,-,cm,hcm⟩:=ow_blk hd.row
  exact blk_ty hcg hcm (by decide) (Option.some.inj e)
 have hql:q<W.heap.size:=hd.lt
 have hBl:B≤W.heap.size:=by omega
 have hgl:g<W.heap.size:=(ow_blk hd.own.dims).2.1
 have HPut:Hid (∀ gg cg w6,W.grownBy w6 (some (G k))→w6.ownsRow B 29 4 (.slice (some ⟨gg,0,none⟩) ((D k).n+1) cg) ((D k).n+1) (cellsMb (D k).mem (D k).n ++ [.string m.name,.int .i64 m.parent,.int .i64 m.sign,.string m.formula])→(gg=G k∨W.heap.size≤gg)→Hid (AdR W (w6.setCell ⟨g,k*3+2,none⟩ (.slice (some ⟨gg,0,none⟩) ((D k).n+1) cg)) B q g cd n k ge ce D ys m w.heap.size)):=fun gg cg w6 hg hr hgg=>by
  rw [cellsMb_add] at hr
  obtain ⟨r1,r2⟩:=hd.newM hBl hg hr hgg
  obtain ⟨-,-,-,-,cg',hcg⟩:=ow_blk hd.own.dims
  obtain ⟨-,-,-,-,cm,hcm⟩:=ow_blk hd.row
  have hbx:w.heap.size≠G k:=by
   have:=(ow_blk h.row).2.1
   omega
  have hbg:w.heap.size≠g:=by
   have:=(ow_blk h.own.dims).2.1
   omega
  refine ⟨⟨_,_,r1,?_⟩,?_,r2,by have:=hg.size;simpa using this⟩
  ·show w.heap.size≠if k=k then gg else G k
   rw [if_pos rfl]
   rcases hgg with e | e <;> omega
  exact (setCell_off _ _ _ _ _ hbg).trans ((hg.block _ (by omega) fun e=>hbx (Option.some.inj e)).trans kb)
 obtain ⟨XS,hXS⟩:∃ XS,cellsMb (D k).mem (D k).n=XS:=⟨_,rfl⟩
 have HXS:=hid_of hXS
 rw [hXS] at HO HPut
 have hns:(D k).n≤12:=hn
 obtain ⟨gk,hgk⟩:∃ gk,G k=gk:=⟨_,rfl⟩
 obtain ⟨ck,hck⟩:∃ ck,C k=ck:=⟨_,rfl⟩
 obtain ⟨dn,hdn⟩:∃ dn,(D k).n=dn:=⟨_,rfl⟩
 rw [hgk,hck,hdn] at d2 HO HCC HNE HNQ
 rw [hgk,hdn] at HPut
 rw [hdn] at hnI hns
 have HGK:=hid_of hgk
 have HCK:=hid_of hck
 have HDN:=hid_of hdn
 have HWs:=hid_of hWs
 clear h hd hBW kb hXS hgk hck hdn hn hWs
 unfold memV
 go_enter Tryz.func36,Tryz.ntmps36
 go_upto_region 1 with fail
 go_cut [] from 8 (fun wx=>Hid (AdR W wx B q g cd n k ge ce D ys m w.heap.size))
 case first =>
  go_region_law (first
   | (refine step_append_lies _ (by rfl) _ _ _ (by rfl) B 29 i0 _ 4 48 Tryz.underlying30 hi0 hz0 hz1 hz2 rfl (by omega) (.slice (some ⟨gk,0,none⟩) dn ck) dn XS (by rfl) (own_stays HO.out (by go_grown)) ⟨W.heap.size,0,none⟩ 1 1 [.string m.name,.int .i64 m.parent,.int .i64 m.sign,.string m.formula] (by rfl) (by rfl) (World.news_of_block (cs := #[.string m.name,.int .i64 m.parent,.int .i64 m.sign,.string m.formula]) (t:=29) (fr:=(0,0)) (heap_alloc_new _ _)) (by simp [Value.oneCell']) (by omega) (by unfold maxLen;omega) (by omega) (by simp;omega) (W.heap.size+1) (by simp) ?_;intro gg cg w6 hown6 hgrow hat hlt6;have y1:=(hgrow.cell_far ⟨g,k*3+2,none⟩ (by simp;omega) HNE.out).trans (HCC.out _ (by go_grown)).1;have y2:=(hgrow.frozen_far ⟨g,k*3+2,none⟩ (by simp;omega) HNE.out).trans (HCC.out _ (by go_grown)).2;have y3:=(hgrow.cell_far ⟨q,0,none⟩ (by simp;omega) HNQ.out).trans (HCQ.out _ (by go_grown))))
  all_goals (have HG6:=HPut.out gg cg w6 (grown_trans (grown_below (by go_grown)) hgrow) hown6 (hat.imp (fun e=>(Option.some.inj e).symm) (fun e=>by omega)))
  all_goals clear hown6 hgrow hat hlt6 y1 y2 y3
  all_goals (go_wp2_with fail;go_meet;exact HG6)
 case rest =>
  obtain ⟨wx,rfl⟩:∃ wx:World,wx=wc:=⟨_,rfl⟩
  obtain ⟨⟨G',C',hdx,hbG⟩,hbx,hlow,hsz⟩:=hcut.out
  have e1:putD D k (addD (D k) m) k=addD (D k) m:=putD_at ..
  obtain ⟨c0,c1,c2,-⟩:=hdx.cells
  obtain ⟨d0,d1,d2,-⟩:=hdx.dim
  rw [e1] at d0 d1 d2
  have hMV:MemsV wx (some ⟨G' k,0,none⟩) (C' k) (addD (D k) m).n (addD (D k) m).mem:=by
   have hr:=hdx.row
   rw [e1] at hr
   obtain ⟨A1,c1',e2,h2⟩:=memT_own hr
   cases e2
   exact h2.toV
  have hck:=dcheck_any (addD (D k) m) (some ⟨G' k,0,none⟩) (C' k) wx hMV
  unfold dimV at hck
  have HX:=hid_of hdx
  have hbs:w.heap.size<wx.heap.size:=(Array.getElem?_eq_some_iff.1 hbx).1
  have HBox:Hid (∀ w',Below wx.heap.size wx w'→w'.cell? ⟨w.heap.size,0,none⟩=some (.string m.name)∧w'.cell? ⟨w.heap.size,1,none⟩=some (.int .i64 m.parent)):=fun w' hb=>by
   have h1:=(hb.block _ hbs).trans hbx
   exact ⟨(Lib.cell_of_heap h1 0).trans rfl,(Lib.cell_of_heap h1 1).trans rfl⟩
  have HLow:=hid_of hlow
  have hn1:(addD (D k) m).n=dn+1:=by show (D k).n+1=_;rw [HDN.out]
  have HCE:Hid ((addD (D k) m).name=(D k).name):=rfl
  obtain ⟨d',hd'⟩:∃ d',addD (D k) m=d':=⟨_,rfl⟩
  have HD':=hid_of hd'
  rw [hd'] at hck d0 d1 d2 hn1 e1
  have HBad:Hid (∀ E w',addE (D k) (lE ys) k m=E→E≠0→Below wx.heap.size wx w'→MPost w B q g cd n k ge ce D (addE (D k) (lE ys) k m) (addD (D k) m) (lE ys) (.returned (errV E)) w'):=fun E w' h1 hE hb=>by
   rw [h1]
   exact ⟨rfl,fun h=>absurd h hE,((Lw.of hB HBW.out).trans HLow.out).trans (Lw.of (by omega) hb)⟩
  have hE0:addE (D k) (lE ys) k m=if (dimErr d').2≠0 then (dimErr d').2 else if wrAt (lE ys) k m.parent=true then 6 else 0:=by unfold addE;rw [hd']
  obtain ⟨s1,s2,n',mm⟩:=d'
  simp only at d0 d1 d2 hn1 hck
  subst hn1
  generalize (dimErr ⟨s1,s2,dn+1,mm⟩).1=z at hck
  by_cases hE:(dimErr ⟨s1,s2,dn+1,mm⟩).2=0
  ·rw [if_neg (by simpa using hE)] at hE0
   rw [hE,errV_zero] at hck
   have HE0:=hid_of hE0
   have hwr:∀ w',Below wx.heap.size wx w'→_:=fun w' hb=>written_any B q g cd n k ge ce _ G' C' ys m.parent w' (HX.out.later hb)
   have HWr:=hid_of hwr
   have HNs:Hid (m.name.size≤281474976710656):=nm_small HD'.out HDN.out hE
   have hwl:IntKind.i64.wrap ((dn:Int)+1-1)=(dn:Int):=by rw [show (dn:Int)+1-1=dn by omega];exact IntWalk.i64_in _ (by omega)
   clear hdx hcut hbx hlow hMV hwr hE0 hE hd'
   go_wp2_with fail
   refine hck.mono ?_
   rintro e w2 ⟨rfl,hb2⟩
   have HB2:=hid_of hb2
   obtain ⟨b0,b1⟩:=HBox.out w2 hb2
   have hwr:=HWr.out w2 hb2
   clear hb2 hck c0 c1 c2 d0 d1 d2
   cases hw4:wrAt (lE ys) k m.parent
   case true =>
    rw [hw4] at hwr
    have HE6:Hid (addE (D k) (lE ys) k m=6):=by show _=_;rw [HE0.out,if_pos hw4]
    clear hw4
    go_wp2_with fail
    refine hwr.mono ?_
    rintro e w3 ⟨rfl,hb3⟩
    have HF:=hid_of (HBad.out 6 w3 HE6.out (by decide) (onB HB2.out hb3))
    clear hb3
    go_wp2_with fail
    go_ret
    exact HF.out
   rw [hw4] at hwr
   have HE6:Hid (addE (D k) (lE ys) k m=0):=by show _=_;rw [HE0.out,if_neg (by rw [hw4];decide)]
   clear hw4
   go_wp2_with fail
   refine hwr.mono ?_
   rintro e w3 ⟨rfl,hb3⟩
   have hB3:=onB HB2.out hb3
   have h3:=HX.out.later hB3
   rw [HD'.out] at h3
   have HB3:=hid_of hB3
   obtain ⟨b0',b1'⟩:=HBox.out w3 hB3
   have hql3:q<w3.heap.size:=h3.lt
   have hgl3:g<w3.heap.size:=(ow_blk h3.own.dims).2.1
   obtain ⟨-,-,-,-,cdm,hcdm⟩:=ow_blk h3.own.dims
   obtain ⟨-,hgml,hgmc,-,cmm,hcmm⟩:=ow_blk h3.row
   have hbs3:w.heap.size<w3.heap.size:=Nat.lt_of_lt_of_le hbs hB3.size
   have k0:=h3.cells.1
   have k2:=h3.dim.2.2.1
   have hrow3:=h3.row
   rw [e1] at k2 hgmc hrow3
   simp only at k2 hgmc hrow3
   have HSt:Hid (w.heap.size<w3.heap.size∧q<w3.heap.size∧g<w3.heap.size∧w.heap.size≠G' k∧q≠G' k∧g≠G' k∧w3.cell? ⟨w.heap.size,0,none⟩=some (.string m.name)∧w3.cell? ⟨q,0,none⟩=some (.pointer (some ⟨g,k*3,none⟩))∧w3.cell? ⟨g,k*3+2,none⟩=some (.slice (some ⟨G' k,0,none⟩) (dn+1) (C' k))):=⟨hbs3,hql3,hgl3,hbG,blk_ty h3.box hcmm (by decide),blk_ty hcdm hcmm (by decide),b0',k0,k2⟩
   have hx0:=(cellsMb_at mm (dn+1) dn (by omega)).1
   have hmn:(mm dn).name=m.name:=by
    have h1:(addD (D k) m).mem (D k).n=m:=if_pos rfl
    rw [HD'.out,HDN.out] at h1
    exact congrArg Mem.name h1
   rw [hmn] at hx0
   have HDs:Hid (∀ w4,Below w3.heap.size w3 w4→w4.cell? ⟨G' k,dn*4,none⟩=some (.string m.name)∧w4.frozen? ⟨G' k,dn*4,none⟩=false):=fun w4 hb4=>by
    have h4:=own_later hrow3 hb4
    exact ⟨(h4.cellAt (dn*4) (by omega)).trans hx0,h4.frozenAt _⟩
   have HEnd:Hid (∀ w4,Below w3.heap.size w3 w4→MPost w B q g cd n k ge ce D (addE (D k) (lE ys) k m) (addD (D k) m) (lE ys) (.returned (errV 0)) (w4.setCell ⟨G' k,dn*4,none⟩ (.string m.name))):=fun w4 hb4=>by
    have h4:=h3.later hb4
    obtain ⟨r1,r2⟩:=h4.setM (x:=dn*4) (v:=.string m.name) (M':=mm) (by
     rw [e1]
     exact list_set_same hx0)
    rw [HE6.out]
    refine ⟨rfl,fun _=>⟨G',C',ys,?_,rfl⟩,(((Lw.of hB HBW.out).trans HLow.out).trans (Lw.of (by omega) (onB HB3.out hb4))).trans r2⟩
    rw [HD'.out]
    rw [putD_twice,e1] at r1
    exact r1
   have HSc:Hid (∀ w',Calls Tryz.prog 33 #[.string m.name] w' fun e w''=>e=.returned (.string m.name)∧Below w'.heap.size w' w''):=fun w'=>sclone_any _ w' HNs.out
   have hgcI:(dn:Int)+1≤(C' k:Int):=by omega
   have hdl:(dn:Int)<(dn:Int)+1:=by omega
   have hwB:=hid_of hbs3
   clear hwr hB3 h3 hb3 hrow3 hx0 hcmm hcdm hmn HCC HNE HNQ HPut HO HX HWr HBad HCQ
   generalize G' k=gm at k2 HSt HDs HEnd hbG hgml
   generalize C' k=cm' at k2 HSt hgcI hgmc
   generalize w.heap.size=bx at b0' b1' HSt hbs3 hbG
   go_wp2_with fail
   go_region_held3 (fun w'=>w3.grownBy w' (some gm)∧w'.cell? ⟨bx,0,none⟩=some (.string m.name)∧w'.cell? ⟨q,0,none⟩=some (.pointer (some ⟨g,k*3,none⟩))∧w'.cell? ⟨g,k*3+2,none⟩=some (.slice (some ⟨gm,0,none⟩) (dn+1) cm'))
    ((refine keepAd HSt.out ?_;(repeat (first | exact grown_refl _ _ | assumption | refine grown_drew ?_ | refine grown_set ?_ _ _));done))
    (first | (go_at_call 33;refine (HSc.out _).mono ?_;rintro e w4 ⟨rfl,hb4⟩;have hN4:=onB (W0:=w3) (by go_grown) hb4;have hG4:w3.grownBy w4 (some gm):=grown_below hN4;obtain ⟨z0,f0⟩:=HDs.out w4 hN4;have HB4:=hid_of hN4;have hs4:=hN4.size;clear hb4 hN4))
   all_goals (have HF:=hid_of (HEnd.out w4 HB4.out))
   all_goals clear z0 f0 hG4
   all_goals go_wp2_with fail
   all_goals go_ret
   all_goals exact HF.out
  ·rw [if_pos (by simpa using hE)] at hE0
   have hV:=errV_some hE
   have HF:=hid_of (fun w'=>HBad.out _ w' hE0 hE)
   generalize (dimErr ⟨s1,s2,dn+1,mm⟩).2=E at hck HF hV
   clear hdx hcut hbx hlow hMV hE0 hE hd'
   rw [hV] at hck
   go_wp2_with fail
   refine hck.mono ?_
   rintro e w2 ⟨rfl,hb2⟩
   have HG:=hid_of (HF.out w2 hb2)
   clear hb2
   go_wp2_with fail
   go_ret
   have hG:=HG.out
   rw [hV] at hG
   exact hG
end Go.Proofs.YtglekooldbeklaaGreatDoor
