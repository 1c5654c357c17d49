/-
  What orderOf of package calc answers: the order of all places of a plan, in whatever memory.
-/
import Derived.Test.YtaodedckffjpgagGreatDoorJEBV
namespace Go.Proofs.YtaodedckffjpgagGreatDoor
open Go.ChangeShapes Go.WideShapes Go.ChangeAt Go.RowKit
set_option maxRecDepth 20000
def OrdS (w w0:World) (q gM gU N k:Nat) (Nn:List (List Int)) (v:Value):Prop := ∃ M UV gR AR cR RL,QS w w0.heap.size q gM gU N M UV (fun j=>usrL Nn j N) gR AR cR RL∧(∀ j,j<N→M j=(misC Nn (ordTo Nn k) j:Int))∧RdyP Nn (ordTo Nn k) RL∧w.ownsRow w0.heap.size 3 1 v k (mapI (ordTo Nn k))∧(∀ b,v.ownBlock=some b→b≠gM∧b≠gR∧∀ j,j<N→(UV j).ownBlock≠some b)∧Below w0.heap.size w0 w
section
variable {w w0 w1:World} {q gM gU N k:Nat} {Nn:List (List Int)} {v:Value}
theorem OrdS.first (h:QMk w q gM gU N N Nn w0) (hNl:Nn.length=N) (hN:Inn Nn) (hc:∀ i:Nat,i<Nn.length→cycB Nn i=false) (hN1:0<N) (hN3:N≤3000):OrdS (w.alloc (.cells (madeCells #[.int .i64 0] N) 3)) w0 q gM gU N 0 Nn (.slice (some ⟨w.heap.size,0,none⟩) 0 N):=by
 obtain ⟨M,UV,R,hQ,hM,hB⟩:=h
 have hRd:RdyP Nn [] (selTo (fun j=>(Nn.getD j []).isEmpty) N):=rdy_first (by rw [hNl])
 obtain ⟨m,R',e,-⟩:=rdy_head hN hc (k:=0) (by omega) hRd
 obtain ⟨gR,cR,hS⟩:=QS.of hQ (by rw [e];simp)
 have hBa:Below w.heap.size w (w.alloc (.cells (madeCells #[.int .i64 0] N) 3)):=by go_grown
 refine ⟨M,UV,gR,_,cR,_,hS.later hBa,fun j hj=>by rw [hM j hj];show _=((misC Nn [] j:Nat):Int);rw [mis_first],hRd,?_,fun b hb=>?_,onB hB hBa⟩
 ·exact World.ownsRow_made w _ N hB.size (by unfold maxLen;omega) (by simp [madeCells])
 ·have hb2:w.heap.size=b:=by simpa [Value.ownBlock] using hb
  have h1:=hS.hM.lt
  have h2:=hS.ready.lt
  refine ⟨by omega,by omega,fun j hj e=>?_⟩
  have:=(own_blk (hS.own j hj) e).2.1
  omega
theorem OrdS.ready (h:OrdS w w0 q gM gU N k Nn v) (hNl:Nn.length=N) (hN:Inn Nn) (hc:∀ i:Nat,i<Nn.length→cycB Nn i=false):q<w.heap.size∧(k<N→∃ A l c,w.cell? ⟨q,2,none⟩=some (.slice A (l+1) c)∧l≤N)∧(k=N→∃ A c,w.cell? ⟨q,2,none⟩=some (.slice A 0 c)):=by
 obtain ⟨M,UV,gR,AR,cR,RL,hS,hM,hRd,-⟩:=h
 refine ⟨hS.ql,fun hlt=>?_,fun he=>?_⟩
 ·obtain ⟨m,R',e,-⟩:=rdy_head hN hc (k:=k) (by omega) hRd
  have hlen:=rdy_len (Nn:=Nn) hRd.1 fun x hx=>by obtain ⟨j,h1,h2,-⟩:=(hRd.2 x).1 hx;exact ⟨j,h1,h2⟩
  have hq:=hS.cells.2.2.1
  rw [e,List.length_cons] at hq
  rw [e,List.length_cons] at hlen
  exact ⟨AR,R'.length,cR,hq,by omega⟩
 ·have hR:RL=[]:=rdy_end hN hc (by rw [hNl,←he];exact hRd)
  have hq:=hS.cells.2.2.1
  rw [hR] at hq
  exact ⟨AR,cR,hq⟩
theorem OrdS.step (h:OrdS w w0 q gM gU N k Nn v) (hNl:Nn.length=N) (hN:Inn Nn) (hc:∀ i:Nat,i<Nn.length→cycB Nn i=false) (hr:∀ j,j<Nn.length→(Nn.getD j []).Pairwise (· < ·)) (hl:∀ j,j<Nn.length→(Nn.getD j []).length≤12) (hN3:N≤3000) (hk:k<N) :
  Calls Tryz.prog 28 #[.pointer (some ⟨q,0,none⟩)] w fun e w4 => ∃ m:Nat,e=.returned (.int .i64 m)∧m<N∧w4.ownsRow w0.heap.size 3 1 v k (mapI (ordTo Nn k))∧w0.heap.size≤w4.heap.size∧∀ (w5 w6:World) (v':Value),Below w4.heap.size w4 w5→w6.ownsRow w0.heap.size 3 1 v' (k+1) (mapI (ordTo Nn k) ++ [.int .i64 (m:Int)])→w5.grownBy w6 v.ownBlock→(v'.ownBlock=v.ownBlock∨v'.ownBlock=some w5.heap.size)→OrdS w6 w0 q gM gU N (k+1) Nn v':=by
 obtain ⟨M,UV,gR,AR,cR,RL,hS,hM,hRd,hO,hD,hB⟩:=h
 refine (qnext_any w0.heap.size q gM gU N k Nn M UV gR AR cR RL w hN3 hNl hN hc hr hl hk hB.size hS hM hRd).mono ?_
 rintro e w4 ⟨m,rfl,hm,hon,M',gR',AR',cR',RL',hS',hM',hRd',hg',hF⟩
 have hvq:∀ b,v.ownBlock=some b→b≠q∧b≠gU∧b<w.heap.size:=fun b hb=>by
  obtain ⟨-,h2,cur,hc⟩:=own_blk hO hb
  exact ⟨(hS.off hc).1,(hS.off hc).2,h2⟩
 have hO4:w4.ownsRow w0.heap.size 3 1 v k (mapI (ordTo Nn k)):=by
  refine ⟨hO.1,?_⟩
  rcases hO.2 with h0 | ⟨g,cap,cur,rfl,h2,h3,h4⟩
  ·exact Or.inl h0
  ·refine Or.inr ⟨g,cap,cur,rfl,h2,(hF.block g (Array.getElem?_eq_some_iff.1 h3).1 ?_).trans h3,h4⟩
   have h5:=hD g rfl
   have h6:=hvq g rfl
   rintro (e | e | e)
   ·exact h6.1 e
   ·exact h5.1 e
   ·exact h5.2.1 e
 have hB4:Below w0.heap.size w0 w4:=⟨hF.os.trans hB.os,hF.tape.trans hB.tape,hF.output.trans hB.output,Nat.le_trans hB.size hF.size,fun b hb=>(hF.block b (Nat.lt_of_lt_of_le hb hB.size) (by
  have h1:=hS.lq
  have h2:=hS.lM
  have h3:=hS.lR
  rintro (e | e | e) <;> omega)).trans (hB.block b hb)⟩
 refine ⟨m,rfl,hm,hO4,hB4.size,fun w5 w6 v' h5 h6 hG hat=>?_⟩
 have hD4:∀ b,v.ownBlock=some b→b≠gM∧b≠gR'∧∀ j,j<N→(UV j).ownBlock≠some b:=fun b hb=>by
  have h1:=hD b hb
  refine ⟨h1.1,?_,h1.2.2⟩
  rcases hg' with e | e
  ·rw [e];exact h1.2.1
  ·have:=(hvq b hb).2.2;omega
 have hS6:=(hS'.later h5).keep hG (fun e=>(hvq q e).1 rfl) (fun e=>(hD4 gM e).1 rfl) (fun e=>(hvq gU e).2.1 rfl) (fun e=>(hD4 gR' e).2.1 rfl) (fun j hj b hb e=>(hD4 b e).2.2 j hj hb)
 refine ⟨M',UV,gR',AR',cR',RL',hS6,hM',hRd',?_,fun b hb=>?_,?_⟩
 ·rw [hon,mapI_snoc];exact h6
 ·rcases hat with e | e
  ·exact hD4 b (e.symm.trans hb)
  ·have hb2:w5.heap.size=b:=by rw [e] at hb;simpa using hb
   have h1:=(hS'.later h5).hM.lt
   have h2:=(hS'.later h5).ready.lt
   refine ⟨by omega,by omega,fun j hj e2=>?_⟩
   have:=(own_blk ((hS'.later h5).own j hj) e2).2.1
   omega
 ·have hB5:=onB hB4 h5
  refine ⟨hG.os.trans hB5.os,hG.tape.trans hB5.tape,hG.output.trans hB5.output,Nat.le_trans hB5.size hG.size,fun b hb=>(hG.block b (Nat.lt_of_lt_of_le hb hB5.size) (fun e=>by have:=(own_blk hO e.symm).1;omega)).trans (hB5.block b hb)⟩
end
set_option maxHeartbeats 8000000 in
theorem orderof_any (qp g n:Nat) (D:Nat→Dm) (X:Nat→AL) (w:World) (hR:AllR D n) (hE:(allErr D n).2.2=0) (hA:PlanV w qp g n D X) :
  Calls Tryz.prog 16 #[.pointer (some ⟨qp,0,none⟩)] w fun e w'=>(∃ A' c',e=.returned (.tuple #[.slice A' (prodN D n) c',.nilIface])∧IntT w' A' c' (ordTo (rowsL D n) (prodN D n)))∧Below w.heap.size w w':=by
 obtain ⟨i0,hi0,hz0,hz1,hz2⟩:=info_parts Tryz.infoInt
 obtain ⟨hn1,hn4,hp3,hd⟩:=allErr_some hE
 have hnq:=newq_any qp g n D X w hR hE hA
 have HPl:Hid (∀ w',Below w.heap.size w w'→Calls Tryz.prog 27 #[.pointer (some ⟨qp,0,none⟩)] w' fun e w''=>e=.returned (.int .i64 (prodN D n:Nat))∧w''=w'):=fun w' hB=>places_same qp g n D X w' (hA.later hB)
 have hN1:0<prodN D n:=prodN_pos fun i hi=>(hd i hi).1
 have HIn:=hid_of (rows_inn hR hE)
 have HAc:=hid_of (rows_acyc hR hE)
 have HRi:=hid_of (rows_rise hR hE)
 have HLe:Hid (∀ j,j<(rowsL D n).length→((rowsL D n).getD j []).length≤12):=fun j hj=>(rows_told hR hE (by rw [rows_len] at hj;exact hj)).2.1
 have HNl:Hid ((rowsL D n).length=prodN D n):=rows_len
 have HOl:Hid ((ordTo (rowsL D n) (prodN D n)).length=prodN D n):=by
  show _=_
  have h:=ord_len (rows_inn hR hE) (rows_acyc hR hE) (prodN D n) (by rw [rows_len];exact Nat.le_refl _)
  exact h
 obtain ⟨Nn,hNn⟩:∃ Nn,rowsL D n=Nn:=⟨_,rfl⟩
 rw [hNn] at hnq HIn HAc HRi HLe HNl HOl ⊢
 obtain ⟨N,hN⟩:∃ N,prodN D n=N:=⟨_,rfl⟩
 rw [hN] at hnq HPl HNl HOl hp3 hN1 ⊢
 have hNI:(N:Int)≤3000:=by omega
 have hmk:∀ w:World,(Instr.makeSlice 38 (.int .i64 0) (.int .i64 (N:Int))).run Tryz.prog w=.ok (.slice (some ⟨w.heap.size,0,none⟩) 0 N) (w.alloc (.cells (madeCells #[.int .i64 0] N) 3)):=fun w=>by
  have hr:=run_make (P:=Tryz.prog) w 38 3 i0 _ Tryz.underlying38 hi0 hz0 .i64 .i64 0 N (by omega) (by omega) (by rw [hz2];omega) (by omega)
  simp only [Int.toNat_natCast,hz1,Nat.mul_one] at hr
  exact hr
 have HN3:Hid (N≤3000):=hp3
 clear hA hE hR hd hNn hN
 go_enter Tryz.func16,Tryz.ntmps16
 go_wp2_with fail
 refine hnq.mono ?_
 rintro e w1 ⟨q,gM,gU,rfl,hQ1⟩
 have HQ1:Hid (QMk w1 q gM gU N N Nn w):=hQ1
 have hB1:Below w.heap.size w w1:=by obtain ⟨-,-,-,-,-,h⟩:=hQ1;exact h
 have hpl:=HPl.out w1 hB1
 clear hnq hQ1
 go_wp2_with fail
 refine hpl.mono ?_
 rintro e w2 ⟨rfl,rfl⟩
 have HS0:=hid_of (OrdS.first HQ1.out HNl.out HIn.out HAc.out hN1 HN3.out)
 clear hpl hB1
 go_wp2_with fail
 clear hmk
 go_loopg [6] N (fun gg s6 wr => ∃ (k:Nat) (AO:Option Addr) (cO:Nat),k≤N∧gg=N-k∧s6=.slice AO k cO∧Hid (OrdS wr w q gM gU N k Nn (.slice AO k cO)))
 case atStart=>exact ⟨0,_,_,Nat.zero_le _,rfl,rfl,HS0⟩
 case round =>
  obtain ⟨k,AO,cO,hk,rfl,rfl,HS⟩:=hrel
  obtain ⟨hql,hr1,hr2⟩:=HS.out.ready HNl.out HIn.out HAc.out
  by_cases hlt:k<N
  ·obtain ⟨Aq,l,cq,k2,hlN⟩:=hr1 hlt
   have hlI:(l:Int)≤3000:=by omega
   have hst:=HS.out.step HNl.out HIn.out HAc.out HRi.out HLe.out HN3.out hlt
   clear hr1 hr2
   go_wp2_with fail
   refine hst.mono ?_
   rintro e w4 ⟨m,rfl,hmN,hO4,hs4,hfin⟩
   have HO4:Hid (w4.ownsRow w.heap.size 3 1 (.slice AO k cO) k (mapI (ordTo Nn k))):=hO4
   have HFin:=hid_of hfin
   clear hst hO4 hfin k2
   go_wp2_with (at_builtin;refine wpList_append_own_at _ rfl _ _ 38 rfl w.heap.size 3 i0 (.int .i64 0) 1 8 Tryz.underlying38 hi0 hz0 hz1 hz2 rfl (by decide) _ _ _ rfl (HO4.out.alloc _) ⟨w4.heap.size,0,none⟩ 1 1 [.int .i64 m] rfl rfl one_cell one_one (by unfold maxLen;omega) (by omega) (by simp;omega) ?_)
   intro v' w6 hown' hgrow _ hat
   obtain ⟨A',c',rfl⟩:∃ A' c',v'=.slice A' (k+1) c':=by
    rcases hown'.2 with ⟨-,h⟩ | ⟨g',c',cur,h,-⟩
    ·omega
    ·exact ⟨_,_,h⟩
   have HF6:=hid_of (HFin.out _ _ _ (by go_grown) hown' hgrow (hat.imp id fun h=>by rw [h];simp))
   clear hown' hgrow hat
   go_wp2_with fail
   go_roundg (N-(k+1))
   case measure=>omega
   case rel=>exact ⟨k+1,_,_,by omega,rfl,rfl,HF6⟩
  ·have hke:k=N:=by omega
   obtain ⟨Aq,cq,k2⟩:=hr2 hke
   subst hke
   have HF:Hid (IntT wr AO cO (ordTo Nn k)∧Below w.heap.size w wr):=by
    obtain ⟨-,-,-,-,-,-,-,-,-,hO,-,hB⟩:=HS.out
    refine ⟨?_,hB⟩
    have hO3:wr.ownsRow w.heap.size 3 1 (.slice AO k cO) (ordTo Nn k).length (mapI (ordTo Nn k)):=by rw [HOl.out];exact hO
    obtain ⟨A',c',e,hI⟩:=intT_own hO3
    simp only [Value.slice.injEq] at e
    obtain ⟨rfl,-,rfl⟩:=e
    exact hI
   clear hr1 hr2
   go_wp2_with fail
   go_returns
   exact ⟨⟨AO,cO,rfl,HF.out.1⟩,HF.out.2⟩
end Go.Proofs.YtaodedckffjpgagGreatDoor
