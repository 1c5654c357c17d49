/-
  What newQueue of package calc answers: the queue of a plan, as it begins, in whatever memory.
-/
import Derived.Test.YtfgegmpoejilnaaGreatDoorJGBE
import Derived.Test.YtfgegmpoejilnaaGreatDoorJGBF
namespace Go.Proofs.YtfgegmpoejilnaaGreatDoor
open Go.ChangeShapes Go.WideShapes Go.ChangeAt Go.RowKit
set_option maxRecDepth 20000
set_option maxHeartbeats 2000000 in
theorem places_same (q g n:Nat) (D:Nat→Dm) (X:Nat→AL) (w:World) (hA:PlanV w q g n D X):Calls Tryz.prog 53 #[.pointer (some ⟨q,0,none⟩)] w fun e w'=>e=.returned (.int .i64 (prodN D n:Nat))∧w'=w:=by
 obtain ⟨hq,q0,q1⟩:=hA.cells
 generalize prodN D n=N at *
 clear hA
 go_enter Tryz.func53,Tryz.ntmps53
 go_wp2_with fail
 go_ret
 exact ⟨rfl,rfl⟩
theorem qm_laid {w w3:World} {B gM gU N:Nat} {UV:Nat→Value} {UL:Nat→List Int} (hU:UM w3 B gU N UV UL) (hM:ValB w3 gM N 3 fun _=>.int .i64 0) (hB:Below w.heap.size w w3) (h1:w.heap.size≤B) (h2:w.heap.size≤gM) (hd:∀ j,j<N→(UV j).ownBlock≠some gM) :
  QM (w3.alloc (.cells #[.slice (some ⟨gM,0,none⟩) N N,.slice (some ⟨gU,0,none⟩) N N,.slice none 0 0] 124)) w.heap.size w3.heap.size gM gU N (fun _=>0) UV UL (.slice none 0 0) []∧Below w.heap.size w (w3.alloc (.cells #[.slice (some ⟨gM,0,none⟩) N N,.slice (some ⟨gU,0,none⟩) N N,.slice none 0 0] 124)):=by
 have hb:Below w3.heap.size w3 (w3.alloc (.cells #[.slice (some ⟨gM,0,none⟩) N N,.slice (some ⟨gU,0,none⟩) N N,.slice none 0 0] 124)):=by go_grown
 refine ⟨⟨heap_alloc_new _ _,hM.same (hb.block _ hM.lt),hU.hU.same (hb.block _ hU.hU.lt),fun j hj=>own_later (own_low (hU.own j hj) h1) hb,World.ownsRow_nil _ _ _ _,hd,hU.dU,fun h=>(by cases h),fun _ _ _ h=>(by cases h),hB.size,h2,Nat.le_trans h1 hU.lU⟩,onB hB hb⟩
theorem qm_after {w w' w4:World} {gU N:Nat} {Nn:List (List Int)} (hU:UMk w4 gU N N Nn w') (hw:w.heap.size≤w'.heap.size) (hB:Below w.heap.size w w4) :
  ∃ UV,QM ((w4.alloc (.cells (madeCells #[.int .i64 0] N) 3)).alloc (.cells #[.slice (some ⟨w4.heap.size,0,none⟩) N N,.slice (some ⟨gU,0,none⟩) N N,.slice none 0 0] 124)) w.heap.size (w4.heap.size+1) w4.heap.size gU N (fun _=>0) UV (fun j=>usrL Nn j N) (.slice none 0 0) []∧Below w.heap.size w ((w4.alloc (.cells (madeCells #[.int .i64 0] N) 3)).alloc (.cells #[.slice (some ⟨w4.heap.size,0,none⟩) N N,.slice (some ⟨gU,0,none⟩) N N,.slice none 0 0] 124)):=by
 obtain ⟨UV,hM,hb⟩:=hU
 have hb4:Below w4.heap.size w4 (w4.alloc (.cells (madeCells #[.int .i64 0] N) 3)):=by go_grown
 have h:=qm_laid (hM.later hb4) (ValB.made w4 N 3 (.int .i64 0)) (onB hB hb4) hw hB.size fun j hj e=>by
  have:=(own_blk (hM.own j hj) e).2.1
  omega
 rw [show (w4.alloc (.cells (madeCells #[.int .i64 0] N) 3)).heap.size=w4.heap.size+1 from by simp] at h
 exact ⟨UV,h⟩
theorem qm_before {w w' w4:World} {gM gU N:Nat} {Nn:List (List Int)} (hU:UMk w4 gU N N Nn w') (hw:w.heap.size≤w'.heap.size) (hB:Below w.heap.size w w4) (hM:ValB w' gM N 3 fun _=>.int .i64 0) (h2:w.heap.size≤gM) :
  ∃ UV,QM (w4.alloc (.cells #[.slice (some ⟨gM,0,none⟩) N N,.slice (some ⟨gU,0,none⟩) N N,.slice none 0 0] 124)) w.heap.size w4.heap.size gM gU N (fun _=>0) UV (fun j=>usrL Nn j N) (.slice none 0 0) []∧Below w.heap.size w (w4.alloc (.cells #[.slice (some ⟨gM,0,none⟩) N N,.slice (some ⟨gU,0,none⟩) N N,.slice none 0 0] 124)):=by
 obtain ⟨UV,hU,hb⟩:=hU
 exact ⟨UV,qm_laid hU (hM.same (hb.block _ hM.lt)) hB hw h2 fun j hj e=>by
  have h1:=(own_blk (hU.own j hj) e).1
  have h3:=hM.lt
  omega⟩
def QMk (w:World) (q gM gU N k:Nat) (Nn:List (List Int)) (w1:World):Prop := ∃ M UV R,QM w w1.heap.size q gM gU N M UV (fun j=>usrL Nn j N) R (selTo (fun j=>(Nn.getD j []).isEmpty) k)∧(∀ j,j<k→M j=((Nn.getD j []).length:Int))∧Below w1.heap.size w1 w
def QMp (w:World) (q gM gU N k:Nat) (Nn:List (List Int)) (w1:World):Prop := ∃ M UV R,QM w w1.heap.size q gM gU N M UV (fun j=>usrL Nn j N) R (selTo (fun j=>(Nn.getD j []).isEmpty) k)∧(∀ j,j<k+1→M j=((Nn.getD j []).length:Int))∧Below w1.heap.size w1 w
section
variable {w w2 w1:World} {q gM gU N k tl:Nat} {Nn:List (List Int)}
theorem QMk.put (h:QMk w q gM gU N k Nn w1) (hb:Below w.heap.size w w2) (hT:(Nn.getD k []).length=tl):QMp (w2.setCell ⟨gM,k,none⟩ (.int .i64 (tl:Int))) q gM gU N k Nn w1:=by
 obtain ⟨M,UV,R,hQ,hM,hB⟩:=h
 refine ⟨fun j=>if j=k then (tl:Int) else M j,UV,R,(hQ.later hb).setM k (tl:Int),fun j hj=>?_,(onB hB hb).setCell hQ.lM _⟩
 by_cases e:j=k
 ·show (if j=k then (tl:Int) else M j)=_
  rw [if_pos e,e,hT]
 ·show (if j=k then (tl:Int) else M j)=_
  rw [if_neg e]
  exact hM j (by omega)
theorem QMp.done (h:QMp w q gM gU N k Nn w1) (hne:(Nn.getD k []).length≠0):QMk w q gM gU N (k+1) Nn w1:=by
 obtain ⟨M,UV,R,hQ,hM,hB⟩:=h
 refine ⟨M,UV,R,?_,hM,hB⟩
 have e2:selTo (fun j=>(Nn.getD j []).isEmpty) (k+1)=selTo (fun j=>(Nn.getD j []).isEmpty) k:=by
  rw [selTo]
  have:(Nn.getD k []).isEmpty=false:=by
   generalize Nn.getD k []=T at hne
   cases T with
   | nil=>exact absurd rfl hne
   | cons a r=>rfl
  rw [this]
  simp
 rw [e2]
 exact hQ
theorem QMp.free (h:QMp w q gM gU N k Nn w1) (hT:(Nn.getD k []).length=0) :
  ∃ AO ln cO Ly,w.cell? ⟨q,2,none⟩=some (.slice AO ln cO)∧w.frozen? ⟨q,2,none⟩=false∧ln≤k∧w.ownsRow w1.heap.size 3 1 (.slice AO ln cO) ln (mapI Ly)∧(∀ (w5 w6:World),Below w.heap.size w w5→w5.grownBy w6 (Value.slice AO ln cO).ownBlock→w6.cell? ⟨q,2,none⟩=some (.slice AO ln cO)∧w6.frozen? ⟨q,2,none⟩=false∧q<w6.heap.size) ∧
  ∀ (w5 w6:World) (v:Value),Below w.heap.size w w5→w6.ownsRow w1.heap.size 3 1 v (ln+1) (mapI Ly ++ [.int .i64 (k:Int)])→w5.grownBy w6 (Value.slice AO ln cO).ownBlock→(v.ownBlock=(Value.slice AO ln cO).ownBlock∨v.ownBlock=some w5.heap.size)→QMk (w6.setCell ⟨q,2,none⟩ v) q gM gU N (k+1) Nn w1:=by
 obtain ⟨M,UV,R,hQ,hM,hB⟩:=h
 have hO:=hQ.ready
 obtain ⟨AO,cO,hv⟩:∃ AO cO,R=.slice AO (selTo (fun j=>(Nn.getD j []).isEmpty) k).length cO:=by
  rcases hO.2 with ⟨h1,h2⟩ | ⟨g,cap,cur,h1,-⟩
  ·exact ⟨none,0,by rw [h1,h2]⟩
  ·exact ⟨_,_,h1⟩
 have hqo:∀ b,R.ownBlock=some b→b≠q∧b≠gU:=fun b hb=>by
  obtain ⟨-,-,cur,hc⟩:=own_blk hO hb
  exact hQ.off hc
 have hkq:∀ (w5 w6:World),Below w.heap.size w w5→w5.grownBy w6 R.ownBlock→w6.heap[q]?=w.heap[q]?:=fun w5 w6 h5 hG=>(hG.block q (Nat.lt_of_lt_of_le hQ.ql h5.size) (fun e=>(hqo q e.symm).1 rfl)).trans (h5.block q hQ.ql)
 refine ⟨AO,_,cO,_,by rw [←hv];exact hQ.cells.2.2.1,hQ.cells.2.2.2,sel_len _ _,by rw [←hv];exact hO,fun w5 w6 h5 hG=>?_,fun w5 w6 v h5 h6 hG hat=>?_⟩
 ·rw [←hv] at hG ⊢
  have e1:=hkq w5 w6 h5 hG
  refine ⟨(World.cell?_of_block (a:=⟨q,2,none⟩) e1).trans hQ.cells.2.2.1,(World.frozen?_of_block (a:=⟨q,2,none⟩) e1).trans hQ.cells.2.2.2,?_⟩
  have:=hQ.ql
  have:=h5.size
  have:=hG.size
  omega
 ·rw [←hv] at hG hat
  have hl1:(selTo (fun j=>(Nn.getD j []).isEmpty) k ++ [(k:Int)]).length=(selTo (fun j=>(Nn.getD j []).isEmpty) k).length+1:=by rw [List.length_append];rfl
  have hP:=hQ.pushR (L:=selTo (fun j=>(Nn.getD j []).isEmpty) k ++ [(k:Int)]) (v:=v) (H:=w5.heap.size) h5 hG (by rw [hl1,mapI_snoc];exact h6) hat h5.size
  have hB6:Below w1.heap.size w1 w6:=⟨hG.os.trans (onB hB h5).os,hG.tape.trans (onB hB h5).tape,hG.output.trans (onB hB h5).output,Nat.le_trans (onB hB h5).size hG.size,fun b hb=>(hG.block b (Nat.lt_of_lt_of_le hb (onB hB h5).size) (fun e=>by have:=(own_blk hO e.symm).1;omega)).trans ((onB hB h5).block b hb)⟩
  refine ⟨M,UV,v,?_,hM,hB6.setCell hQ.lq _⟩
  have e2:selTo (fun j=>(Nn.getD j []).isEmpty) (k+1)=selTo (fun j=>(Nn.getD j []).isEmpty) k ++ [(k:Int)]:=by
   rw [selTo]
   rw [List.eq_nil_of_length_eq_zero hT]
   simp
  rw [e2]
  exact hP
end
set_option maxHeartbeats 16000000 in
theorem newq_any (qp g n:Nat) (D:Nat→Dm) (X:Nat→AL) (w:World) (hR:AllR D n) (hE:(allErr D n).2.2=0) (hA:PlanV w qp g n D X) :
  Calls Tryz.prog 52 #[.pointer (some ⟨qp,0,none⟩)] w fun e w' => ∃ q gM gU,e=.returned (.tuple #[.pointer (some ⟨q,0,none⟩),.nilIface])∧QMk w' q gM gU (prodN D n) (prodN D n) (rowsL D n) w:=by
 obtain ⟨i0,hi0,hz0,hz1,hz2⟩:=info_parts Tryz.infoInt
 obtain ⟨hn1,hn4,hp3,hd⟩:=allErr_some hE
 have HPl:Hid (∀ w',Below w.heap.size w w'→Calls Tryz.prog 53 #[.pointer (some ⟨qp,0,none⟩)] w' fun e w''=>e=.returned (.int .i64 (prodN D n:Nat))∧w''=w'):=fun w' hB=>places_same qp g n D X w' (hA.later hB)
 have HUs:Hid (∀ w',Below w.heap.size w w'→Calls Tryz.prog 80 #[.pointer (some ⟨qp,0,none⟩)] w' fun e w''=>(∃ gU,e=.returned (.slice (some ⟨gU,0,none⟩) (prodN D n) (prodN D n))∧UMk w'' gU (prodN D n) (prodN D n) (rowsL D n) w')∧Below w'.heap.size w' w''):=fun w' hB=>by
  refine (users_any qp g n D X w' hR hE (hA.later hB)).mono ?_
  rintro e w'' ⟨gU,rfl,hU⟩
  exact ⟨⟨gU,rfl,hU⟩,hU.choose_spec.2⟩
 have HNd:Hid (∀ k w',k<prodN D n→Below w.heap.size w w'→Calls Tryz.prog 66 #[.pointer (some ⟨qp,0,none⟩),.int .i64 k] w' fun e w''=>(∃ A' c',e=.returned (.tuple #[.slice A' ((rowsL D n).getD k []).length c',.nilIface]))∧Below w'.heap.size w' w''):=fun k w' hk hB=>by
  refine (pneeds_any qp g n D X k w' hR hE hk (hA.later hB)).mono ?_
  rintro e w'' ⟨⟨A',c',T,rfl,hI,hT,-,hA'⟩,hb⟩
  have hTe:T=(rowsL D n).getD k []:=by rw [told_eq hR hE hT,rows_at hk]
  rw [←hTe]
  exact ⟨⟨A',c',rfl⟩,hb⟩
 have HRw:Hid (∀ k,k<prodN D n→((rowsL D n).getD k []).length≤12):=fun k hk=>(rows_told hR hE hk).2.1
 obtain ⟨Nn,hNn⟩:∃ Nn,rowsL D n=Nn:=⟨_,rfl⟩
 rw [hNn] at HNd HRw HUs ⊢
 obtain ⟨N,hN⟩:∃ N,prodN D n=N:=⟨_,rfl⟩
 rw [hN] at HPl HNd HRw HUs hp3 ⊢
 have hNI:(N:Int)≤3000:=by omega
 have hmkI:=run_make_row' (P:=Tryz.prog) 38 3 (.int .i64 0) 8 Tryz.underlying38 Tryz.infoInt rfl .i64 .i64 N (by omega) (by omega)
 clear hA hE hR hd hNn hN
 go_enter Tryz.func52,Tryz.ntmps52
 go_upto_region 1 with fail
 go_cut [4] from 8 (fun s4 wx => ∃ q gM gU UV,s4=.pointer (some ⟨q,0,none⟩)∧QM wx w.heap.size q gM gU N (fun _=>0) UV (fun j=>usrL Nn j N) (.slice none 0 0) []∧Below w.heap.size w wx)
 case first =>
  go_region_law ((first
   | (go_simp;refine (HPl.out _ (by go_grown)).mono ?_;rintro e w3 ⟨rfl,rfl⟩)
   | (go_simp;refine (HUs.out _ (by go_grown)).mono ?_;rintro e w4 ⟨⟨gU,rfl,hU4⟩,hb4⟩;have hN4:=onB (W0:=w) (by go_grown) hb4;have hs4:=hb4.size;clear hb4)))
  all_goals go_wp2_with fail
  all_goals go_meet
  all_goals first
   | (obtain ⟨UV,h1,h2⟩:=qm_after (w:=w) hU4 (by first | exact Nat.le_refl _ | simp) hN4;exact ⟨_,_,_,UV,rfl,h1,h2⟩)
   | (obtain ⟨UV,h1,h2⟩:=qm_before (w:=w) hU4 (by first | exact Nat.le_refl _ | simp) hN4 (ValB.made w N 3 (.int .i64 0)) (Nat.le_refl _);exact ⟨_,_,_,UV,rfl,h1,h2⟩)
 case rest =>
 obtain ⟨q,gM,gU,UV,rfl,hQ,hBc⟩:=hcut
 obtain ⟨w1,rfl⟩:∃ w1:World,w1=wc:=⟨_,rfl⟩
 have HK1:Hid (QMk w1 q gM gU N 0 Nn w):=by
  exact ⟨fun _=>0,UV,.slice none 0 0,hQ,fun j hj=>absurd hj (Nat.not_lt_zero _),hBc⟩
 have hpl:=HPl.out w1 hBc
 clear hmkI hQ hBc HUs
 go_wp2_with fail
 refine hpl.mono ?_
 rintro e w2 ⟨rfl,rfl⟩
 clear hpl
 go_wp2_with fail
 go_loopg [17] N (fun gg s17 wr => ∃ (k:Nat),k≤N∧gg=N-k∧s17=.int .i64 k∧Hid (QMk wr q gM gU N k Nn w))
 case atStart=>exact ⟨0,Nat.zero_le _,rfl,rfl,HK1⟩
 case round =>
  obtain ⟨k,hk,rfl,rfl,HK⟩:=hrel
  by_cases hlt:k<N
  ·have hki:(k:Int)<(N:Int):=by omega
   have HBr:Hid (Below w.heap.size w wr):=by obtain ⟨-,-,-,-,-,h⟩:=HK.out;exact h
   have hnd:=HNd.out k wr hlt HBr.out
   have h12:=HRw.out k hlt
   obtain ⟨tl,htl⟩:∃ tl,(Nn.getD k []).length=tl:=⟨_,rfl⟩
   have HTl:Hid ((Nn.getD k []).length=tl):=htl
   rw [htl] at hnd h12
   have htI:(tl:Int)≤12:=by omega
   clear htl
   go_wp2_with fail
   refine hnd.mono ?_
   rintro e w3 ⟨⟨A2,c2,rfl⟩,hb2⟩
   have HI3:Hid (QMp (w3.setCell ⟨gM,k,none⟩ (.int .i64 (tl:Int))) q gM gU N k Nn w):=HK.out.put hb2 HTl.out
   obtain ⟨m0,m1,mf,mq,mg⟩:w3.cell? ⟨q,0,none⟩=some (.slice (some ⟨gM,0,none⟩) N N)∧w3.cell? ⟨gM,k,none⟩≠none∧w3.frozen? ⟨gM,k,none⟩=false∧q<w3.heap.size∧gM<w3.heap.size:=by
    obtain ⟨M,UV,R,hQ,-,-⟩:=HK.out
    have hQ3:=hQ.later hb2
    exact ⟨hQ3.cells.1,by rw [hQ3.hM.cell hlt];simp,hQ3.hM.frozen k,hQ3.ql,hQ3.hM.lt⟩
   obtain ⟨mv,m1'⟩:=Option.ne_none_iff_exists'.1 m1
   obtain ⟨wr2,hwr2⟩:∃ wr2,w3.setCell ⟨gM,k,none⟩ (.int .i64 (tl:Int))=wr2:=⟨_,rfl⟩
   rw [hwr2] at HI3
   clear hnd hb2 m1
   by_cases h0:tl=0
   ·obtain ⟨AO,ln,cO,Ly,cR,hfR,hln,hO,hRc,hFi⟩:=HI3.out.free (by rw [HTl.out];exact h0)
    have HO:Hid (wr2.ownsRow w.heap.size 3 1 (.slice AO ln cO) ln (mapI Ly)):=hO
    have HRch:=hid_of hRc
    have HFin:=hid_of hFi
    obtain ⟨hql,hBs⟩:q<wr2.heap.size∧w.heap.size≤wr2.heap.size:=by
     obtain ⟨M,UV,R,hQ,-,hB⟩:=HI3.out
     exact ⟨hQ.ql,hB.size⟩
    have hlnI:ln≤3000:=by omega
    have h0':((tl:Int) == 0)=true:=by simp [h0]
    clear hO hRc hFi HI3 HTl h0
    go_wp2_with (at_builtin;refine wpList_append_own_at _ rfl _ _ 38 rfl w.heap.size 3 i0 (.int .i64 0) 1 8 Tryz.underlying38 hi0 hz0 hz1 hz2 rfl (by decide) _ _ _ rfl (HO.out.alloc _) ⟨wr2.heap.size,0,none⟩ 1 1 [.int .i64 k] rfl rfl one_cell one_one (by unfold maxLen;omega) (by omega) (by simp;omega) ?_)
    intro v' w6 hown' hgrow _ hat
    obtain ⟨y1,y2,y3⟩:=HRch.out _ _ (by go_grown) hgrow
    obtain ⟨A',c',rfl⟩:∃ A' c',v'=.slice A' (ln+1) c':=by
     rcases hown'.2 with ⟨-,h⟩ | ⟨g',c',cur,h,-⟩
     ·omega
     ·exact ⟨_,_,h⟩
    have HF6:=hid_of (HFin.out _ _ _ (by go_grown) hown' hgrow (hat.imp id fun h=>by rw [h];simp))
    clear hown' hgrow hat
    go_wp2_with fail
    go_roundg (N-(k+1))
    case measure=>omega
    case rel=>exact ⟨k+1,by omega,rfl,by go_num,HF6⟩
   ·have h0':((tl:Int) == 0)=false:=by simpa using h0
    have HF6:Hid (QMk wr2 q gM gU N (k+1) Nn w):=HI3.out.done (by rw [HTl.out];exact h0)
    clear HI3
    go_wp2_with fail
    go_roundg (N-(k+1))
    case measure=>omega
    case rel=>exact ⟨k+1,by omega,rfl,by go_num,HF6⟩
  ·have hke:k=N:=by omega
   subst hke
   go_wp2_with fail
   go_returns
   exact ⟨q,gM,gU,rfl,HK.out⟩
structure QS (w:World) (B q gM gU N:Nat) (M:Nat→Int) (UV:Nat→Value) (UL:Nat→List Int) (gR:Nat) (AR:Option Addr) (cR:Nat) (RL:List Int):Prop where
 hq:w.heap[q]?=some (.cells #[.slice (some ⟨gM,0,none⟩) N N,.slice (some ⟨gU,0,none⟩) N N,.slice AR RL.length cR] 124 (0,0))
 hM:ValB w gM N 3 fun j=>.int .i64 (M j)
 hU:ValB w gU N 38 UV
 own:∀ j,j<N→w.ownsRow B 3 1 (UV j) (UL j).length (mapI (UL j))
 ready:RdyV w gR AR cR RL
 dM:∀ j,j<N→(UV j).ownBlock≠some gM
 dR:gR≠gM
 dRU:∀ j,j<N→(UV j).ownBlock≠some gR
 lq:B≤q
 lM:B≤gM
 lU:B≤gU
 lR:B≤gR
theorem QS.of {w:World} {B q gM gU N:Nat} {M:Nat→Int} {UV:Nat→Value} {UL:Nat→List Int} {R:Value} {RL:List Int} (h:QM w B q gM gU N M UV UL R RL) (hl:0<RL.length):∃ gR cR,QS w B q gM gU N M UV UL gR (some ⟨gR,0,none⟩) cR RL:=by
 obtain ⟨gR,cR,hR,hB,hV⟩:=RdyV.own h.ready hl
 refine ⟨gR,cR,by rw [←hR];exact h.hq,h.hM,h.hU,h.own,hV,h.dM,fun e=>h.dR (by rw [hR,←e];rfl),fun j hj e=>h.dRU j hj gR (by rw [hR];rfl) e,h.lq,h.lM,h.lU,hB⟩
section
variable {w w':World} {B q gM gU N:Nat} {M:Nat→Int} {UV:Nat→Value} {UL:Nat→List Int} {gR:Nat} {AR:Option Addr} {cR:Nat} {RL:List Int}
theorem QS.ql (h:QS w B q gM gU N M UV UL gR AR cR RL):q<w.heap.size:=(Array.getElem?_eq_some_iff.1 h.hq).1
theorem QS.later (h:QS w B q gM gU N M UV UL gR AR cR RL) (hB:Below w.heap.size w w'):QS w' B q gM gU N M UV UL gR AR cR RL :=
 ⟨(hB.block q h.ql).trans h.hq,h.hM.same (hB.block _ h.hM.lt),h.hU.same (hB.block _ h.hU.lt),fun j hj=>own_later (h.own j hj) hB,h.ready.later hB,h.dM,h.dR,h.dRU,h.lq,h.lM,h.lU,h.lR⟩
theorem QS.keep (h:QS w B q gM gU N M UV UL gR AR cR RL) {r:Option Nat} (hG:w.grownBy w' r) (h1:r≠some q) (h2:r≠some gM) (h3:r≠some gU) (h4:r≠some gR) (h5:∀ j,j<N→∀ b,(UV j).ownBlock=some b→r≠some b):QS w' B q gM gU N M UV UL gR AR cR RL :=
 ⟨(hG.block q h.ql (fun e=>h1 e.symm)).trans h.hq,h.hM.same (hG.block _ h.hM.lt (fun e=>h2 e.symm)),h.hU.same (hG.block _ h.hU.lt (fun e=>h3 e.symm)),fun j hj=>own_grown (h.own j hj) hG (h5 j hj),h.ready.same (hG.block _ h.ready.lt (fun e=>h4 e.symm)),h.dM,h.dR,h.dRU,h.lq,h.lM,h.lU,h.lR⟩
theorem QS.cells (h:QS w B q gM gU N M UV UL gR AR cR RL):w.cell? ⟨q,0,none⟩=some (.slice (some ⟨gM,0,none⟩) N N)∧w.cell? ⟨q,1,none⟩=some (.slice (some ⟨gU,0,none⟩) N N)∧w.cell? ⟨q,2,none⟩=some (.slice AR RL.length cR)∧w.frozen? ⟨q,2,none⟩=false :=
 ⟨by simp [World.cell?,h.hq],by simp [World.cell?,h.hq],by simp [World.cell?,h.hq],by simp [World.frozen?,h.hq]⟩
theorem QS.off (h:QS w B q gM gU N M UV UL gR AR cR RL) {b:Nat} {cur:Array Value} (hb:w.heap[b]?=some (.cells cur 3 (0,0))):b≠q∧b≠gU:=by
 refine ⟨fun e=>?_,h.hU.off hb row_ne_int'⟩
 rw [e,h.hq] at hb
 simp at hb
theorem QS.ne (h:QS w B q gM gU N M UV UL gR AR cR RL):q≠gM∧q≠gU∧gM≠gU∧gR≠q∧gR≠gU:=by
 obtain ⟨-,-,o,-,⟨cur,hc,-⟩,-⟩:=h.ready
 have h1:=h.off hc
 refine ⟨fun e=>?_,fun e=>?_,fun e=>?_,h1.1,h1.2⟩
 ·have h1:=h.hq;rw [e,h.hM] at h1;simp at h1
 ·have h1:=h.hq;rw [e,h.hU] at h1;simp at h1
 ·have h1:=h.hM;unfold ValB at h1;rw [e,h.hU] at h1;simp at h1
theorem QS.ownOff (h:QS w B q gM gU N M UV UL gR AR cR RL) {j b:Nat} (hj:j<N) (hb:(UV j).ownBlock=some b):b≠q∧b≠gU:=by
 obtain ⟨-,-,cur,hc⟩:=own_blk (h.own j hj) hb
 exact h.off hc
theorem QS.users (h:QS w B q gM gU N M UV UL gR AR cR RL) {j:Nat} (hj:j<N) {A:Option Addr} {c:Nat} (hv:UV j=.slice A (UL j).length c):w.cell? ⟨gU,j,none⟩=some (.slice A (UL j).length c)∧IntT w A c (UL j):=by
 refine ⟨by rw [←hv];exact h.hU.cell hj,?_⟩
 obtain ⟨A',c',e,hI⟩:=intT_own (h.own j hj)
 rw [hv] at e
 cases e
 exact hI
theorem QS.qin (h:QS w B q gM gU N M UV UL gR AR cR RL) {w5 w6:World} (h5:Below w.heap.size w w5) (hG:w5.grownBy w6 (some gR)):w6.cell? ⟨q,2,none⟩=some (.slice AR RL.length cR)∧w6.frozen? ⟨q,2,none⟩=false∧q<w6.heap.size:=by
 obtain ⟨n1,n2,n3,n4,n5⟩:=h.ne
 have e:w6.heap[q]?=w.heap[q]?:=(hG.block q (Nat.lt_of_lt_of_le h.ql h5.size) (fun e=>n4 (by simpa using e.symm))).trans (h5.block q h.ql)
 refine ⟨(World.cell?_of_block (a:=⟨q,2,none⟩) e).trans h.cells.2.2.1,(World.frozen?_of_block (a:=⟨q,2,none⟩) e).trans h.cells.2.2.2,?_⟩
 have:=h.ql
 have:=h5.size
 have:=hG.size
 omega
theorem QS.setM (h:QS w B q gM gU N M UV UL gR AR cR RL) (m:Nat) (x:Int):QS (w.setCell ⟨gM,m,none⟩ (.int .i64 x)) B q gM gU N (fun j=>if j=m then x else M j) UV UL gR AR cR RL:=by
 obtain ⟨n1,n2,n3,n4,n5⟩:=h.ne
 refine ⟨by rw [setCell_off _ _ _ _ _ n1];exact h.hq,?_,h.hU.same (setCell_off _ _ _ _ _ n3.symm),fun j hj=>own_setc (h.own j hj) (h.dM j hj),h.ready.same (setCell_off _ _ _ _ _ h.dR),h.dM,h.dR,h.dRU,h.lq,h.lM,h.lU,h.lR⟩
 refine h.hM.set (f':=fun j=>.int .i64 (if j=m then x else M j)) fun j _=>?_
 by_cases e:j=m
 ·simp only [if_pos e]
 ·simp only [if_neg e]
theorem QS.setR (h:QS w B q gM gU N M UV UL gR AR cR RL) {w5 w6:World} {g' c':Nat} {A':Option Addr} {L:List Int} (h5:Below w.heap.size w w5) (hG:w5.grownBy w6 (some gR)) (hV:RdyV w6 g' A' c' L) (hg:g'=gR∨w.heap.size≤g') (hB:B≤w.heap.size):QS (w6.setCell ⟨q,2,none⟩ (.slice A' L.length c')) B q gM gU N M UV UL g' A' c' L:=by
 obtain ⟨n1,n2,n3,n4,n5⟩:=h.ne
 have hkeep:∀ b,b<w.heap.size→b≠gR→w6.heap[b]?=w.heap[b]?:=fun b hb hne=>(hG.block b (Nat.lt_of_lt_of_le hb h5.size) (fun e=>hne (by simpa using e))).trans (h5.block b hb)
 have gq:g'≠q:=by
  rcases hg with rfl | hg
  ·exact n4
  ·have:=h.ql;omega
 refine ⟨?_,(h.hM.same (hkeep _ h.hM.lt h.dR.symm)).same (setCell_off _ _ _ _ _ n1.symm),(h.hU.same (hkeep _ h.hU.lt n5.symm)).same (setCell_off _ _ _ _ _ n2.symm),fun j hj=>?_,hV.same (setCell_off _ _ _ _ _ gq),h.dM,?_,fun j hj=>?_,h.lq,h.lM,h.lU,?_⟩
 ·have:=set_ty (k:=2) (v:=.slice A' L.length c') ((hkeep q h.ql n4.symm).trans h.hq)
  simpa using this
 ·refine own_setc (own_grown (own_later (h.own j hj) h5) hG fun b hb e=>h.dRU j hj (by rw [e];exact hb)) fun e2=>(h.ownOff hj e2).1 rfl
 ·rcases hg with rfl | hg
  ·exact h.dR
  ·have:=h.hM.lt;omega
 ·rcases hg with rfl | hg
  ·exact h.dRU j hj
  ·intro e
   have:=(own_blk (h.own j hj) e).2.1
   omega
 ·rcases hg with rfl | hg
  ·exact h.lR
  ·omega
theorem RdyV.tail {g o:Nat} {m:Int} {R:List Int} (h:RdyV w g (some ⟨g,o,none⟩) cR (m :: R)):RdyV w g (if cR=1 then some ⟨g,o,none⟩ else some ⟨g,o+1,none⟩) (cR-1) R:=by
 obtain ⟨h1,h2,o',h3,⟨cur,hc,h4⟩,h5⟩:=h
 cases h3
 simp only [List.length_cons] at h1 h5
 by_cases e:cR=1
 ·rw [if_pos e]
  have hR:R=[]:=List.eq_nil_of_length_eq_zero (by omega)
  subst hR
  exact ⟨Nat.zero_le _,by omega,o,rfl,⟨cur,hc,by omega⟩,fun j hj=>by simp at hj⟩
 rw [if_neg e]
 refine ⟨by omega,by omega,o+1,rfl,⟨cur,hc,by omega⟩,fun j hj=>?_⟩
 have:=h5 (j+1) (by omega)
 rw [show o+1+j=o+(j+1) by omega]
 rw [List.getD_cons_succ] at this
 exact this
end
theorem rdy_len {Nn:List (List Int)} {R:List Int} (h:R.Pairwise (· < ·)) (hm:∀ x∈R,∃ j:Nat,x=j∧j<Nn.length):R.length≤Nn.length:=few _ _ (h.imp fun h=>by omega) fun x hx=>by
 obtain ⟨j,rfl,hj⟩:=hm x hx
 omega
end Go.Proofs.YtfgegmpoejilnaaGreatDoor
