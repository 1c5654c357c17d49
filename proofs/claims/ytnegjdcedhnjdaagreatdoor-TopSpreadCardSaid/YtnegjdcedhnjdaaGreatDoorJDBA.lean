/-
  The leafs of a place's members, dim by dim: what leafs of package roll answers, called in whatever memory: a row of lists, in new memory; or what is wrong with the place.
-/
import Derived.Test.YtnegjdcedhnjdaaGreatDoorJDAZ
namespace Go.Proofs.YtnegjdcedhnjdaaGreatDoor
open Go.ChangeShapes Go.WideShapes Go.ChangeAt Go.RowKit
set_option maxRecDepth 20000
def SlB (w:World) (g n k:Nat) (L:Nat→List Int):Prop := ∃ cur:Array Value,w.heap[g]?=some (.cells cur 26 (0,0))∧cur.size=n∧∀ j,j<n→∃ A l c,cur[j]?=some (.slice A l c)∧(j<k→l=(L j).length∧IntsAt w A c (L j))
section
variable {w w':World} {g n k:Nat} {L:Nat→List Int}
theorem SlB.lt (h:SlB w g n k L):g<w.heap.size:=by
 obtain ⟨cur,h1,_⟩:=h
 exact (Array.getElem?_eq_some_iff.1 h1).1
theorem SlB.at (h:SlB w g n k L) {j:Nat} (hj:j<n):∃ A l c,w.cell? ⟨g,j,none⟩=some (.slice A l c)∧(j<k→l=(L j).length∧IntsAt w A c (L j)):=by
 obtain ⟨cur,h1,h2,h3⟩:=h
 obtain ⟨A,l,c,h4,h5⟩:=h3 j hj
 exact ⟨A,l,c,by simp [World.cell?,h1,h4],h5⟩
theorem SlB.get (h:SlB w g n n L) {j:Nat} (hj:j<n):∃ A c,w.cell? ⟨g,j,none⟩=some (.slice A (L j).length c)∧IntsAt w A c (L j):=by
 obtain ⟨A,l,c,h1,h2⟩:=h.at hj
 obtain ⟨rfl,h3⟩:=h2 hj
 exact ⟨A,c,h1,h3⟩
theorem SlB.frozen (h:SlB w g n k L) (j:Nat):w.frozen? ⟨g,j,none⟩=false:=by
 obtain ⟨cur,h1,_⟩:=h
 exact Lib.frozen_of_heap h1 j
theorem SlB.later (h:SlB w g n k L) (hB:Below w.heap.size w w'):SlB w' g n k L:=by
 have hlt:=h.lt
 obtain ⟨cur,h1,h2,h3⟩:=h
 refine ⟨cur,(hB.block g hlt).trans h1,h2,fun j hj=>?_⟩
 obtain ⟨A,l,c,h4,h5⟩:=h3 j hj
 exact ⟨A,l,c,h4,fun hk=>⟨(h5 hk).1,(h5 hk).2.later hB⟩⟩
theorem IntsAt.off {A:Option Addr} {c:Nat} {X:List Int} {cur:Array Value} {T:Nat} (h:IntsAt w A c X) (hg:w.heap[g]?=some (.cells cur T (0,0))) (hs:∀ x y,cur[0]?=some (.int x y)→False) (hb:∀ i,i<w.heap.size→i≠g→w'.heap[i]?=w.heap[i]?) (hz:w.heap.size≤w'.heap.size):IntsAt w' A c X:=by
 obtain ⟨h1,h2 | ⟨b,h2,h3,h4⟩⟩:=h
 ·exact ⟨h1,Or.inl h2⟩
 ·by_cases h0:X.length=0
  ·exact ⟨h1,Or.inl (List.eq_nil_of_length_eq_zero h0)⟩
  ·have hne:b≠g:=fun e=>by
    have:=h4 0 (by omega)
    rw [e] at this
    simp only [World.cell?,hg] at this
    exact hs _ _ this
   exact ⟨h1,Or.inr ⟨b,h2,Nat.lt_of_lt_of_le h3 hz,fun j hj=>(World.cell?_of_block (a:=⟨b,j,none⟩) (hb b h3 hne)).trans (h4 j hj)⟩⟩
theorem SlB.set (h:SlB w g n k L) (hk:k<n) {A:Option Addr} {c:Nat} (hI:IntsAt w A c (L k)):SlB (w.setCell ⟨g,k,none⟩ (.slice A (L k).length c)) g n (k+1) L:=by
 obtain ⟨cur,h1,h2,h3⟩:=h
 have hs:∀ x y,cur[0]?=some (.int x y)→False:=fun x y e=>by
  obtain ⟨A,l,c,h4,-⟩:=h3 0 (by omega)
  rw [h4] at e
  cases e
 have hb:∀ i,i<w.heap.size→i≠g→(w.setCell ⟨g,k,none⟩ (.slice A (L k).length c)).heap[i]?=w.heap[i]?:=fun i _ hi=>Below.heap_setCell w ⟨g,k,none⟩ _ i hi
 have hz:w.heap.size≤(w.setCell ⟨g,k,none⟩ (.slice A (L k).length c)).heap.size:=by simp [World.setCell]
 refine ⟨cur.setIfInBounds k (.slice A (L k).length c),by simp [World.setCell,Array.getElem?_modify,h1],by simpa using h2,fun j hj=>?_⟩
 by_cases e:j=k
 ·subst e
  exact ⟨A,_,c,by simp [h2,hj],fun _=>⟨rfl,hI.off h1 hs hb hz⟩⟩
 ·obtain ⟨A',l,c',h4,h5⟩:=h3 j hj
  refine ⟨A',l,c',?_,fun hjk=>⟨(h5 (by omega)).1,(h5 (by omega)).2.off h1 hs hb hz⟩⟩
  rw [Array.getElem?_setIfInBounds_ne (fun h=>e h.symm)]
  exact h4
theorem SlB.made (w:World) (n:Nat) (L:Nat→List Int):SlB (w.alloc (.cells (madeCells #[.slice none 0 0] n) 26)) w.heap.size n 0 L:=by
 refine ⟨_,heap_alloc_new w _,by simp [madeCells],fun j hj=>⟨none,0,0,?_,fun h=>by cases h⟩⟩
 simp [madeCells,hj,Nat.mod_one]
end
theorem Tryz.infoSl:(Tryz.prog.info? 26).map (fun i=>(i.zero,i.size,i.bytes))=some (some (.slice none 0 0),1,24):=by kernel_rfl
def Four (W:World) (q b o:Nat) (v0 v1 v2 x:Value):Prop:=(q<W.heap.size∧b<W.heap.size)∧W.cell? ⟨q,0,none⟩=some v0∧W.cell? ⟨q,1,none⟩=some v1∧W.cell? ⟨q,2,none⟩=some v2∧W.cell? ⟨b,o,none⟩=some x
theorem keep4 {W w':World} {q b o:Nat} {v0 v1 v2 x:Value} (h:Four W q b o v0 v1 v2 x) (hB:Below W.heap.size W w'):Below W.heap.size W w'∧w'.cell? ⟨q,0,none⟩=some v0∧w'.cell? ⟨q,1,none⟩=some v1∧w'.cell? ⟨q,2,none⟩=some v2∧w'.cell? ⟨b,o,none⟩=some x:=by
 obtain ⟨⟨h1,h2⟩,c0,c1,c2,c3⟩:=h
 exact ⟨hB,(hB.cell (p:=⟨q,0,none⟩) h1).trans c0,(hB.cell (p:=⟨q,1,none⟩) h1).trans c1,(hB.cell (p:=⟨q,2,none⟩) h1).trans c2,(hB.cell (p:=⟨b,o,none⟩) h2).trans c3⟩
set_option maxHeartbeats 4000000 in
theorem rls_any (A0:Option Addr) (cap n:Nat) (D:Nat→Dm) (A:Nat→Option Addr) (C:Nat→Nat) (Ap:Option Addr) (cp:Nat) (p:List Int) (w:World) (hp:InO D n p) (hM:DimsV w A0 cap n D A C) (hP:PlAt w Ap cp p):Calls Tryz.prog 33 #[.agg #[.slice A0 n cap],.slice Ap p.length cp] w fun e w'=>(∃ g,e=.returned (.tuple #[.slice (some ⟨g,0,none⟩) n n,.nilIface])∧SlB w' g n n (lfs D p))∧Below w.heap.size w w':=by
 have hB0:=ownOut_below w A0 n cap 24
 have h:=pcheck_any A0 cap n D A C Ap cp p (ownOut w A0 n cap 24) (hM.later hB0) (hP.later hB0)
 have HB0:Hid (Below w.heap.size w (ownOut w A0 n cap 24)):=hB0
 have HM:Hid (DimsV w A0 cap n D A C):=hM
 have HI:Hid (InO D n p):=hp
 rw [hp.ok,errV_zero] at h
 obtain ⟨hn1,hn4,-,hd⟩:=allErr_some hp.right
 have HD:Hid (∀ i,i<n→(dimErr (D i)).2=0):=(allErr_right hp.right).2
 have hl:=hp.len
 obtain ⟨hcp,h0 | ⟨bp,op,rfl,hbp,hcell⟩⟩:=hP
 ·rw [h0] at hl;simp at hl;omega
 rw [hl] at h hcp
 rw [hl]
 have HC:Hid (∀ j,j<n→w.cell? ⟨bp,op+j,none⟩=some (.int .i64 (p.getD j 0))):=fun j hj=>hcell j (by omega)
 have hn':(n:Int)≤4:=by omega
 have hmk:=run_make_row' (P:=Tryz.prog) 89 26 (.slice none 0 0) 24 Tryz.underlying89 Tryz.infoSl rfl .i64 .i64 n (by omega) (by omega)
 clear hB0 hM hp hl hcell hd
 go_enter Tryz.func33,Tryz.ntmps33
 go_wp2_with fail
 refine h.mono ?_
 rintro e w1 ⟨rfl,hb1⟩
 have hB:Below w.heap.size w w1:=onB HB0.out hb1
 have hz:w.heap.size<w1.heap.size:=by have:=hb1.size;rw [ownOut_size] at this;omega
 have h2:w1.cell? ⟨w.heap.size,0,none⟩=some (.slice A0 n cap):=(hb1.cell (p:=⟨w.heap.size,0,none⟩) (by show w.heap.size<_;rw [ownOut_size];omega)).trans (ownOut_at ..)
 obtain ⟨hcap,h0 | ⟨b,o,rfl,hMs⟩⟩:=HM.out.later hB
 ·omega
 have HMs:Hid (DimsAt w1 b o n D A C):=hMs
 have HB:Hid (Below w.heap.size w w1):=hB
 have HC1:Hid (∀ j,j<n→w1.cell? ⟨bp,op+j,none⟩=some (.int .i64 (p.getD j 0))):=fun j hj=>(hB.cell (p:=⟨bp,op+j,none⟩) hbp).trans (HC.out j hj)
 have hbp1:bp<w1.heap.size:=Nat.lt_of_lt_of_le hbp hB.size
 clear hb1 h hMs hB
 go_wp2_with fail
 clear hmk
 go_loopg [25] n (fun g s25 wr => ∃ (k:Nat),k≤n∧g=n-k∧s25=.int .i64 k∧SlB wr w1.heap.size n k (lfs D p)∧Below w1.heap.size w1 wr)
 case atStart=>exact ⟨0,Nat.zero_le _,rfl,rfl,SlB.made w1 n _,by go_grown⟩
 case round =>
  obtain ⟨k,hk,rfl,rfl,hS,hBw⟩:=hrel
  have HBw:Hid (Below w1.heap.size w1 wr):=hBw
  have HS:Hid (SlB wr w1.heap.size n k (lfs D p)):=hS
  by_cases hlt:k<n
  ·have hki:(k:Int)<(n:Int):=by omega
   obtain ⟨d0,d1,d2,h4⟩:=(HMs.out.later hBw).2 k hlt
   have hdk:=HD.out k hlt
   have e1:=(hBw.cell (p:=⟨bp,op+k,none⟩) hbp1).trans (HC1.out k hlt)
   have hbq:bp<wr.heap.size:=Nat.lt_of_lt_of_le hbp1 hBw.size
   have hte:treeErr (D k) [p.getD k 0]=0:=by
    have:=HI.out.lo k hlt
    have:=HI.out.hi k hlt
    rw [treeErr_one hdk,if_neg (by omega)]
   have HLf:Hid (∀ w',Below wr.heap.size wr w'→Calls Tryz.prog 62 #[dimV (D k) (A k) (C k),.int .i64 (p.getD k 0)] w' fun e w''=>(∃ A' c',e=.returned (.tuple #[.slice A' (lfs D p k).length c',.nilIface])∧IntsAt w'' A' c' (lfs D p k))∧Below w'.heap.size w' w''):=fun w' hw'=>by
    have:=leafs_any (D k) (A k) (C k) (p.getD k 0) w' (h4.later hw')
    rw [hte,errV_zero] at this
    exact this
   unfold dimV at HLf
   have hBx:Below wr.heap.size wr (ownDim wr (D k) (A k) (C k) 31):=ownDim_below ..
   have hFo:Four (ownDim wr (D k) (A k) (C k) 31) wr.heap.size bp (op+k) (.string (D k).name) (.int .i64 (D k).solve) (.slice (A k) (D k).n (C k)) (.int .i64 (p.getD k 0)):=by
    obtain ⟨x0,x1,x2⟩:=ownDim_at wr (D k) (A k) (C k) 31
    exact ⟨⟨by rw [ownDim_size];omega,Nat.lt_of_lt_of_le hbq hBx.size⟩,x0,x1,x2,(hBx.cell (p:=⟨bp,op+k,none⟩) hbq).trans e1⟩
   obtain ⟨Wx,hWx⟩:∃ W,ownDim wr (D k) (A k) (C k) 31=W:=⟨_,rfl⟩
   rw [hWx] at hFo hBx
   unfold ownDim at hWx
   have HFo:Hid (Four Wx wr.heap.size bp (op+k) (.string (D k).name) (.int .i64 (D k).solve) (.slice (A k) (D k).n (C k)) (.int .i64 (p.getD k 0))):=hFo
   have HBx:Hid (Below wr.heap.size wr Wx):=hBx
   generalize p.getD k 0=x at HLf HFo e1
   generalize (D k).name=dn at HLf HFo d0 hWx
   generalize (D k).solve=ds at HLf HFo d1 hWx
   generalize A k=Ak at HLf HFo d2 hWx
   generalize C k=Ck at HLf HFo d2 hWx
   generalize (D k).n=dk at HLf HFo d2 hWx
   obtain ⟨X,hX⟩:∃ X,lfs D p k=X:=⟨_,rfl⟩
   have HX:Hid (lfs D p k=X):=hX
   rw [hX] at HLf
   clear hFo hBx hS hBw h4 hdk hte hX
   go_wp2_with fail
   clear hWx
   go_cut [10,11] (fun s10 s11 wx => ∃ A' c',s10=.slice A' X.length c'∧s11=.nilIface∧IntsAt wx A' c' X∧Below Wx.heap.size Wx wx)
   case first=>as_aux_lemma =>
    go_region_held3 (fun w'=>Below Wx.heap.size Wx w'∧w'.cell? ⟨wr.heap.size,0,none⟩=some (.string dn)∧w'.cell? ⟨wr.heap.size,1,none⟩=some (.int .i64 ds)∧w'.cell? ⟨wr.heap.size,2,none⟩=some (.slice Ak dk Ck)∧w'.cell? ⟨bp,op+k,none⟩=some (.int .i64 x))
     ((refine keep4 HFo.out ?_;go_grown;done))
     (first | (go_at_call 62;refine (HLf.out _ (onB HBx.out (by go_grown))).mono ?_;rintro e w3 ⟨⟨A',c',rfl,hI⟩,hb3⟩;have hN3:=onB (W0:=Wx) (by go_grown) hb3;have hy3:=hN3.size;clear hb3))
    all_goals go_wp2_with fail
    all_goals go_meet
    all_goals exact ⟨_,_,rfl,rfl,by first | assumption | (refine IntsAt.later (by assumption) ?_;go_grown),by go_grown⟩
   case rest=>as_aux_lemma =>
   obtain ⟨A',c',rfl,rfl,hI,hb⟩:=hcut
   obtain ⟨w2,rfl⟩:∃ w2:World,w2=wc:=⟨_,rfl⟩
   have hB2:Below wr.heap.size wr w2:=onB HBx.out hb
   have hS2:=HS.out.later hB2
   obtain ⟨A1,l1,c1,hc1,-⟩:=hS2.at hlt
   have hfr:=hS2.frozen k
   have HB2:Hid (Below w1.heap.size w1 w2):=onB HBw.out hB2
   have HS2:Hid (SlB w2 w1.heap.size n k (lfs D p)):=hS2
   have HI2:Hid (IntsAt w2 A' c' X):=hI
   clear hb hB2 hS2 hI HLf HFo d0 d1 d2 e1
   go_wp2_with fail
   go_roundg (n-(k+1))
   case measure=>omega
   case rel =>
    refine ⟨k+1,by omega,rfl,by go_num,?_,HB2.out.setCell (by show w1.heap.size≤w1.heap.size;omega) _⟩
    have:=HS2.out.set hlt (A:=A') (c:=c') (by rw [HX.out];exact HI2.out)
    rw [HX.out] at this
    exact this
  ·have hke:k=n:=by omega
   subst hke
   clear hBw hS
   go_wp2_with fail
   go_ret2
   exact ⟨⟨_,rfl,HS.out⟩,onB HB.out HBw.out⟩
theorem rls_bad (A0:Option Addr) (cap n:Nat) (D:Nat→Dm) (A:Nat→Option Addr) (C:Nat→Nat) (Ap:Option Addr) (cp:Nat) (p:List Int) (w:World) (hp:placeErr D n p≠0) (hM:DimsV w A0 cap n D A C) (hP:PlAt w Ap cp p):Calls Tryz.prog 33 #[.agg #[.slice A0 n cap],.slice Ap p.length cp] w fun e w'=>e=.returned (.tuple #[.slice none 0 0,.iface 66 (.int .i64 (placeErr D n p))])∧Below w.heap.size w w':=by
 have hB0:=ownOut_below w A0 n cap 24
 have h:=pcheck_any A0 cap n D A C Ap cp p (ownOut w A0 n cap 24) (hM.later hB0) (hP.later hB0)
 have HB0:Hid (Below w.heap.size w (ownOut w A0 n cap 24)):=hB0
 rw [errV_some hp] at h
 clear hB0 hM hP hp
 generalize placeErr D n p=c at h
 generalize p.length=m at h
 go_enter Tryz.func33,Tryz.ntmps33
 go_wp2_with fail
 refine h.mono ?_
 rintro e w1 ⟨rfl,hb1⟩
 go_wp2_with fail
 go_ret2
 exact ⟨rfl,onB HB0.out hb1⟩
end Go.Proofs.YtnegjdcedhnjdaaGreatDoor
namespace Go.Proofs.YtnegjdcedhnjdaaGreatDoor
def misC (N:List (List Int)) (out:List Int) (j:Nat):Nat:=((N.getD j []).filter fun x => !(out.contains x)).length
def usrL (N:List (List Int)) (m n:Nat):List Int:=selTo (fun j=>(N.getD j []).contains (m:Int)) n
theorem usr_mem {N:List (List Int)} {m n:Nat} {x:Int}:x∈usrL N m n↔∃ j:Nat,x=j∧j<n∧(m:Int)∈N.getD j []:=by
 unfold usrL
 constructor
 ·intro h
  obtain ⟨j,h1,h2,h3⟩:=selTo_mem x h
  exact ⟨j,h1,h2,List.contains_iff_mem.1 h3⟩
 ·rintro ⟨j,rfl,h2,h3⟩
  exact sel_has h2 (List.contains_iff_mem.2 h3)
theorem usr_rise (N:List (List Int)) (m n:Nat):(usrL N m n).Pairwise (· < ·):=sel_rise _ _
theorem mis_none {N:List (List Int)} {out:List Int} {j:Nat}:misC N out j=0↔∀ x∈N.getD j [],x∈out:=by
 unfold misC
 rw [List.length_eq_zero_iff,List.filter_eq_nil_iff]
 refine forall_congr' fun x=>forall_congr' fun _=>?_
 simp
theorem mis_first (N:List (List Int)) (j:Nat):misC N [] j=(N.getD j []).length:=by
 unfold misC
 rw [List.filter_eq_self.2 fun x _=>by simp]
theorem mis_le (N:List (List Int)) (out:List Int) (j:Nat):misC N out j≤(N.getD j []).length:=List.length_filter_le _ _
theorem filt_one:∀ (L out:List Int) (m:Int),L.Pairwise (· < ·)→m∉out→(L.filter fun x => !(out.contains x)).length=(L.filter fun x => !((out ++ [m]).contains x)).length+(if m∈L then 1 else 0)
 | [],_,_,_,_=>rfl
 | a :: L,out,m,hL,hm=>by
  obtain ⟨h1,h2⟩:=List.pairwise_cons.1 hL
  have ih:=filt_one L out m h2 hm
  have hc:∀ x,(out ++ [m]).contains x=(out.contains x || x == m):=fun x=>by
   rw [Bool.eq_iff_iff,Bool.or_eq_true,List.contains_iff_mem,List.contains_iff_mem,List.mem_append,List.mem_singleton,beq_iff_eq]
  rw [List.filter_cons,List.filter_cons]
  by_cases ha:a=m
  ·subst ha
   have hn:a∉L:=fun h=>by have:=h1 a h;omega
   have e1:out.contains a=false:=by rw [←Bool.not_eq_true,List.contains_iff_mem];exact hm
   rw [hc a,e1]
   rw [if_neg hn] at ih
   simp only [Bool.not_false,if_true,beq_self_eq_true,Bool.or_true,Bool.not_true,Bool.false_eq_true,if_false,List.length_cons,List.mem_cons,true_or]
   omega
  ·have hb:(a == m)=false:=by simpa using ha
   have e2:(m∈a :: L)↔m∈L:=by
    rw [List.mem_cons]
    exact ⟨fun h=>h.resolve_left (fun e=>ha e.symm),Or.inr⟩
   rw [hc a,hb,Bool.or_false]
   cases out.contains a
   ·simp only [Bool.not_false,if_true,List.length_cons,e2]
    omega
   ·simp only [Bool.not_true,Bool.false_eq_true,if_false,e2]
    exact ih
theorem mis_next {N:List (List Int)} {out:List Int} {m j:Nat} (hr:(N.getD j []).Pairwise (· < ·)) (hm:(m:Int)∉out):misC N out j=misC N (out ++ [(m:Int)]) j+(if (m:Int)∈N.getD j [] then 1 else 0):=filt_one _ _ _ hr hm
theorem ord_closed (N:List (List Int)) (k:Nat):∀ j:Nat,(j:Int)∈ordTo N k→∀ x∈N.getD j [],x∈ordTo N k:=by
 induction k with
 | zero=>intro j hj;cases hj
 | succ k ih =>
  intro j hj x hx
  rw [ordTo,List.mem_append] at hj ⊢
  rcases hj with hj | hj
  ·exact Or.inl (ih j hj x hx)
  ·split at hj
   ·rename_i h
    obtain ⟨m,h1,-,h3,-⟩:=next_some h
    rw [List.mem_singleton,h1] at hj
    have:j=m:=by omega
    subst this
    exact Or.inl ((ok_out h3).2 x hx)
   ·cases hj
def RdyP (N:List (List Int)) (out R:List Int):Prop:=R.Pairwise (· < ·)∧∀ x,x∈R↔∃ j:Nat,x=j∧j<N.length∧okN N out j=true
def RdyI (N:List (List Int)) (out:List Int) (m i:Nat) (R:List Int):Prop:=R.Pairwise (· < ·)∧∀ x,x∈R↔∃ j:Nat,x=j∧j<N.length∧((okN N out j=true∧j≠m)∨((j:Int)∈(usrL N m N.length).take i∧misC N out j=1))
def misI (N:List (List Int)) (out:List Int) (m i j:Nat):Nat:=misC N out j-(if (j:Int)∈(usrL N m N.length).take i then 1 else 0)
theorem rdy_first {N:List (List Int)} {R:List Int} (hR:R=selTo (fun j=>(N.getD j []).isEmpty) N.length):RdyP N [] R:=by
 subst hR
 refine ⟨sel_rise _ _,fun x=>?_⟩
 constructor
 ·intro h
  obtain ⟨j,h1,h2,h3⟩:=selTo_mem x h
  refine ⟨j,h1,h2,ok_of (by simp) fun y hy=>?_⟩
  rw [List.isEmpty_iff] at h3
  rw [h3] at hy
  cases hy
 ·rintro ⟨j,rfl,h2,h3⟩
  refine sel_has h2 ?_
  rw [List.isEmpty_iff]
  have:=(ok_out h3).2
  cases h:N.getD j [] with
  | nil=>rfl
  | cons a r=>exact absurd (this a (by rw [h];simp)) (by simp)
theorem rdy_head {N:List (List Int)} (hN:Inn N) (hc:∀ i:Nat,i<N.length→cycB N i=false) {k:Nat} (hk:k<N.length) {R:List Int} (hR:RdyP N (ordTo N k) R):∃ (m:Nat) (R':List Int),R=(m:Int) :: R'∧m<N.length∧okN N (ordTo N k) m=true∧ordTo N (k+1)=ordTo N k ++ [(m:Int)]∧RdyI N (ordTo N k) m 0 R':=by
 obtain ⟨m,-,h2,h3,h4,h5⟩:=ord_snoc hN hc hk
 obtain ⟨hr,hm⟩:=hR
 have hmR:=(hm m).2 ⟨m,rfl,h2,h3⟩
 cases R with
 | nil=>cases hmR
 | cons a R' =>
  obtain ⟨r1,r2⟩:=List.pairwise_cons.1 hr
  have ham:a=(m:Int):=by
   obtain ⟨j,e1,e2,e3⟩:=(hm a).1 (by simp)
   rcases List.mem_cons.1 hmR with h | h
   ·exact h.symm
   ·have h6:=r1 _ h
    rw [h4 j (by omega)] at e3
    cases e3
  subst ham
  refine ⟨m,R',rfl,h2,h3,h5,r2,fun x=>?_⟩
  constructor
  ·intro hx
   obtain ⟨j,e1,e2,e3⟩:=(hm x).1 (List.mem_cons_of_mem _ hx)
   refine ⟨j,e1,e2,Or.inl ⟨e3,fun e=>?_⟩⟩
   have:=r1 x hx
   omega
  ·rintro ⟨j,rfl,e2,(⟨e3,e4⟩ | ⟨e3,-⟩)⟩
   ·rcases List.mem_cons.1 ((hm j).2 ⟨j,rfl,e2,e3⟩) with h | h
    ·omega
    ·exact h
   ·simp at e3
theorem rdy_end {N:List (List Int)} (hN:Inn N) (hc:∀ i:Nat,i<N.length→cycB N i=false) {R:List Int} (hR:RdyP N (ordTo N N.length) R):R=[]:=by
 refine List.eq_nil_iff_forall_not_mem.2 fun x hx=>?_
 obtain ⟨j,rfl,h2,h3⟩:=(hR.2 x).1 hx
 have hj:=(ok_out h3).1
 obtain ⟨h1,h4⟩:=ord_in N N.length
 have:=few N.length ((j:Int) :: ordTo N N.length) (List.nodup_cons.2 ⟨hj,h1⟩) fun y hy=>by
  rcases List.mem_cons.1 hy with rfl | hy
  ·omega
  ·exact h4 y hy
 rw [List.length_cons,ord_len hN hc N.length (Nat.le_refl _)] at this
 omega
def insL (R:List Int) (k:Int):List Int:=R.take (R.countP (· < k)) ++ k :: R.drop (R.countP (· < k))
theorem ins_parts:∀ (R:List Int) (k:Int),R.Pairwise (· < ·)→k∉R→(∀ a∈R.take (R.countP (· < k)),a<k)∧∀ b∈R.drop (R.countP (· < k)),k<b
 | [],k,_,_=>⟨fun a h=>by simp at h,fun b h=>by simp at h⟩
 | a :: R,k,hR,hk=>by
  obtain ⟨h1,h2⟩:=List.pairwise_cons.1 hR
  have hk2:k≠a∧k∉R:=by simpa using hk
  by_cases h:a<k
  ·obtain ⟨i1,i2⟩:=ins_parts R k h2 hk2.2
   rw [List.countP_cons_of_pos (by simpa using h),List.take_succ_cons,List.drop_succ_cons]
   refine ⟨fun x hx=>?_,i2⟩
   rcases List.mem_cons.1 hx with rfl | hx
   ·exact h
   ·exact i1 x hx
  ·have h0:(a :: R).countP (· < k)=0:=by
    rw [List.countP_eq_zero]
    intro x hx
    rcases List.mem_cons.1 hx with rfl | hx
    ·simpa using h
    ·have:=h1 x hx
     simp;omega
   rw [h0]
   refine ⟨fun x hx=>by simp at hx,fun x hx=>?_⟩
   rcases List.mem_cons.1 (show x∈a :: R from hx) with rfl | hx
   ·omega
   ·have:=h1 x hx;omega
theorem ins_rise {R:List Int} {k:Int} (hR:R.Pairwise (· < ·)) (hk:k∉R):(insL R k).Pairwise (· < ·)∧∀ x,x∈insL R k↔x=k∨x∈R:=by
 obtain ⟨h1,h2⟩:=ins_parts R k hR hk
 have hsp:R.take (R.countP (· < k)) ++ R.drop (R.countP (· < k))=R:=List.take_append_drop _ _
 refine ⟨?_,fun x=>?_⟩
 ·unfold insL
  rw [List.pairwise_append]
  refine ⟨hR.sublist (List.take_sublist _ _),List.pairwise_cons.2 ⟨h2,hR.sublist (List.drop_sublist _ _)⟩,fun a ha b hb=>?_⟩
  rcases List.mem_cons.1 hb with rfl | hb
  ·exact h1 a ha
  ·have:=h1 a ha
   have:=h2 b hb
   omega
 ·unfold insL
  rw [List.mem_append,List.mem_cons]
  have:x∈R↔x∈R.take (R.countP (· < k))∨x∈R.drop (R.countP (· < k)):=by rw [←List.mem_append,hsp]
  rw [this]
  constructor
  ·rintro (h | h | h)
   ·exact Or.inr (Or.inl h)
   ·exact Or.inl h
   ·exact Or.inr (Or.inr h)
  ·rintro (h | h | h)
   ·exact Or.inr (Or.inl h)
   ·exact Or.inl h
   ·exact Or.inr (Or.inr h)
theorem usr_take {N:List (List Int)} {m i:Nat} (hi:i<(usrL N m N.length).length) (x:Int):x∈(usrL N m N.length).take (i+1)↔x∈(usrL N m N.length).take i∨x=(usrL N m N.length).getD i 0:=by
 rw [List.take_succ_eq_append_getElem hi,List.mem_append,List.mem_singleton,List.getD_eq_getElem?_getD,List.getElem?_eq_getElem hi]
 rfl
theorem usr_new {N:List (List Int)} {m i:Nat} (hi:i<(usrL N m N.length).length):(usrL N m N.length).getD i 0∉(usrL N m N.length).take i:=by
 intro h
 rw [List.getD_eq_getElem?_getD,List.getElem?_eq_getElem hi,Option.getD_some] at h
 obtain ⟨j,hj,e⟩:=List.getElem_of_mem h
 have hj2:j<i:=by have:=hj;rw [List.length_take] at this;omega
 rw [List.getElem_take] at e
 have:=List.pairwise_iff_getElem.1 (usr_rise N m N.length) j i (by omega) hi hj2
 omega
theorem usr_step {N:List (List Int)} (hr:∀ j,j<N.length→(N.getD j []).Pairwise (· < ·)) {out:List Int} {m i:Nat} (hm:okN N out m=true) (hi:i<(usrL N m N.length).length):∃ u:Nat,(usrL N m N.length).getD i 0=(u:Int)∧u<N.length∧misI N out m i u=misC N out u∧1≤misC N out u∧misI N out m (i+1) u+1=misC N out u∧(∀ j,j≠u→misI N out m (i+1) j=misI N out m i j)∧∀ R,RdyI N out m i R→(u:Int)∉R∧(misC N out u=1→RdyI N out m (i+1) (insL R u))∧(misC N out u≠1→RdyI N out m (i+1) R):=by
 have hmo:=(ok_out hm).1
 have hmem:(usrL N m N.length).getD i 0∈usrL N m N.length:=by
  rw [List.getD_eq_getElem?_getD,List.getElem?_eq_getElem hi];exact List.getElem_mem hi
 obtain ⟨u,e1,e2,e3⟩:=usr_mem.1 hmem
 have hnew:=usr_new hi
 rw [e1] at hnew
 have h1:1≤misC N out u:=by
  have:=mis_next (hr u e2) hmo
  rw [if_pos e3] at this
  omega
 have hnk:okN N out u=false:=by
  rw [←Bool.not_eq_true]
  intro h
  exact hmo ((ok_out h).2 _ e3)
 have ht:=fun x=>usr_take (N:=N) (m:=m) hi x
 rw [e1] at ht
 refine ⟨u,e1,e2,by unfold misI;rw [if_neg hnew];omega,h1,?_,fun j hj=>?_,fun R hR=>?_⟩
 ·unfold misI
  rw [if_pos ((ht u).2 (Or.inr rfl))]
  omega
 ·unfold misI
  have:((j:Int)∈(usrL N m N.length).take (i+1))↔(j:Int)∈(usrL N m N.length).take i:=by
   rw [ht]
   exact ⟨fun h=>h.resolve_right (by omega),Or.inl⟩
  simp only [this]
 ·have hnR:(u:Int)∉R:=fun h=>by
   obtain ⟨j,f1,f2,(⟨f3,-⟩ | ⟨f3,-⟩)⟩:=(hR.2 u).1 h
   ·have:j=u:=by omega
    subst this
    rw [hnk] at f3
    cases f3
   ·have:j=u:=by omega
    subst this
    exact hnew f3
  refine ⟨hnR,fun h=>?_,fun h=>⟨hR.1,fun x=>?_⟩⟩
  ·obtain ⟨i1,i2⟩:=ins_rise hR.1 hnR
   refine ⟨i1,fun x=>?_⟩
   rw [i2,hR.2]
   constructor
   ·rintro (rfl | ⟨j,f1,f2,f3⟩)
    ·exact ⟨u,rfl,e2,Or.inr ⟨(ht u).2 (Or.inr rfl),h⟩⟩
    ·refine ⟨j,f1,f2,?_⟩
     rcases f3 with f3 | ⟨f3,f4⟩
     ·exact Or.inl f3
     ·exact Or.inr ⟨(ht j).2 (Or.inl f3),f4⟩
   ·rintro ⟨j,f1,f2,(f3 | ⟨f3,f4⟩)⟩
    ·exact Or.inr ⟨j,f1,f2,Or.inl f3⟩
    ·rcases (ht j).1 f3 with f5 | f5
     ·exact Or.inr ⟨j,f1,f2,Or.inr ⟨f5,f4⟩⟩
     ·exact Or.inl (f1.trans f5)
  ·rw [hR.2]
   constructor
   ·rintro ⟨j,f1,f2,f3⟩
    refine ⟨j,f1,f2,?_⟩
    rcases f3 with f3 | ⟨f3,f4⟩
    ·exact Or.inl f3
    ·exact Or.inr ⟨(ht j).2 (Or.inl f3),f4⟩
   ·rintro ⟨j,f1,f2,(f3 | ⟨f3,f4⟩)⟩
    ·exact ⟨j,f1,f2,Or.inl f3⟩
    ·rcases (ht j).1 f3 with f5 | f5
     ·exact ⟨j,f1,f2,Or.inr ⟨f5,f4⟩⟩
     ·have:j=u:=by omega
      subst this
      exact absurd f4 h
theorem usr_end {N:List (List Int)} (hr:∀ j,j<N.length→(N.getD j []).Pairwise (· < ·)) {k m:Nat} (hm:okN N (ordTo N k) m=true):(∀ j,j<N.length→misI N (ordTo N k) m (usrL N m N.length).length j=misC N (ordTo N k ++ [(m:Int)]) j)∧∀ R,RdyI N (ordTo N k) m (usrL N m N.length).length R→RdyP N (ordTo N k ++ [(m:Int)]) R:=by
 have hmo:=(ok_out hm).1
 have hmn:=(ok_out hm).2
 refine ⟨fun j hj=>?_,fun R hR=>⟨hR.1,fun x=>?_⟩⟩
 ·unfold misI
  rw [List.take_length]
  have h1:=mis_next (hr j hj) hmo
  by_cases h:(m:Int)∈N.getD j []
  ·rw [if_pos (usr_mem.2 ⟨j,rfl,hj,h⟩)]
   rw [if_pos h] at h1
   omega
  ·have hnu:(j:Int)∉usrL N m N.length:=fun e=>by
    obtain ⟨i,e1,-,e3⟩:=usr_mem.1 e
    have e2:i=j:=by omega
    rw [e2] at e3
    exact h e3
   rw [if_neg hnu]
   rw [if_neg h] at h1
   omega
 ·rw [hR.2,List.take_length]
  constructor
  ·rintro ⟨j,f1,f2,f3⟩
   refine ⟨j,f1,f2,?_⟩
   rcases f3 with ⟨f3,f4⟩ | ⟨f3,f4⟩
   ·obtain ⟨g1,g2⟩:=ok_out f3
    refine ok_of ?_ fun y hy=>List.mem_append.2 (Or.inl (g2 y hy))
    rw [List.mem_append,List.mem_singleton]
    rintro (h | h)
    ·exact g1 h
    ·omega
   ·obtain ⟨i,e1,e2,e3⟩:=usr_mem.1 f3
    have:i=j:=by omega
    subst this
    have h1:=mis_next (hr i e2) hmo
    rw [if_pos e3,f4] at h1
    refine ok_of ?_ (mis_none.1 (by omega))
    rw [List.mem_append,List.mem_singleton]
    rintro (h | h)
    ·exact hmo (ord_closed N k i h _ e3)
    ·have:i=m:=by omega
     subst this
     exact hmo (hmn _ e3)
  ·rintro ⟨j,f1,f2,f3⟩
   obtain ⟨g1,g2⟩:=ok_out f3
   rw [List.mem_append,List.mem_singleton] at g1
   refine ⟨j,f1,f2,?_⟩
   by_cases h:(m:Int)∈N.getD j []
   ·refine Or.inr ⟨usr_mem.2 ⟨j,rfl,f2,h⟩,?_⟩
    have h1:=mis_next (hr j f2) hmo
    rw [if_pos h,mis_none.2 g2] at h1
    omega
   ·refine Or.inl ⟨ok_of (fun e=>g1 (Or.inl e)) fun y hy=>?_,fun e=>g1 (Or.inr (by omega))⟩
    rcases List.mem_append.1 (g2 y hy) with h2 | h2
    ·exact h2
    ·rw [List.mem_singleton] at h2
     rw [h2] at hy
     exact absurd hy h
end Go.Proofs.YtnegjdcedhnjdaaGreatDoor
