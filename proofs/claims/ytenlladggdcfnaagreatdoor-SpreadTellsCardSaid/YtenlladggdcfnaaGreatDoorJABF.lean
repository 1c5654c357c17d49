/-
  The leafs of a place's members, dim by dim: what leafs of package roll answers, called in whatever memory: a row of lists, in new memory; or what is wrong with the place.
-/
import Derived.Test.YtenlladggdcfnaaGreatDoorJABA
import Derived.Test.YtenlladggdcfnaaGreatDoorJABE
namespace Go.Proofs.YtenlladggdcfnaaGreatDoor
open Go.ChangeShapes Go.WideShapes Go.ChangeAt Go.RowKit
set_option maxRecDepth 20000
def SlB (w:World) (g n k:Nat) (L:Nat→List Int):Prop := ∃ cur:Array Value,w.heap[g]?=some (.cells cur 22 (0,0))∧cur.size=n∧∀ j,j<n→∃ A l c,cur[j]?=some (.slice A l c)∧(j<k→l=(L j).length∧IntsAt w A c (L j))
section
variable {w w':World} {g n k:Nat} {L:Nat→List Int}
theorem SlB.lt (h:SlB w g n k L):g<w.heap.size:=by
 obtain ⟨cur,h1,_⟩:=h
 exact (Array.getElem?_eq_some_iff.1 h1).1
theorem SlB.at (h:SlB w g n k L) {j:Nat} (hj:j<n):∃ A l c,w.cell? ⟨g,j,none⟩=some (.slice A l c)∧(j<k→l=(L j).length∧IntsAt w A c (L j)):=by
 obtain ⟨cur,h1,h2,h3⟩:=h
 obtain ⟨A,l,c,h4,h5⟩:=h3 j hj
 exact ⟨A,l,c,by simp [World.cell?,h1,h4],h5⟩
theorem SlB.get (h:SlB w g n n L) {j:Nat} (hj:j<n):∃ A c,w.cell? ⟨g,j,none⟩=some (.slice A (L j).length c)∧IntsAt w A c (L j):=by
 obtain ⟨A,l,c,h1,h2⟩:=h.at hj
 obtain ⟨rfl,h3⟩:=h2 hj
 exact ⟨A,c,h1,h3⟩
theorem SlB.frozen (h:SlB w g n k L) (j:Nat):w.frozen? ⟨g,j,none⟩=false:=by
 obtain ⟨cur,h1,_⟩:=h
 exact Lib.frozen_of_heap h1 j
theorem SlB.later (h:SlB w g n k L) (hB:Below w.heap.size w w'):SlB w' g n k L:=by
 have hlt:=h.lt
 obtain ⟨cur,h1,h2,h3⟩:=h
 refine ⟨cur,(hB.block g hlt).trans h1,h2,fun j hj=>?_⟩
 obtain ⟨A,l,c,h4,h5⟩:=h3 j hj
 exact ⟨A,l,c,h4,fun hk=>⟨(h5 hk).1,(h5 hk).2.later hB⟩⟩
theorem IntsAt.off {A:Option Addr} {c:Nat} {X:List Int} {cur:Array Value} {T:Nat} (h:IntsAt w A c X) (hg:w.heap[g]?=some (.cells cur T (0,0))) (hs:∀ x y,cur[0]?=some (.int x y)→False) (hb:∀ i,i<w.heap.size→i≠g→w'.heap[i]?=w.heap[i]?) (hz:w.heap.size≤w'.heap.size):IntsAt w' A c X:=by
 obtain ⟨h1,h2 | ⟨b,h2,h3,h4⟩⟩:=h
 ·exact ⟨h1,Or.inl h2⟩
 ·by_cases h0:X.length=0
  ·exact ⟨h1,Or.inl (List.eq_nil_of_length_eq_zero h0)⟩
  ·have hne:b≠g:=fun e=>by
    have:=h4 0 (by omega)
    rw [e] at this
    simp only [World.cell?,hg] at this
    exact hs _ _ this
   exact ⟨h1,Or.inr ⟨b,h2,Nat.lt_of_lt_of_le h3 hz,fun j hj=>(World.cell?_of_block (a:=⟨b,j,none⟩) (hb b h3 hne)).trans (h4 j hj)⟩⟩
theorem SlB.set (h:SlB w g n k L) (hk:k<n) {A:Option Addr} {c:Nat} (hI:IntsAt w A c (L k)):SlB (w.setCell ⟨g,k,none⟩ (.slice A (L k).length c)) g n (k+1) L:=by
 obtain ⟨cur,h1,h2,h3⟩:=h
 have hs:∀ x y,cur[0]?=some (.int x y)→False:=fun x y e=>by
  obtain ⟨A,l,c,h4,-⟩:=h3 0 (by omega)
  rw [h4] at e
  cases e
 have hb:∀ i,i<w.heap.size→i≠g→(w.setCell ⟨g,k,none⟩ (.slice A (L k).length c)).heap[i]?=w.heap[i]?:=fun i _ hi=>Below.heap_setCell w ⟨g,k,none⟩ _ i hi
 have hz:w.heap.size≤(w.setCell ⟨g,k,none⟩ (.slice A (L k).length c)).heap.size:=by simp [World.setCell]
 refine ⟨cur.setIfInBounds k (.slice A (L k).length c),by simp [World.setCell,Array.getElem?_modify,h1],by simpa using h2,fun j hj=>?_⟩
 by_cases e:j=k
 ·subst e
  exact ⟨A,_,c,by simp [h2,hj],fun _=>⟨rfl,hI.off h1 hs hb hz⟩⟩
 ·obtain ⟨A',l,c',h4,h5⟩:=h3 j hj
  refine ⟨A',l,c',?_,fun hjk=>⟨(h5 (by omega)).1,(h5 (by omega)).2.off h1 hs hb hz⟩⟩
  rw [Array.getElem?_setIfInBounds_ne (fun h=>e h.symm)]
  exact h4
theorem SlB.made (w:World) (n:Nat) (L:Nat→List Int):SlB (w.alloc (.cells (madeCells #[.slice none 0 0] n) 22)) w.heap.size n 0 L:=by
 refine ⟨_,heap_alloc_new w _,by simp [madeCells],fun j hj=>⟨none,0,0,?_,fun h=>by cases h⟩⟩
 simp [madeCells,hj,Nat.mod_one]
end
theorem Tryz.infoSl:(Tryz.prog.info? 22).map (fun i=>(i.zero,i.size,i.bytes))=some (some (.slice none 0 0),1,24):=by kernel_rfl
def Four (W:World) (q b o:Nat) (v0 v1 v2 x:Value):Prop:=(q<W.heap.size∧b<W.heap.size)∧W.cell? ⟨q,0,none⟩=some v0∧W.cell? ⟨q,1,none⟩=some v1∧W.cell? ⟨q,2,none⟩=some v2∧W.cell? ⟨b,o,none⟩=some x
theorem keep4 {W w':World} {q b o:Nat} {v0 v1 v2 x:Value} (h:Four W q b o v0 v1 v2 x) (hB:Below W.heap.size W w'):Below W.heap.size W w'∧w'.cell? ⟨q,0,none⟩=some v0∧w'.cell? ⟨q,1,none⟩=some v1∧w'.cell? ⟨q,2,none⟩=some v2∧w'.cell? ⟨b,o,none⟩=some x:=by
 obtain ⟨⟨h1,h2⟩,c0,c1,c2,c3⟩:=h
 exact ⟨hB,(hB.cell (p:=⟨q,0,none⟩) h1).trans c0,(hB.cell (p:=⟨q,1,none⟩) h1).trans c1,(hB.cell (p:=⟨q,2,none⟩) h1).trans c2,(hB.cell (p:=⟨b,o,none⟩) h2).trans c3⟩
set_option maxHeartbeats 4000000 in
theorem rls_any (A0:Option Addr) (cap n:Nat) (D:Nat→Dm) (A:Nat→Option Addr) (C:Nat→Nat) (Ap:Option Addr) (cp:Nat) (p:List Int) (w:World) (hp:InO D n p) (hM:DimsV w A0 cap n D A C) (hP:PlAt w Ap cp p):Calls Tryz.prog 49 #[.agg #[.slice A0 n cap],.slice Ap p.length cp] w fun e w'=>(∃ g,e=.returned (.tuple #[.slice (some ⟨g,0,none⟩) n n,.nilIface])∧SlB w' g n n (lfs D p))∧Below w.heap.size w w':=by
 have hB0:=ownOut_below w A0 n cap 25
 have h:=pcheck_any A0 cap n D A C Ap cp p (ownOut w A0 n cap 25) (hM.later hB0) (hP.later hB0)
 have HB0:Hid (Below w.heap.size w (ownOut w A0 n cap 25)):=hB0
 have HM:Hid (DimsV w A0 cap n D A C):=hM
 have HI:Hid (InO D n p):=hp
 rw [hp.ok,errV_zero] at h
 obtain ⟨hn1,hn4,-,hd⟩:=allErr_some hp.right
 have HD:Hid (∀ i,i<n→(dimErr (D i)).2=0):=(allErr_right hp.right).2
 have hl:=hp.len
 obtain ⟨hcp,h0 | ⟨bp,op,rfl,hbp,hcell⟩⟩:=hP
 ·rw [h0] at hl;simp at hl;omega
 rw [hl] at h hcp
 rw [hl]
 have HC:Hid (∀ j,j<n→w.cell? ⟨bp,op+j,none⟩=some (.int .i64 (p.getD j 0))):=fun j hj=>hcell j (by omega)
 have hn':(n:Int)≤4:=by omega
 have hmk:=run_make_row' (P:=Tryz.prog) 94 22 (.slice none 0 0) 24 Tryz.underlying94 Tryz.infoSl rfl .i64 .i64 n (by omega) (by omega)
 clear hB0 hM hp hl hcell hd
 go_enter Tryz.func49,Tryz.ntmps49
 go_wp2_with fail
 refine h.mono ?_
 rintro e w1 ⟨rfl,hb1⟩
 have hB:Below w.heap.size w w1:=onB HB0.out hb1
 have hz:w.heap.size<w1.heap.size:=by have:=hb1.size;rw [ownOut_size] at this;omega
 have h2:w1.cell? ⟨w.heap.size,0,none⟩=some (.slice A0 n cap):=(hb1.cell (p:=⟨w.heap.size,0,none⟩) (by show w.heap.size<_;rw [ownOut_size];omega)).trans (ownOut_at ..)
 obtain ⟨hcap,h0 | ⟨b,o,rfl,hMs⟩⟩:=HM.out.later hB
 ·omega
 have HMs:Hid (DimsAt w1 b o n D A C):=hMs
 have HB:Hid (Below w.heap.size w w1):=hB
 have HC1:Hid (∀ j,j<n→w1.cell? ⟨bp,op+j,none⟩=some (.int .i64 (p.getD j 0))):=fun j hj=>(hB.cell (p:=⟨bp,op+j,none⟩) hbp).trans (HC.out j hj)
 have hbp1:bp<w1.heap.size:=Nat.lt_of_lt_of_le hbp hB.size
 clear hb1 h hMs hB
 go_wp2_with fail
 clear hmk
 go_loopg [25] n (fun g s25 wr => ∃ (k:Nat),k≤n∧g=n-k∧s25=.int .i64 k∧SlB wr w1.heap.size n k (lfs D p)∧Below w1.heap.size w1 wr)
 case atStart=>exact ⟨0,Nat.zero_le _,rfl,rfl,SlB.made w1 n _,by go_grown⟩
 case round =>
  obtain ⟨k,hk,rfl,rfl,hS,hBw⟩:=hrel
  have HBw:Hid (Below w1.heap.size w1 wr):=hBw
  have HS:Hid (SlB wr w1.heap.size n k (lfs D p)):=hS
  by_cases hlt:k<n
  ·have hki:(k:Int)<(n:Int):=by omega
   obtain ⟨d0,d1,d2,h4⟩:=(HMs.out.later hBw).2 k hlt
   have hdk:=HD.out k hlt
   have e1:=(hBw.cell (p:=⟨bp,op+k,none⟩) hbp1).trans (HC1.out k hlt)
   have hbq:bp<wr.heap.size:=Nat.lt_of_lt_of_le hbp1 hBw.size
   have hte:treeErr (D k) [p.getD k 0]=0:=by
    have:=HI.out.lo k hlt
    have:=HI.out.hi k hlt
    rw [treeErr_one hdk,if_neg (by omega)]
   have HLf:Hid (∀ w',Below wr.heap.size wr w'→Calls Tryz.prog 74 #[dimV (D k) (A k) (C k),.int .i64 (p.getD k 0)] w' fun e w''=>(∃ A' c',e=.returned (.tuple #[.slice A' (lfs D p k).length c',.nilIface])∧IntsAt w'' A' c' (lfs D p k))∧Below w'.heap.size w' w''):=fun w' hw'=>by
    have:=leafs_any (D k) (A k) (C k) (p.getD k 0) w' (h4.later hw')
    rw [hte,errV_zero] at this
    exact this
   unfold dimV at HLf
   have hBx:Below wr.heap.size wr (ownDim wr (D k) (A k) (C k) 81):=ownDim_below ..
   have hFo:Four (ownDim wr (D k) (A k) (C k) 81) wr.heap.size bp (op+k) (.string (D k).name) (.int .i64 (D k).solve) (.slice (A k) (D k).n (C k)) (.int .i64 (p.getD k 0)):=by
    obtain ⟨x0,x1,x2⟩:=ownDim_at wr (D k) (A k) (C k) 81
    exact ⟨⟨by rw [ownDim_size];omega,Nat.lt_of_lt_of_le hbq hBx.size⟩,x0,x1,x2,(hBx.cell (p:=⟨bp,op+k,none⟩) hbq).trans e1⟩
   obtain ⟨Wx,hWx⟩:∃ W,ownDim wr (D k) (A k) (C k) 81=W:=⟨_,rfl⟩
   rw [hWx] at hFo hBx
   unfold ownDim at hWx
   have HFo:Hid (Four Wx wr.heap.size bp (op+k) (.string (D k).name) (.int .i64 (D k).solve) (.slice (A k) (D k).n (C k)) (.int .i64 (p.getD k 0))):=hFo
   have HBx:Hid (Below wr.heap.size wr Wx):=hBx
   generalize p.getD k 0=x at HLf HFo e1
   generalize (D k).name=dn at HLf HFo d0 hWx
   generalize (D k).solve=ds at HLf HFo d1 hWx
   generalize A k=Ak at HLf HFo d2 hWx
   generalize C k=Ck at HLf HFo d2 hWx
   generalize (D k).n=dk at HLf HFo d2 hWx
   obtain ⟨X,hX⟩:∃ X,lfs D p k=X:=⟨_,rfl⟩
   have HX:Hid (lfs D p k=X):=hX
   rw [hX] at HLf
   clear hFo hBx hS hBw h4 hdk hte hX
   go_wp2_with fail
   clear hWx
   go_cut [10,11] (fun s10 s11 wx => ∃ A' c',s10=.slice A' X.length c'∧s11=.nilIface∧IntsAt wx A' c' X∧Below Wx.heap.size Wx wx)
   case first=>as_aux_lemma =>
    go_region_held3 (fun w'=>Below Wx.heap.size Wx w'∧w'.cell? ⟨wr.heap.size,0,none⟩=some (.string dn)∧w'.cell? ⟨wr.heap.size,1,none⟩=some (.int .i64 ds)∧w'.cell? ⟨wr.heap.size,2,none⟩=some (.slice Ak dk Ck)∧w'.cell? ⟨bp,op+k,none⟩=some (.int .i64 x))
     ((refine keep4 HFo.out ?_;go_grown;done))
     (first | (go_at_call 74;refine (HLf.out _ (onB HBx.out (by go_grown))).mono ?_;rintro e w3 ⟨⟨A',c',rfl,hI⟩,hb3⟩;have hN3:=onB (W0:=Wx) (by go_grown) hb3;have hy3:=hN3.size;clear hb3))
    all_goals go_wp2_with fail
    all_goals go_meet
    all_goals exact ⟨_,_,rfl,rfl,by first | assumption | (refine IntsAt.later (by assumption) ?_;go_grown),by go_grown⟩
   case rest=>as_aux_lemma =>
   obtain ⟨A',c',rfl,rfl,hI,hb⟩:=hcut
   obtain ⟨w2,rfl⟩:∃ w2:World,w2=wc:=⟨_,rfl⟩
   have hB2:Below wr.heap.size wr w2:=onB HBx.out hb
   have hS2:=HS.out.later hB2
   obtain ⟨A1,l1,c1,hc1,-⟩:=hS2.at hlt
   have hfr:=hS2.frozen k
   have HB2:Hid (Below w1.heap.size w1 w2):=onB HBw.out hB2
   have HS2:Hid (SlB w2 w1.heap.size n k (lfs D p)):=hS2
   have HI2:Hid (IntsAt w2 A' c' X):=hI
   clear hb hB2 hS2 hI HLf HFo d0 d1 d2 e1
   go_wp2_with fail
   go_roundg (n-(k+1))
   case measure=>omega
   case rel =>
    refine ⟨k+1,by omega,rfl,by go_num,?_,HB2.out.setCell (by show w1.heap.size≤w1.heap.size;omega) _⟩
    have:=HS2.out.set hlt (A:=A') (c:=c') (by rw [HX.out];exact HI2.out)
    rw [HX.out] at this
    exact this
  ·have hke:k=n:=by omega
   subst hke
   clear hBw hS
   go_wp2_with fail
   go_ret2
   exact ⟨⟨_,rfl,HS.out⟩,onB HB.out HBw.out⟩
theorem rls_bad (A0:Option Addr) (cap n:Nat) (D:Nat→Dm) (A:Nat→Option Addr) (C:Nat→Nat) (Ap:Option Addr) (cp:Nat) (p:List Int) (w:World) (hp:placeErr D n p≠0) (hM:DimsV w A0 cap n D A C) (hP:PlAt w Ap cp p):Calls Tryz.prog 49 #[.agg #[.slice A0 n cap],.slice Ap p.length cp] w fun e w'=>e=.returned (.tuple #[.slice none 0 0,.iface 46 (.int .i64 (placeErr D n p))])∧Below w.heap.size w w':=by
 have hB0:=ownOut_below w A0 n cap 25
 have h:=pcheck_any A0 cap n D A C Ap cp p (ownOut w A0 n cap 25) (hM.later hB0) (hP.later hB0)
 have HB0:Hid (Below w.heap.size w (ownOut w A0 n cap 25)):=hB0
 rw [errV_some hp] at h
 clear hB0 hM hP hp
 generalize placeErr D n p=c at h
 generalize p.length=m at h
 go_enter Tryz.func49,Tryz.ntmps49
 go_wp2_with fail
 refine h.mono ?_
 rintro e w1 ⟨rfl,hb1⟩
 go_wp2_with fail
 go_ret2
 exact ⟨rfl,onB HB0.out hb1⟩
theorem rright_any (A0:Option Addr) (cap n:Nat) (D:Nat→Dm) (A:Nat→Option Addr) (C:Nat→Nat) (w:World) (hM:DimsV w A0 cap n D A C):Calls Tryz.prog 61 #[.agg #[.slice A0 n cap]] w fun e w'=>e=.returned (.int .i64 (allErr D n).2.2)∧Below w.heap.size w w':=by
 have hB0:=ownOut_below w A0 n cap 25
 have h:=routline_any A0 cap n D A C (ownOut w A0 n cap 25) (hM.later hB0)
 have HB0:Hid (Below w.heap.size w (ownOut w A0 n cap 25)):=hB0
 clear hM hB0
 generalize (allErr D n).2.2=v at h
 generalize (allErr D n).1=x at h
 generalize (allErr D n).2.1=y at h
 go_enter Tryz.func61,Tryz.ntmps61
 go_wp2_with fail
 refine h.mono ?_
 rintro e w1 ⟨rfl,hb1⟩
 go_wp2_with fail
 go_ret
 exact ⟨rfl,onB HB0.out hb1⟩
set_option maxHeartbeats 4000000 in
theorem rplace_any (A0:Option Addr) (cap n:Nat) (D:Nat→Dm) (A:Nat→Option Addr) (C:Nat→Nat) (Ap:Option Addr) (cp:Nat) (L:List Int) (w:World) (hR:(allErr D n).2.2=0) (hM:DimsV w A0 cap n D A C) (hP:PlAt w Ap cp L):Calls Tryz.prog 19 #[.agg #[.slice A0 n cap],.slice Ap L.length cp] w fun e w'=>e=.returned (.int .i64 (shapeErr D n L))∧Below w.heap.size w w':=by
 obtain ⟨hn1,hn4,-,hd⟩:=allErr_some hR
 have hn':(n:Int)≤4:=by omega
 have HD:Hid (∀ i,i<n→1≤(D i).n∧(D i).n≤12):=hd
 clear hd hR
 by_cases hl:L.length=n
 ·have hle:((L.length:Int) == (n:Int))=true:=by simp [hl]
  have HL:Hid (L.length=n):=hl
  obtain ⟨hcp,h0 | ⟨bp,op,rfl,hbp,hcell⟩⟩:=hP
  ·rw [h0] at hl;simp at hl;omega
  obtain ⟨hcap,h0 | ⟨b,o,rfl,hMs⟩⟩:=hM
  ·omega
  rw [hl] at hle hcp
  rw [hl]
  have HC:Hid (∀ j,j<n→w.cell? ⟨bp,op+j,none⟩=some (.int .i64 (L.getD j 0))):=fun j hj=>hcell j (by omega)
  have HMs:Hid (DimsAt w b o n D A C):=hMs
  have HB0:Hid (Below w.heap.size w (ownOut w (some ⟨b,o,none⟩) n cap 25)):=ownOut_below ..
  have HO:Hid (∀ w',Below (w.heap.size+1) (ownOut w (some ⟨b,o,none⟩) n cap 25) w'→w'.cell? ⟨w.heap.size,0,none⟩=some (.slice (some ⟨b,o,none⟩) n cap)):=fun w' hw'=>(hw'.cell (p:=⟨w.heap.size,0,none⟩) (by show w.heap.size<_;omega)).trans (ownOut_at ..)
  clear hl hcell hMs
  go_enter Tryz.func19,Tryz.ntmps19
  go_wp2_with fail
  go_loopg [5] n (fun g s5 wr => ∃ (k:Nat),k≤n∧g=n-k∧s5=.int .i64 k∧findFrom (outP D L) (n-k) k=findFrom (outP D L) n 0∧Below (w.heap.size+1) (ownOut w (some ⟨b,o,none⟩) n cap 25) wr)
  case atStart=>exact ⟨0,Nat.zero_le _,rfl,rfl,rfl,Below.refl _ _⟩
  case round =>
   obtain ⟨k,hk,rfl,rfl,hf,hBw⟩:=hrel
   have HF:Hid (findFrom (outP D L) (n-k) k=findFrom (outP D L) n 0):=hf
   have HW:Hid (Below (w.heap.size+1) (ownOut w (some ⟨b,o,none⟩) n cap 25) wr):=hBw
   have hBo:Below w.heap.size w wr:=HB0.out.trans (hBw.mono (by omega))
   have HBo:Hid (Below w.heap.size w wr):=hBo
   by_cases hlt:k<n
   ·have hki:(k:Int)<(n:Int):=by omega
    have HSK:Hid (n-k=(n-(k+1))+1):=by show _=_;omega
    obtain ⟨-,-,h3,-⟩:=(HMs.out.later hBo).2 k hlt
    have hcx:wr.cell? ⟨bp,op+k,none⟩=some (.int .i64 (L.getD k 0)):=(hBo.cell (p:=⟨bp,op+k,none⟩) hbp).trans (HC.out k hlt)
    have c0:=HO.out wr hBw
    have hm:=(HD.out k hlt).2
    have HOK:Hid (outP D L k=(decide (L.getD k 0<0) || decide (((D k).n:Int)≤L.getD k 0))):=rfl
    generalize L.getD k 0=x at hcx HOK
    generalize (D k).n=m at h3 hm HOK
    have hm':(m:Int)≤12:=by omega
    clear hf hBw hBo
    by_cases hx0:x<0
    ·have HN:Hid (outP D L k=true):=by show _=_;rw [HOK.out,decide_eq_true hx0];rfl
     go_wp2_with fail
     go_quiet (fail)
     go_wp2_with fail
     go_ret
     refine ⟨?_,below_drewN HBo.out _⟩
     rw [sh1 HL.out]
     ·rfl
     ·rw [←HF.out,HSK.out,findFrom_hit _ HN.out];omega
    ·have hx0':0≤x:=by omega
     have hxd:decide (x<0)=false:=decide_eq_false hx0
     by_cases hx1:(m:Int)≤x
     ·have HN:Hid (outP D L k=true):=by show _=_;rw [HOK.out,decide_eq_true hx1];simp
      go_wp2_with fail
      go_quiet (fail)
      go_wp2_with fail
      go_ret
      refine ⟨?_,below_drewN HBo.out _⟩
      rw [sh1 HL.out]
      ·rfl
      ·rw [←HF.out,HSK.out,findFrom_hit _ HN.out];omega
     ·have hx1':x<(m:Int):=by omega
      have HN:Hid (outP D L k=false):=by show _=_;rw [HOK.out,hxd,decide_eq_false hx1];rfl
      go_wp2_with fail
      go_quiet (fail)
      go_wp2_with fail
      go_roundg (n-(k+1))
      case measure=>omega
      case rel=>exact ⟨k+1,by omega,rfl,by go_num,by rw [←HF.out,HSK.out,findFrom_miss _ HN.out],below_drewN HW.out _⟩
   ·have hke:k=n:=by omega
    subst hke
    clear hf hBw hBo
    go_wp2_with fail
    go_ret
    refine ⟨?_,HBo.out⟩
    rw [sh2 HL.out]
    ·rfl
    ·rw [←HF.out,Nat.sub_self];show ¬ (0:Int)≤-1;decide
 ·have hle:((L.length:Int) == (n:Int))=false:=by simp;omega
  have HR:Hid (shapeErr D n L=3):=sh0 hl
  generalize L.length=m at hle
  clear hl hM hP
  go_enter Tryz.func19,Tryz.ntmps19
  go_wp2_with fail
  go_ret
  exact ⟨by rw [HR.out];rfl,by go_grown⟩
set_option maxHeartbeats 4000000 in
theorem rleafplace_any (A0:Option Addr) (cap n:Nat) (D:Nat→Dm) (A:Nat→Option Addr) (C:Nat→Nat) (Ap:Option Addr) (cp:Nat) (L:List Int) (w:World) (hI:InO D n L) (hM:DimsV w A0 cap n D A C) (hP:PlAt w Ap cp L):Calls Tryz.prog 40 #[.agg #[.slice A0 n cap],.slice Ap L.length cp] w fun e w'=>e=.returned (.bool (leafV D n L))∧Below w.heap.size w w':=by
 obtain ⟨hn1,hn4,-,hd⟩:=allErr_some hI.right
 have hn':(n:Int)≤4:=by omega
 have HD:Hid (∀ i,i<n→1≤(D i).n∧(D i).n≤12):=hd
 have HI:Hid (InO D n L):=hI
 have HV:Hid (leafV D n L = !decide (0≤findFrom (notLeaf D L) n 0)):=by show _=_;unfold leafV;rw [if_pos hI.ok]
 have hl:=hI.len
 obtain ⟨hcp,h0 | ⟨bp,op,rfl,hbp,hcell⟩⟩:=hP
 ·rw [h0] at hl;simp at hl;omega
 obtain ⟨hcap,h0 | ⟨b,o,rfl,hMs⟩⟩:=hM
 ·omega
 rw [hl]
 have HC:Hid (∀ j,j<n→w.cell? ⟨bp,op+j,none⟩=some (.int .i64 (L.getD j 0))):=fun j hj=>hcell j (by omega)
 have HMs:Hid (DimsAt w b o n D A C):=hMs
 have HB0:Hid (Below w.heap.size w (ownOut w (some ⟨b,o,none⟩) n cap 25)):=ownOut_below ..
 have HO:Hid (∀ w',Below (w.heap.size+1) (ownOut w (some ⟨b,o,none⟩) n cap 25) w'→w'.cell? ⟨w.heap.size,0,none⟩=some (.slice (some ⟨b,o,none⟩) n cap)):=fun w' hw'=>(hw'.cell (p:=⟨w.heap.size,0,none⟩) (by show w.heap.size<_;omega)).trans (ownOut_at ..)
 have hS0:=ownOut_size w (some ⟨b,o,none⟩) n cap 25
 clear hl hcell hMs hd hI
 go_enter Tryz.func40,Tryz.ntmps40
 go_wp2_with fail
 go_loopg [5,6] n (fun g s5 s6 wr => ∃ (k:Nat),k≤n∧g=n-k∧s5=.int .i64 k∧findFrom (notLeaf D L) (n-k) k=findFrom (notLeaf D L) n 0∧Below (w.heap.size+1) (ownOut w (some ⟨b,o,none⟩) n cap 25) wr)
 case atStart=>exact ⟨0,Nat.zero_le _,rfl,rfl,rfl,Below.refl _ _⟩
 case round =>
  obtain ⟨k,hk,rfl,rfl,hf,hBw⟩:=hrel
  have HF:Hid (findFrom (notLeaf D L) (n-k) k=findFrom (notLeaf D L) n 0):=hf
  have HW:Hid (Below (w.heap.size+1) (ownOut w (some ⟨b,o,none⟩) n cap 25) wr):=hBw
  have hBo:Below w.heap.size w wr:=HB0.out.trans (hBw.mono (by omega))
  have HBo:Hid (Below w.heap.size w wr):=hBo
  by_cases hlt:k<n
  ·have hki:(k:Int)<(n:Int):=by omega
   have HSK:Hid (n-k=(n-(k+1))+1):=by show _=_;omega
   obtain ⟨h0,h1,h3,h4⟩:=(HMs.out.later hBo).2 k hlt
   have hlo:=HI.out.lo k hlt
   have hhi:=HI.out.hi k hlt
   obtain ⟨X,hX⟩:∃ X:Nat,L.getD k 0=X:=⟨(L.getD k 0).toNat,by omega⟩
   have hcx:wr.cell? ⟨bp,op+k,none⟩=some (.int .i64 (L.getD k 0)):=(hBo.cell (p:=⟨bp,op+k,none⟩) hbp).trans (HC.out k hlt)
   have HNL:Hid (notLeaf D L k = !leafB (D k).mem (D k).n X):=by show _=_;unfold notLeaf;rw [hX];rfl
   rw [hX] at hcx hlo hhi
   have c0:=HO.out wr hBw
   have hwz:w.heap.size+1≤wr.heap.size:=by have:=hBw.size;omega
   obtain ⟨hd1,hd2⟩:=HD.out k hlt
   obtain ⟨hcm,h5 | ⟨b',o',hA,hMm⟩⟩:=h4
   ·omega
   rw [hA] at h3
   have HLf:Hid (∀ w',Below wr.heap.size wr w'→Calls Tryz.prog 63 #[.agg #[.string (D k).name,.int .i64 (D k).solve,.slice (some ⟨b',o',none⟩) (D k).n (C k)],.int .i64 X] w' fun e w''=>e=.returned (.bool (leafB (D k).mem (D k).n X))∧Below w'.heap.size w' w''):=fun w' hw'=>rleaf_any (D k) b' o' (C k) X w' hd2 (by omega) (hMm.later hw')
   clear hf hBw hBo hX hMm hA
   cases hb:leafB (D k).mem (D k).n X
   ·rw [hb] at HLf HNL
    have HN:Hid (notLeaf D L k=true):=HNL.out
    clear hb
    go_wp2_with fail
    go_region_law ((go_simp;refine (HLf.out _ (by go_grown)).mono ?_;rintro e w2 ⟨rfl,hb2⟩;have hN2:=onB (W0:=wr) (by go_grown) hb2;clear hb2))
    all_goals go_wp2_with fail
    all_goals go_ret
    all_goals refine ⟨?_,onB HBo.out hN2⟩
    all_goals rw [HV.out,←HF.out,HSK.out,findFrom_hit _ HN.out,decide_eq_true (by omega)]
    all_goals rfl
   ·rw [hb] at HLf HNL
    have HN:Hid (notLeaf D L k=false):=HNL.out
    clear hb
    go_wp2_with fail
    go_region_law ((go_simp;refine (HLf.out _ (by go_grown)).mono ?_;rintro e w2 ⟨rfl,hb2⟩;have hN2:=onB (W0:=wr) (by go_grown) hb2;clear hb2))
    all_goals go_wp2_with fail
    all_goals go_roundg (n-(k+1))
    all_goals first | omega | exact ⟨k+1,by omega,rfl,by go_num,by rw [←HF.out,HSK.out,findFrom_miss _ HN.out],HW.out.trans (hN2.mono hwz)⟩
  ·have hke:k=n:=by omega
   subst hke
   clear hf hBw hBo
   go_wp2_with fail
   go_ret
   refine ⟨?_,HBo.out⟩
   rw [HV.out,←HF.out,Nat.sub_self]
   rfl
end Go.Proofs.YtenlladggdcfnaaGreatDoor
